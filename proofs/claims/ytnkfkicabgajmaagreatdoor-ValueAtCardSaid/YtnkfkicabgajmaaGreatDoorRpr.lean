/-
  CONTRACT of the reference's Print. Written by gen_rpr.py.
-/
import Derived.Test.YtnkfkicabgajmaaGreatDoorRu
import Derived.Test.YtnkfkicabgajmaaGreatDoorGTxt
namespace Go.Proofs.YtnkfkicabgajmaaGreatDoor
set_option linter.unusedSimpArgs false
set_option linter.unusedVariables false
open Go Go.RowKit

abbrev RpIH (D : Nat → Prop) (l : List V) : Prop := ∀ (x : V), x ∈ l → fieldsV x = true → (prV x).length ≤ 1000000000 → Sm x → ∀ (W : World) (C : Array Value), RdV D W C x → Calls Tryz.prog 32 #[.agg C] W fun e w' => e = .returned (.string (strOf (prV x))) ∧ Fr (fun _ => False) W w'
theorem strOf_ret {a b : List UInt8} (h : a = b) : Ending.returned (.string (strOf a)) = .returned (.string (strOf b)) := by rw [h]
set_option maxRecDepth 100000 in
set_option maxHeartbeats 8000000 in
theorem rpr0 (w : World) {D : Nat → Prop} {n : Int} {t : List UInt8} {l : List V} {ks : List (List UInt8)} {Al Ak : Option Addr} {cl ck : Nat} {css : List (Array Value)} (hp : VP D w 0 0 [] l ks Al cl Ak ck css) :
    Calls Tryz.prog 32 #[.agg (vcs 0 0 [] Al l.length cl Ak ks.length ck)] w fun e w' => e = .returned (.string (strOf (prV (.mk 0 0 [] l ks)))) ∧ Fr (fun _ => False) w w' := by
  go_enter Tryz.func32, Tryz.ntmps32
  go_wp2_with fail
  go_ret
  exact ⟨rfl, (Fr.refl _ w).alloc _⟩
set_option maxRecDepth 100000 in
set_option maxHeartbeats 8000000 in
theorem rpr1 (w : World) {D : Nat → Prop} {n : Int} {t : List UInt8} {l : List V} {ks : List (List UInt8)} {Al Ak : Option Addr} {cl ck : Nat} {css : List (Array Value)} (hp : VP D w 1 0 [] l ks Al cl Ak ck css) :
    Calls Tryz.prog 32 #[.agg (vcs 1 0 [] Al l.length cl Ak ks.length ck)] w fun e w' => e = .returned (.string (strOf (prV (.mk 1 0 [] l ks)))) ∧ Fr (fun _ => False) w w' := by
  go_enter Tryz.func32, Tryz.ntmps32
  go_wp2_with fail
  go_ret
  exact ⟨rfl, (Fr.refl _ w).alloc _⟩
set_option maxRecDepth 100000 in
set_option maxHeartbeats 8000000 in
theorem rpr2 (w : World) {D : Nat → Prop} {n : Int} {t : List UInt8} {l : List V} {ks : List (List UInt8)} {Al Ak : Option Addr} {cl ck : Nat} {css : List (Array Value)} (hp : VP D w 2 0 [] l ks Al cl Ak ck css) :
    Calls Tryz.prog 32 #[.agg (vcs 2 0 [] Al l.length cl Ak ks.length ck)] w fun e w' => e = .returned (.string (strOf (prV (.mk 2 0 [] l ks)))) ∧ Fr (fun _ => False) w w' := by
  go_enter Tryz.func32, Tryz.ntmps32
  go_wp2_with fail
  go_ret
  exact ⟨rfl, (Fr.refl _ w).alloc _⟩
set_option maxRecDepth 100000 in
set_option maxHeartbeats 8000000 in
theorem rpr3 (w : World) {D : Nat → Prop} {n : Int} {t : List UInt8} {l : List V} {ks : List (List UInt8)} {Al Ak : Option Addr} {cl ck : Nat} {css : List (Array Value)} (hp : VP D w 3 n [] l ks Al cl Ak ck css) :
    Calls Tryz.prog 32 #[.agg (vcs 3 n [] Al l.length cl Ak ks.length ck)] w fun e w' => e = .returned (.string (strOf (prV (.mk 3 n [] l ks)))) ∧ Fr (fun _ => False) w w' := by
  have CL := Lib.hid (fun W => rdigits_c W n hp.b.n0 hp.b.n1)
  go_enter Tryz.func32, Tryz.ntmps32
  go_wp2_with fail
  refine (CL.out _).mono ?_
  rintro e W2 ⟨rfl, f2⟩
  have F2 : Hid (Fr (fun _ => False) w W2) := Lib.hid (((Fr.refl _ w).alloc _).trans f2 (fun _ _ h => h))
  clear f2
  go_wp2_with fail
  go_ret
  exact ⟨rfl, F2.out⟩
set_option maxRecDepth 100000 in
set_option maxHeartbeats 8000000 in
theorem rpr4 (w : World) {D : Nat → Prop} {n : Int} {t : List UInt8} {l : List V} {ks : List (List UInt8)} {Al Ak : Option Addr} {cl ck : Nat} {css : List (Array Value)} (hp : VP D w 4 0 t l ks Al cl Ak ck css) (ht : t.length ≤ 1000000) :
    Calls Tryz.prog 32 #[.agg (vcs 4 0 t Al l.length cl Ak ks.length ck)] w fun e w' => e = .returned (.string (strOf (prV (.mk 4 0 t l ks)))) ∧ Fr (fun _ => False) w w' := by
  have CL := Lib.hid (fun W => rquoted_c W t ht)
  go_enter Tryz.func32, Tryz.ntmps32
  go_wp2_with fail
  refine (CL.out _).mono ?_
  rintro e W2 ⟨rfl, f2⟩
  have F2 : Hid (Fr (fun _ => False) w W2) := Lib.hid (((Fr.refl _ w).alloc _).trans f2 (fun _ _ h => h))
  clear f2
  go_wp2_with fail
  go_ret
  exact ⟨rfl, F2.out⟩
set_option maxRecDepth 100000 in
set_option maxHeartbeats 8000000 in
theorem rpr5 (w : World) {D : Nat → Prop} {n : Int} {t : List UInt8} {l : List V} {ks : List (List UInt8)} {Al Ak : Option Addr} {cl ck : Nat} {css : List (Array Value)} (hp : VP D w 5 0 [] l ks Al cl Ak ck css) (hB : (prV (.mk 5 0 [] l ks)).length ≤ 1000000000) (hfs : fieldss l = true) (hsm : ∀ x ∈ l, Sm x) (hks : ∀ s ∈ ks, s.length ≤ 1000000) (ih : RpIH D l) :
    Calls Tryz.prog 32 #[.agg (vcs 5 0 [] Al l.length cl Ak ks.length ck)] w fun e w' => e = .returned (.string (strOf (prV (.mk 5 0 [] l ks)))) ∧ Fr (fun _ => False) w w' := by
  have HP := Lib.hid hp
  have IH := Lib.hid ih
  have hll := hp.b.ll
  have hbl : (prE false true l ks).length + 2 ≤ 1000000000 := by
    have : prV (.mk 5 0 [] l ks) = 91 :: (prE false true l ks ++ [93]) := by rw [prV]; rfl
    rw [this] at hB
    simp at hB
    omega
  have HR : Hid (prV (.mk 5 0 [] l ks) = 91 :: (prE false true l ks ++ [93])) := Lib.hid (by rw [prV]; rfl)
  obtain ⟨z, hz⟩ : ∃ z, prV (.mk 5 0 [] l ks) = z := ⟨_, rfl⟩
  rw [hz] at HR ⊢
  obtain ⟨g, hg⟩ : ∃ g, w.heap.size = g := ⟨_, rfl⟩
  have HG := Lib.hid hg
  have HFS := Lib.hid hfs
  have HSM := Lib.hid hsm
  have HKS := Lib.hid hks
  clear hp ih hB hz hg hfs hsm hks
  go_enter Tryz.func32, Tryz.ntmps32
  go_upto_region 1 with fail
  refine abs_world (fun W => Hid (Blk W w.heap.size 25 (vcs 5 0 [] Al l.length cl Ak ks.length ck)) ∧ Hid (Fr (fun _ => False) w W)) ⟨Blk.new w _ _, (Fr.refl _ w).alloc _⟩ ?_
  rintro W1 ⟨B1, F1⟩
  rw [HG.out] at B1 ⊢
  have c0 : W1.cell? ⟨g, 0, none⟩ = some (.int .i64 5) := B1.out.cell 0
  go_wp2_with fail
  go_loopw [3, 4] (fun sv iv wr => ∃ (i : Nat) (s : List UInt8), i ≤ l.length ∧ iv = .int .i64 (i : Int) ∧ sv = .string (strOf s) ∧ Hid (s = prE false true (l.take i) ks) ∧ Hid (Blk wr g 25 (vcs 5 0 [] Al l.length cl Ak ks.length ck)) ∧ Hid (Fr (fun _ => False) w wr)) (fun _ iv _ => l.length - (intOf iv).toNat)
  case atStart => exact ⟨0, [], Nat.zero_le _, rfl, rfl, Lib.hid (by rw [List.take_zero, prE]), B1.out, F1.out⟩
  case round =>
    obtain ⟨i, s, hi, rfl, rfl, hs, hb, hf⟩ := hrel
    clear c0
    have c0 : wr.cell? ⟨g, 0, none⟩ = some (.int .i64 5) := hb.out.cell 0
    have c3 : wr.cell? ⟨g, 3, none⟩ = some (.slice Al l.length cl) := hb.out.cell 3
    have c4 : wr.cell? ⟨g, 4, none⟩ = some (.slice Ak ks.length ck) := hb.out.cell 4
    have hsl : s.length ≤ (prE false true l ks).length := by
      rw [hs.out]
      exact (prE_pre false l ks true i).length_le
    by_cases hlt : i < l.length
    case neg =>
      have hdl : decide ((i : Int) < (l.length : Int)) = false := decide_eq_false (by omega)
      have hdl' : decide (i < l.length) = false := decide_eq_false hlt
      have hc5 : ∀ W, (Op.stringOp .add ⟨#[91]⟩ (strOf s)).run Tryz.prog W = .ok (.string (strOf (91 :: s))) W := fun W => run_cat W [91] s (by simp; omega)
      have hc6 : ∀ W, (Op.stringOp .add (strOf (91 :: s)) ⟨#[93]⟩).run Tryz.prog W = .ok (.string (strOf ((91 :: s) ++ [93]))) W := fun W => run_cat W (91 :: s) [93] (by simp; omega)
      have HE : Hid ((91 :: s) ++ [93] = z) := Lib.hid (by rw [HR.out, hs.out, List.take_of_length_le (by omega)]; rfl)
      go_wp2_with fail
      go_ret
      exact ⟨strOf_ret HE.out, hf.out⟩
    have hdl : decide ((i : Int) < (l.length : Int)) = true := decide_eq_true (by omega)
    have hdl' : decide (i < l.length) = true := decide_eq_true hlt
    have hel := prE_take false l ks true i hlt
    have hbd : (prE false true (l.take (i + 1)) ks).length ≤ (prE false true l ks).length := (prE_pre false l ks true (i + 1)).length_le
    have hbd0 := hbd
    rw [hel, ← hs.out] at hbd
    unfold elT at hbd
    obtain ⟨b, off, C, hA, -, hrv, hrg, -⟩ := HP.out.at_ hlt
    subst hA
    have H5 := Lib.hid (szV hrv)
    have hmem := List.getElem_mem hlt
    have hfx : fieldsV l[i] = true := by
      have h : ∀ l : List V, fieldss l = true → ∀ x ∈ l, fieldsV x = true := by
        intro l
        induction l with
        | nil => intro _ x hx; cases hx
        | cons a l ih =>
          intro h x hx
          unfold fieldss at h
          simp only [Bool.and_eq_true] at h
          rcases List.mem_cons.1 hx with rfl | hx
          · exact h.1
          · exact ih h.2 x hx
      exact h l HFS.out _ hmem
    have hpl : (prV l[i]).length ≤ 1000000000 := by
      simp only [List.length_append] at hbd
      omega
    have CALL : Hid (∀ W, Fr (fun _ => False) w W → Calls Tryz.prog 32 #[.agg C] W fun e w' => e = .returned (.string (strOf (prV l[i]))) ∧ Fr (fun _ => False) W w') := Lib.hid (fun W hW => IH.out l[i] hmem hfx hpl (HSM.out _ hmem) W C (hrv.far hW))
    have HGR : Hid (∀ W, Fr (fun _ => False) w W → W.rangeAt b (off + i * 5) C.toList) := Lib.hid (fun W hW => rng_far hrg hW)
    clear hrv hrg hmem hfx
    rcases Nat.eq_zero_or_pos i with rfl | hi0
    · have l0 : s.length = s.length := rfl
      obtain ⟨s1, hs1⟩ : ∃ y, s ++ prV l[0] = y := ⟨_, rfl⟩
      have ls1 : s1.length = s.length + (prV l[0]).length := by rw [← hs1, List.length_append]
      have hc1 : ∀ W, (Op.stringOp .add (strOf s) (strOf (prV l[0]))).run Tryz.prog W = .ok (.string (strOf s1)) W := fun W => hs1 ▸ run_cat W s (prV l[0]) (by simp at hbd ⊢; omega)
      have Hs1 := Lib.hid hs1
      clear hs1
      have HS : Hid (s1 = prE false true (l.take (0 + 1)) ks) := Lib.hid (by rw [← Hs1.out, hel, hs.out]; unfold elT; simp)
      have F2 := Lib.hid hf.out
      have B2 := Lib.hid hb.out
      have CALL := Lib.hid (CALL.out wr F2.out)
      have HGR := Lib.hid (HGR.out wr F2.out)
      go_wp2_with (refine wpList_load_val rfl 25 _ rfl b _ rfl C HGR.out _ Tryz.underlying25 rfl H5.out ?_)
      refine CALL.out.mono ?_
      rintro e W3 ⟨rfl, f3⟩
      have F3 := Lib.hid (F2.out.trans f3 (fun _ _ h => h))
      have B3 := Lib.hid (keepB B2.out f3)
      clear f3
      go_wp2_with fail
      go_roundw
      case rel => exact ⟨1, _, by omega, by first | rfl | go_num, rfl, HS.out, B3.out, F3.out⟩
      case measure => simp [intOf]; omega
    · have d0 : decide ((0 : Int) < (i : Int)) = true := decide_eq_true (by omega)
      have d0' : decide (0 < i) = true := decide_eq_true hi0
      have hi0 : (i == 0) = false := by simp; omega
      have l0 : s.length = s.length := rfl
      obtain ⟨s1, hs1⟩ : ∃ y, s ++ ([44] : List UInt8) = y := ⟨_, rfl⟩
      have ls1 : s1.length = s.length + 1 := by rw [← hs1, List.length_append]; rfl
      have hc1 : ∀ W, (Op.stringOp .add (strOf s) ⟨#[44]⟩).run Tryz.prog W = .ok (.string (strOf s1)) W := fun W => hs1 ▸ run_cat W s (([44] : List UInt8)) (by simp at hbd ⊢; omega)
      have Hs1 := Lib.hid hs1
      clear hs1
      obtain ⟨s2, hs2⟩ : ∃ y, s1 ++ prV l[i] = y := ⟨_, rfl⟩
      have ls2 : s2.length = s1.length + (prV l[i]).length := by rw [← hs2, List.length_append]
      have hc2 : ∀ W, (Op.stringOp .add (strOf s1) (strOf (prV l[i]))).run Tryz.prog W = .ok (.string (strOf s2)) W := fun W => hs2 ▸ run_cat W s1 (prV l[i]) (by simp at hbd ⊢; omega)
      have Hs2 := Lib.hid hs2
      clear hs2
      have HS : Hid (s2 = prE false true (l.take (i + 1)) ks) := Lib.hid (by rw [← Hs2.out, ← Hs1.out, hel, hs.out]; unfold elT; rw [hi0]; simp)
      have F2 := Lib.hid hf.out
      have B2 := Lib.hid hb.out
      have CALL := Lib.hid (CALL.out wr F2.out)
      have HGR := Lib.hid (HGR.out wr F2.out)
      go_wp2_with (refine wpList_load_val rfl 25 _ rfl b _ rfl C HGR.out _ Tryz.underlying25 rfl H5.out ?_)
      refine CALL.out.mono ?_
      rintro e W3 ⟨rfl, f3⟩
      have F3 := Lib.hid (F2.out.trans f3 (fun _ _ h => h))
      have B3 := Lib.hid (keepB B2.out f3)
      clear f3
      go_wp2_with fail
      go_roundw
      case rel => exact ⟨i + 1, _, by omega, by first | rfl | go_num, rfl, HS.out, B3.out, F3.out⟩
      case measure => simp [intOf]; omega
set_option maxRecDepth 100000 in
set_option maxHeartbeats 8000000 in
theorem rpr6 (w : World) {D : Nat → Prop} {n : Int} {t : List UInt8} {l : List V} {ks : List (List UInt8)} {Al Ak : Option Addr} {cl ck : Nat} {css : List (Array Value)} (hp : VP D w 6 0 [] l ks Al cl Ak ck css) (hB : (prV (.mk 6 0 [] l ks)).length ≤ 1000000000) (hfs : fieldss l = true) (hsm : ∀ x ∈ l, Sm x) (hks : ∀ s ∈ ks, s.length ≤ 1000000) (hkl : ks.length = l.length) (ih : RpIH D l) :
    Calls Tryz.prog 32 #[.agg (vcs 6 0 [] Al l.length cl Ak ks.length ck)] w fun e w' => e = .returned (.string (strOf (prV (.mk 6 0 [] l ks)))) ∧ Fr (fun _ => False) w w' := by
  have HP := Lib.hid hp
  have IH := Lib.hid ih
  have hll := hp.b.ll
  have hbl : (prE true true l ks).length + 2 ≤ 1000000000 := by
    have : prV (.mk 6 0 [] l ks) = 123 :: (prE true true l ks ++ [125]) := by rw [prV]; rfl
    rw [this] at hB
    simp at hB
    omega
  have HR : Hid (prV (.mk 6 0 [] l ks) = 123 :: (prE true true l ks ++ [125])) := Lib.hid (by rw [prV]; rfl)
  obtain ⟨z, hz⟩ : ∃ z, prV (.mk 6 0 [] l ks) = z := ⟨_, rfl⟩
  rw [hz] at HR ⊢
  obtain ⟨g, hg⟩ : ∃ g, w.heap.size = g := ⟨_, rfl⟩
  have HG := Lib.hid hg
  have HFS := Lib.hid hfs
  have HSM := Lib.hid hsm
  have HKS := Lib.hid hks
  clear hp ih hB hz hg hfs hsm hks
  have HKL := Lib.hid hkl
  clear hkl
  go_enter Tryz.func32, Tryz.ntmps32
  go_upto_region 1 with fail
  refine abs_world (fun W => Hid (Blk W w.heap.size 25 (vcs 6 0 [] Al l.length cl Ak ks.length ck)) ∧ Hid (Fr (fun _ => False) w W)) ⟨Blk.new w _ _, (Fr.refl _ w).alloc _⟩ ?_
  rintro W1 ⟨B1, F1⟩
  rw [HG.out] at B1 ⊢
  have c0 : W1.cell? ⟨g, 0, none⟩ = some (.int .i64 6) := B1.out.cell 0
  go_wp2_with fail
  go_loopw [3, 4] (fun sv iv wr => ∃ (i : Nat) (s : List UInt8), i ≤ l.length ∧ iv = .int .i64 (i : Int) ∧ sv = .string (strOf s) ∧ Hid (s = prE true true (l.take i) ks) ∧ Hid (Blk wr g 25 (vcs 6 0 [] Al l.length cl Ak ks.length ck)) ∧ Hid (Fr (fun _ => False) w wr)) (fun _ iv _ => l.length - (intOf iv).toNat)
  case atStart => exact ⟨0, [], Nat.zero_le _, rfl, rfl, Lib.hid (by rw [List.take_zero, prE]), B1.out, F1.out⟩
  case round =>
    obtain ⟨i, s, hi, rfl, rfl, hs, hb, hf⟩ := hrel
    clear c0
    have c0 : wr.cell? ⟨g, 0, none⟩ = some (.int .i64 6) := hb.out.cell 0
    have c3 : wr.cell? ⟨g, 3, none⟩ = some (.slice Al l.length cl) := hb.out.cell 3
    have c4 : wr.cell? ⟨g, 4, none⟩ = some (.slice Ak ks.length ck) := hb.out.cell 4
    have hsl : s.length ≤ (prE true true l ks).length := by
      rw [hs.out]
      exact (prE_pre true l ks true i).length_le
    by_cases hlt : i < l.length
    case neg =>
      have hdl : decide ((i : Int) < (l.length : Int)) = false := decide_eq_false (by omega)
      have hdl' : decide (i < l.length) = false := decide_eq_false hlt
      have hc5 : ∀ W, (Op.stringOp .add ⟨#[123]⟩ (strOf s)).run Tryz.prog W = .ok (.string (strOf (123 :: s))) W := fun W => run_cat W [123] s (by simp; omega)
      have hc6 : ∀ W, (Op.stringOp .add (strOf (123 :: s)) ⟨#[125]⟩).run Tryz.prog W = .ok (.string (strOf ((123 :: s) ++ [125]))) W := fun W => run_cat W (123 :: s) [125] (by simp; omega)
      have HE : Hid ((123 :: s) ++ [125] = z) := Lib.hid (by rw [HR.out, hs.out, List.take_of_length_le (by omega)]; rfl)
      go_wp2_with fail
      go_ret
      exact ⟨strOf_ret HE.out, hf.out⟩
    have hdl : decide ((i : Int) < (l.length : Int)) = true := decide_eq_true (by omega)
    have hdl' : decide (i < l.length) = true := decide_eq_true hlt
    have hel := prE_take true l ks true i hlt
    have hbd : (prE true true (l.take (i + 1)) ks).length ≤ (prE true true l ks).length := (prE_pre true l ks true (i + 1)).length_le
    have hbd0 := hbd
    rw [hel, ← hs.out] at hbd
    unfold elT at hbd
    obtain ⟨b, off, C, hA, -, hrv, hrg, -⟩ := HP.out.at_ hlt
    subst hA
    have H5 := Lib.hid (szV hrv)
    have hmem := List.getElem_mem hlt
    have hfx : fieldsV l[i] = true := by
      have h : ∀ l : List V, fieldss l = true → ∀ x ∈ l, fieldsV x = true := by
        intro l
        induction l with
        | nil => intro _ x hx; cases hx
        | cons a l ih =>
          intro h x hx
          unfold fieldss at h
          simp only [Bool.and_eq_true] at h
          rcases List.mem_cons.1 hx with rfl | hx
          · exact h.1
          · exact ih h.2 x hx
      exact h l HFS.out _ hmem
    have hpl : (prV l[i]).length ≤ 1000000000 := by
      simp only [List.length_append] at hbd
      omega
    have CALL : Hid (∀ W, Fr (fun _ => False) w W → Calls Tryz.prog 32 #[.agg C] W fun e w' => e = .returned (.string (strOf (prV l[i]))) ∧ Fr (fun _ => False) W w') := Lib.hid (fun W hW => IH.out l[i] hmem hfx hpl (HSM.out _ hmem) W C (hrv.far hW))
    have HGR : Hid (∀ W, Fr (fun _ => False) w W → W.rangeAt b (off + i * 5) C.toList) := Lib.hid (fun W hW => rng_far hrg hW)
    have hik : i < ks.length := by have := HKL.out; omega
    have hhd : (ks.drop i).headD [] = ks[i] := by rw [List.drop_eq_getElem_cons hik]; rfl
    rw [hhd] at hbd
    obtain ⟨b2, off2, hA2, ck2⟩ := (HP.out.far hf.out).key hik
    subst hA2
    have q1 : (0 : Int) ≤ (i : Int) := by omega
    have q2 : (i : Int) < (ks.length : Int) := by omega
    have QU := Lib.hid (fun W => rquoted_c W ks[i] (HKS.out _ (List.getElem_mem hik)))
    clear hrv hrg hmem hfx
    rcases Nat.eq_zero_or_pos i with rfl | hi0
    · have l0 : s.length = s.length := rfl
      obtain ⟨s1, hs1⟩ : ∃ y, s ++ quoted ks[0] = y := ⟨_, rfl⟩
      have ls1 : s1.length = s.length + (quoted ks[0]).length := by rw [← hs1, List.length_append]
      have hc1 : ∀ W, (Op.stringOp .add (strOf s) (strOf (quoted ks[0]))).run Tryz.prog W = .ok (.string (strOf s1)) W := fun W => hs1 ▸ run_cat W s (quoted ks[0]) (by simp at hbd ⊢; omega)
      have Hs1 := Lib.hid hs1
      clear hs1
      obtain ⟨s2, hs2⟩ : ∃ y, s1 ++ ([58] : List UInt8) = y := ⟨_, rfl⟩
      have ls2 : s2.length = s1.length + 1 := by rw [← hs2, List.length_append]; rfl
      have hc2 : ∀ W, (Op.stringOp .add (strOf s1) ⟨#[58]⟩).run Tryz.prog W = .ok (.string (strOf s2)) W := fun W => hs2 ▸ run_cat W s1 (([58] : List UInt8)) (by simp at hbd ⊢; omega)
      have Hs2 := Lib.hid hs2
      clear hs2
      obtain ⟨s3, hs3⟩ : ∃ y, s2 ++ prV l[0] = y := ⟨_, rfl⟩
      have ls3 : s3.length = s2.length + (prV l[0]).length := by rw [← hs3, List.length_append]
      have hc3 : ∀ W, (Op.stringOp .add (strOf s2) (strOf (prV l[0]))).run Tryz.prog W = .ok (.string (strOf s3)) W := fun W => hs3 ▸ run_cat W s2 (prV l[0]) (by simp at hbd ⊢; omega)
      have Hs3 := Lib.hid hs3
      clear hs3
      have HS : Hid (s3 = prE true true (l.take (0 + 1)) ks) := Lib.hid (by rw [← Hs3.out, ← Hs2.out, ← Hs1.out, hel, hs.out]; unfold elT; rw [hhd]; simp)
      have ck2' : wr.cell? ⟨b2, off2, none⟩ = some (.string (strOf ks[0])) := ck2
      go_wp2_with fail
      refine (QU.out _).mono ?_
      rintro e W2 ⟨rfl, f2⟩
      have F2 := Lib.hid (hf.out.trans f2 (fun _ _ h => h))
      have B2 := Lib.hid (keepB hb.out f2)
      clear f2 c0 c3 c4
      have c3 : W2.cell? ⟨g, 3, none⟩ = some (.slice (some ⟨b, off, none⟩) l.length cl) := B2.out.cell 3
      have CALL := Lib.hid (CALL.out W2 F2.out)
      have HGR := Lib.hid (HGR.out W2 F2.out)
      go_wp2_with (refine wpList_load_val rfl 25 _ rfl b _ rfl C HGR.out _ Tryz.underlying25 rfl H5.out ?_)
      refine CALL.out.mono ?_
      rintro e W3 ⟨rfl, f3⟩
      have F3 := Lib.hid (F2.out.trans f3 (fun _ _ h => h))
      have B3 := Lib.hid (keepB B2.out f3)
      clear f3
      go_wp2_with fail
      go_roundw
      case rel => exact ⟨1, _, by omega, by first | rfl | go_num, rfl, HS.out, B3.out, F3.out⟩
      case measure => simp [intOf]; omega
    · have d0 : decide ((0 : Int) < (i : Int)) = true := decide_eq_true (by omega)
      have d0' : decide (0 < i) = true := decide_eq_true hi0
      have hi0 : (i == 0) = false := by simp; omega
      have l0 : s.length = s.length := rfl
      obtain ⟨s1, hs1⟩ : ∃ y, s ++ ([44] : List UInt8) = y := ⟨_, rfl⟩
      have ls1 : s1.length = s.length + 1 := by rw [← hs1, List.length_append]; rfl
      have hc1 : ∀ W, (Op.stringOp .add (strOf s) ⟨#[44]⟩).run Tryz.prog W = .ok (.string (strOf s1)) W := fun W => hs1 ▸ run_cat W s (([44] : List UInt8)) (by simp at hbd ⊢; omega)
      have Hs1 := Lib.hid hs1
      clear hs1
      obtain ⟨s2, hs2⟩ : ∃ y, s1 ++ quoted ks[i] = y := ⟨_, rfl⟩
      have ls2 : s2.length = s1.length + (quoted ks[i]).length := by rw [← hs2, List.length_append]
      have hc2 : ∀ W, (Op.stringOp .add (strOf s1) (strOf (quoted ks[i]))).run Tryz.prog W = .ok (.string (strOf s2)) W := fun W => hs2 ▸ run_cat W s1 (quoted ks[i]) (by simp at hbd ⊢; omega)
      have Hs2 := Lib.hid hs2
      clear hs2
      obtain ⟨s3, hs3⟩ : ∃ y, s2 ++ ([58] : List UInt8) = y := ⟨_, rfl⟩
      have ls3 : s3.length = s2.length + 1 := by rw [← hs3, List.length_append]; rfl
      have hc3 : ∀ W, (Op.stringOp .add (strOf s2) ⟨#[58]⟩).run Tryz.prog W = .ok (.string (strOf s3)) W := fun W => hs3 ▸ run_cat W s2 (([58] : List UInt8)) (by simp at hbd ⊢; omega)
      have Hs3 := Lib.hid hs3
      clear hs3
      obtain ⟨s4, hs4⟩ : ∃ y, s3 ++ prV l[i] = y := ⟨_, rfl⟩
      have ls4 : s4.length = s3.length + (prV l[i]).length := by rw [← hs4, List.length_append]
      have hc4 : ∀ W, (Op.stringOp .add (strOf s3) (strOf (prV l[i]))).run Tryz.prog W = .ok (.string (strOf s4)) W := fun W => hs4 ▸ run_cat W s3 (prV l[i]) (by simp at hbd ⊢; omega)
      have Hs4 := Lib.hid hs4
      clear hs4
      have HS : Hid (s4 = prE true true (l.take (i + 1)) ks) := Lib.hid (by rw [← Hs4.out, ← Hs3.out, ← Hs2.out, ← Hs1.out, hel, hs.out]; unfold elT; rw [hhd]; rw [hi0]; simp)
      go_wp2_with fail
      refine (QU.out _).mono ?_
      rintro e W2 ⟨rfl, f2⟩
      have F2 := Lib.hid (hf.out.trans f2 (fun _ _ h => h))
      have B2 := Lib.hid (keepB hb.out f2)
      clear f2 c0 c3 c4
      have c3 : W2.cell? ⟨g, 3, none⟩ = some (.slice (some ⟨b, off, none⟩) l.length cl) := B2.out.cell 3
      have CALL := Lib.hid (CALL.out W2 F2.out)
      have HGR := Lib.hid (HGR.out W2 F2.out)
      go_wp2_with (refine wpList_load_val rfl 25 _ rfl b _ rfl C HGR.out _ Tryz.underlying25 rfl H5.out ?_)
      refine CALL.out.mono ?_
      rintro e W3 ⟨rfl, f3⟩
      have F3 := Lib.hid (F2.out.trans f3 (fun _ _ h => h))
      have B3 := Lib.hid (keepB B2.out f3)
      clear f3
      go_wp2_with fail
      go_roundw
      case rel => exact ⟨i + 1, _, by omega, by first | rfl | go_num, rfl, HS.out, B3.out, F3.out⟩
      case measure => simp [intOf]; omega
end Go.Proofs.YtnkfkicabgajmaaGreatDoor
