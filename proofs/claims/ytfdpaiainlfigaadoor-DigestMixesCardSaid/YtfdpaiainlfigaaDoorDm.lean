/-
  DigestMixes, walked.
-/
import Derived.Test.YtfdpaiainlfigaaDoorRmix
import Derived.Test.YtfdpaiainlfigaaDoorAwake
import Derived.Test.YtfdpaiainlfigaaDoorPar3
import Derived.Deep.DeepCutAuto
namespace Go.Proofs.YtfdpaiainlfigaaDoor
set_option linter.unusedSimpArgs false
set_option linter.unusedVariables false
open Go Go.RowKit Go.Shelf
attribute [local go_sem] Oper.semAt_some
theorem uvz : uv (List.replicate 8 0) = #[.int .u32 0, .int .u32 0, .int .u32 0, .int .u32 0, .int .u32 0, .int .u32 0, .int .u32 0, .int .u32 0] := rfl
def mixX (H M : List Nat) (A : Option Addr) (c n : Nat) (l : Int) (last : Bool) (i : Nat) (v : Value) (W : World) : Prop := match i with
  | 0 => v = .int .i64 0
  | 1 => v = .bool true
  | 2 => v = .bool true
  | 3 => v = .agg #[.int .u32 (at_ M 0 : Nat), .int .u32 (at_ M 1 : Nat), .int .u32 (at_ M 2 : Nat), .int .u32 (at_ M 3 : Nat), .int .u32 (at_ M 4 : Nat), .int .u32 (at_ M 5 : Nat), .int .u32 (at_ M 6 : Nat), .int .u32 (at_ M 7 : Nat)]
  | 4 => v = .agg #[.int .u32 (at_ H 0 : Nat), .int .u32 (at_ H 1 : Nat), .int .u32 (at_ H 2 : Nat), .int .u32 (at_ H 3 : Nat), .int .u32 (at_ H 4 : Nat), .int .u32 (at_ H 5 : Nat), .int .u32 (at_ H 6 : Nat), .int .u32 (at_ H 7 : Nat)]
  | 5 => v = .slice A 64 c
  | 6 => v = .int .u64 (n : Int)
  | 7 => v = .int .i64 l
  | 8 => v = .bool last
  | 9 => v = .agg #[.int .u32 (at_ M 0 : Nat), .int .u32 (at_ M 1 : Nat), .int .u32 (at_ M 2 : Nat), .int .u32 (at_ M 3 : Nat), .int .u32 (at_ M 4 : Nat), .int .u32 (at_ M 5 : Nat), .int .u32 (at_ M 6 : Nat), .int .u32 (at_ M 7 : Nat)]
  | 10 => v = .bool true
  | 11 => v = .bool true
  | 12 => v = .bool true
  | 13 => v = .bool true
  | 14 => v = .bool true
  | 15 => v = .bool true
  | _ => True
theorem mixX_far {H M : List Nat} {A : Option Addr} {c n : Nat} {l : Int} {last : Bool} {i : Nat} {v : Value} {W W' : World} (hg : Fr (fun _ => False) W W') (hx : mixX H M A c n l last i v W) : mixX H M A c n l last i v W' := by
  match i with
  | 0 => exact hx
  | 1 => exact hx
  | 2 => exact hx
  | 3 => exact hx
  | 4 => exact hx
  | 5 => exact hx
  | 6 => exact hx
  | 7 => exact hx
  | 8 => exact hx
  | 9 => exact hx
  | 10 => exact hx
  | 11 => exact hx
  | 12 => exact hx
  | 13 => exact hx
  | 14 => exact hx
  | 15 => exact hx
  | (n + 16) => exact hx
set_option maxRecDepth 100000 in
set_option maxHeartbeats 1000000 in
theorem mixes_c (w : World) (H : List Nat) (A : Option Addr) (m c : Nat) (b : List UInt8) (n : Nat) (l : Int) (hH : Ws 8 H) (hr : Rd w A m (bv b)) (hm : m ≤ c) (hc : c ≤ 140737488355328) (hn : n < 18446744073709551616) (hT : Tabs w) :
    Calls Tryd.prog 3 #[.agg (uv H), .slice A m c, .int .u64 (n : Int), .int .i64 l] w fun e w' => e = .returned (.bool true) ∧ Fr (fun _ => False) w w' := by
  have hmx := fun (h : (m : Int) ≠ 64 ∨ (l ≠ 0 ∧ l ≠ 1)) (W : World) => Mix_no W H A m c n l hH h
  rw [uv8 hH] at hmx
  rw [uvz] at hmx
  have HMX := Lib.hid hmx
  have HT := Lib.hid hT
  have HR := Lib.hid hr
  have HC := Lib.hid hc
  have HH := Lib.hid hH
  have HN := Lib.hid hn
  clear hT hr hc hH hn hmx
  rw [uv8 HH.out]
  by_cases hbig : 1000 < m
  · have hb1 : decide ((1000 : Int) < (m : Int)) = true := decide_eq_true (by omega)
    go_enter Tryd.func3, Tryd.ntmps3
    go_wp2_with fail
    refine abs_calls (fun W => Hid (Fr (fun _ => False) w W)) (Lib.hid ((Fr.refl _ w).alloc _)) ?_
    intro W4 HF4
    refine (awake_c W4 (HT.out.far HF4.out)).mono ?_
    rintro e w5 ⟨rfl, f5⟩
    have F5 := Lib.hid (HF4.out.trans f5 (fun _ _ h => h))
    clear f5
    go_wp2_with fail
    go_ret
    exact ⟨rfl, F5.out⟩
  have hb1 : decide ((1000 : Int) < (m : Int)) = false := decide_eq_false (by omega)
  by_cases hok : m = 64 ∧ (l = 0 ∨ l = 1)
  case neg =>
    have hw3 : (m : Int) ≠ 64 ∨ (l ≠ 0 ∧ l ≠ 1) := by
      by_cases h : m = 64
      · exact .inr ⟨fun e => hok ⟨h, .inl e⟩, fun e => hok ⟨h, .inr e⟩⟩
      · exact .inl (by omega)
    have hmx := HMX.out hw3
    have HMY := Lib.hid hmx
    clear HMX hmx
    have E66 : ∀ W, (Op.equalIn 10000 23 (.agg (uv (List.replicate 8 0))) (.agg (uv (List.replicate 8 0)))).run Tryd.prog W = .ok true W := fun W => (eq_states _ _ ⟨rfl, by decide⟩ ⟨rfl, by decide⟩ W).trans (by simp)
    rw [uvz] at E66
    have HE := Lib.hid E66
    clear E66
    have hways : (((m : Int) != 64) = true) ∨ (((m : Int) != 64) = false ∧ decide (l < 0) = true) ∨ (((m : Int) != 64) = false ∧ decide (l < 0) = false ∧ decide (1 < l) = true) := by
      rcases hw3 with h | ⟨h, h'⟩
      · exact .inl (by simp [h])
      · by_cases h64 : (m : Int) = 64
        · rcases (show l < 0 ∨ 1 < l by omega) with h1 | h1
          · exact .inr (.inl ⟨by simp [h64], decide_eq_true h1⟩)
          · exact .inr (.inr ⟨by simp [h64], decide_eq_false (by omega), decide_eq_true h1⟩)
        · exact .inl (by simp [h64])
    clear hw3 hok
    go_enter Tryd.func3, Tryd.ntmps3
    go_wp2_with fail
    refine (HMY.out _).mono ?_
    rintro e w1 ⟨rfl, f1⟩
    have F1 := Lib.hid (((Fr.refl (fun _ => False) w).alloc (.cells #[.int .u32 (at_ H 0 : Nat), .int .u32 (at_ H 1 : Nat), .int .u32 (at_ H 2 : Nat), .int .u32 (at_ H 3 : Nat), .int .u32 (at_ H 4 : Nat), .int .u32 (at_ H 5 : Nat), .int .u32 (at_ H 6 : Nat), .int .u32 (at_ H 7 : Nat)] 23)).trans f1 (fun _ _ h => h))
    clear f1
    go_upto_region 4 with fail
    refine abs_world (fun W => Hid (Blk W w1.heap.size 23 (uv (List.replicate 8 0))) ∧ Hid (Fr (fun _ => False) w W)) ?_ ?_
    · exact ⟨by rw [uvz]; exact Blk.new w1 _ _, F1.out.alloc _⟩
    rintro W4 ⟨HB1, HF4⟩
    clear F1
    have bz := HB1.out
    rw [uvz] at bz
    have k0 := bz.cell 0
    have k1 := bz.cell 1
    have k2 := bz.cell 2
    have k3 := bz.cell 3
    have k4 := bz.cell 4
    have k5 := bz.cell 5
    have k6 := bz.cell 6
    have k7 := bz.cell 7
    simp only [List.getElem?_toArray, List.getElem?_cons_zero, List.getElem?_cons_succ] at k0 k1 k2 k3 k4 k5 k6 k7
    have E66 := HE.out W4
    clear bz
    rcases hways with h1 | ⟨h1, h2⟩ | ⟨h1, h2, h3⟩
    all_goals
      go_wp2_with fail
      refine (awake_c W4 (HT.out.far HF4.out)).mono ?_
      rintro e w5 ⟨rfl, f5⟩
      have F5 := Lib.hid (HF4.out.trans f5 (fun _ _ h => h))
      clear f5
      go_wp2_with fail
      go_ret
      exact ⟨rfl, F5.out⟩
  obtain ⟨rfl, hl⟩ := hok
  obtain ⟨last, hlast⟩ : ∃ last : Bool, l = if last then 1 else 0 := by
    rcases hl with h | h
    · exact ⟨false, by simpa using h⟩
    · exact ⟨true, by simpa using h⟩
  have hl1 : (l == 1) = last := by rw [hlast]; cases last <;> rfl
  have hl2 : decide (l < 0) = false := decide_eq_false (by omega)
  have hl3 : decide (1 < l) = false := decide_eq_false (by omega)
  have h64 : (((64 : Nat) : Int) != 64) = false := by decide
  obtain ⟨M, hM⟩ : ∃ M, mixL H (wds b) n last = M := ⟨_, rfl⟩
  have hMw : Ws 8 M := by rw [← hM]; exact HH.out.ofMix _ _ HN.out last
  have hmy := fun (W : World) hA hT => Mix_yes W H A c b n last l hlast HH.out hA HN.out hT
  have hrm := fun (W : World) hA => rmix_c W H A c b n last HH.out hA HN.out
  rw [hM, uv8 hMw, uv8 HH.out] at hmy hrm
  have E66 : ∀ W, (Op.equalIn 10000 23 (.agg (uv M)) (.agg (uv M))).run Tryd.prog W = .ok true W := fun W => (eq_states M M hMw hMw W).trans (by simp)
  rw [uv8 hMw] at E66
  have HE := Lib.hid E66
  have HMY := Lib.hid hmy
  have HRM0 := Lib.hid hrm
  have HM := Lib.hid hMw
  have HL1 := Lib.hid hl1
  clear E66 hmy hrm hMw hM hlast hl HMX hl1
  go_enter Tryd.func3, Tryd.ntmps3
  go_upto_region 3 with fail
  refine abs_world (fun W => Hid (Blk W w.heap.size 23 (uv H)) ∧ Hid (Fr (fun _ => False) w W)) ⟨by rw [uv8 HH.out]; exact Blk.new w _ _, (Fr.refl _ w).alloc _⟩ ?_
  rintro W1 ⟨BH1, F1⟩
  have bh := BH1.out
  rw [uv8 HH.out] at bh
  have k0 := bh.cell 0
  have k1 := bh.cell 1
  have k2 := bh.cell 2
  have k3 := bh.cell 3
  have k4 := bh.cell 4
  have k5 := bh.cell 5
  have k6 := bh.cell 6
  have k7 := bh.cell 7
  simp only [List.getElem?_toArray, List.getElem?_cons_zero, List.getElem?_cons_succ] at k0 k1 k2 k3 k4 k5 k6 k7
  clear bh
  go_wp2_with fail
  refine (HMY.out W1 (HR.out.far F1.out) (HT.out.far F1.out)).mono ?_
  rintro e w2 ⟨rfl, f2⟩
  have F2 := Lib.hid (F1.out.trans f2 (fun _ _ h => h))
  have BH2 := Lib.hid (BH1.out.fr f2 (fun h => h))
  have hz1 : w.heap.size < W1.heap.size := BH1.out.lt
  have hz2 := f2.size
  clear f2 k0 k1 k2 k3 k4 k5 k6 k7 BH1 F1 HMY
  go_upto_region 4 with fail
  refine abs_world (fun W => Hid (Blk W w2.heap.size 23 (uv M)) ∧ Hid (Blk W w.heap.size 23 (uv H)) ∧ Hid (Fr (fun _ => False) w W)) ?_ ?_
  · exact ⟨by rw [uv8 HM.out]; exact Blk.new w2 _ _, BH2.out.alloc _, F2.out.alloc _⟩
  rintro W5 ⟨BM, BH, HF⟩
  have hrm2 := fun W (hW : Fr (fun _ => False) W5 W) => HRM0.out W (HR.out.far (HF.out.trans hW (fun _ _ h => h)))
  have HRM := Lib.hid hrm2
  clear hrm2 HRM0 BH2 F2
  go_upto_region 6 with fail
  refine (wpIn_wide (n := 9)).1 ?_
  refine wpIn_region_factsG (ms := [0, 1, 3, 7, 7, 7, 7, 7, 135, 503, 1023, 2047, 4095, 8191, 16383, 32767]) (k := 16) (Fr (fun _ => False)) (mixX H M A c n l last) (fun i v W => True) (by kernel_rfl) (by kernel_rfl) (Fr.refl _ _) (fun a b c h1 h2 => h1.trans h2 (fun _ _ h => h)) (fun i v w w' hg hx => mixX_far hg hx) ?walk6
  case walk6 =>
  have hdr : ∀ W, Fr (fun _ => False) W5.drew W → Fr (fun _ => False) W5 W := fun W h => ((Fr.refl (fun _ => False) W5).drew).trans h (fun _ _ h => h)
  have HDR := Lib.hid hdr
  clear hdr
  refine factWalkG_cons (fun W hW hf K hK => ?_) (fun x0 => ?_)
  · skip
    refine ⟨by kernel_rfl, ?_⟩
    gi_step
    exact hK _ _ (Fr.refl _ _) rfl trivial
  simp only [Act.put, List.setIfInBounds_toArray, List.set_cons_succ, List.set_cons_zero]
  refine factWalkG_cons (fun W hW hf K hK => ?_) (fun x1 => ?_)
  · skip
    have e0 : x0 = .int .i64 0 := hf 0 (by omega) (by kernel_rfl)
    subst e0
    refine ⟨by kernel_rfl, ?_⟩
    gi_step
    exact hK _ _ (Fr.refl _ _) rfl trivial
  simp only [Act.put, List.setIfInBounds_toArray, List.set_cons_succ, List.set_cons_zero]
  refine factWalkG_cons (fun W hW hf K hK => ?_) (fun x2 => ?_)
  · skip
    have e1 : x1 = .bool true := hf 1 (by omega) (by kernel_rfl)
    subst e1
    refine ⟨by kernel_rfl, ?_⟩
    gi_step
    exact hK _ _ (Fr.refl _ _) rfl trivial
  simp only [Act.put, List.setIfInBounds_toArray, List.set_cons_succ, List.set_cons_zero]
  refine factWalkG_cons (fun W hW hf K hK => ?_) (fun x3 => ?_)
  · skip
    have e2 : x2 = .bool true := hf 2 (by omega) (by kernel_rfl)
    subst e2
    have bl := BM.out.fr (fp := fun _ => False) (HDR.out _ hW) (fun h => h)
    rw [uv8 HM.out] at bl
    have k0 := bl.cell 0
    have k1 := bl.cell 1
    have k2 := bl.cell 2
    have k3 := bl.cell 3
    have k4 := bl.cell 4
    have k5 := bl.cell 5
    have k6 := bl.cell 6
    have k7 := bl.cell 7
    simp only [List.getElem?_toArray, List.getElem?_cons_zero, List.getElem?_cons_succ] at k0 k1 k2 k3 k4 k5 k6 k7
    clear bl
    refine ⟨by kernel_rfl, ?_⟩
    gi_step
    exact hK _ _ (Fr.refl _ _) rfl trivial
  simp only [Act.put, List.setIfInBounds_toArray, List.set_cons_succ, List.set_cons_zero]
  refine factWalkG_cons (fun W hW hf K hK => ?_) (fun x4 => ?_)
  · skip
    have e2 : x2 = .bool true := hf 2 (by omega) (by kernel_rfl)
    subst e2
    have bl := BH.out.fr (fp := fun _ => False) (HDR.out _ hW) (fun h => h)
    rw [uv8 HH.out] at bl
    have k0 := bl.cell 0
    have k1 := bl.cell 1
    have k2 := bl.cell 2
    have k3 := bl.cell 3
    have k4 := bl.cell 4
    have k5 := bl.cell 5
    have k6 := bl.cell 6
    have k7 := bl.cell 7
    simp only [List.getElem?_toArray, List.getElem?_cons_zero, List.getElem?_cons_succ] at k0 k1 k2 k3 k4 k5 k6 k7
    clear bl
    refine ⟨by kernel_rfl, ?_⟩
    gi_step
    exact hK _ _ (Fr.refl _ _) rfl trivial
  simp only [Act.put, List.setIfInBounds_toArray, List.set_cons_succ, List.set_cons_zero]
  refine factWalkG_cons (fun W hW hf K hK => ?_) (fun x5 => ?_)
  · skip
    have e2 : x2 = .bool true := hf 2 (by omega) (by kernel_rfl)
    subst e2
    refine ⟨by kernel_rfl, ?_⟩
    gi_step
    exact hK _ _ (Fr.refl _ _) rfl trivial
  simp only [Act.put, List.setIfInBounds_toArray, List.set_cons_succ, List.set_cons_zero]
  refine factWalkG_cons (fun W hW hf K hK => ?_) (fun x6 => ?_)
  · skip
    have e2 : x2 = .bool true := hf 2 (by omega) (by kernel_rfl)
    subst e2
    refine ⟨by kernel_rfl, ?_⟩
    gi_step
    exact hK _ _ (Fr.refl _ _) rfl trivial
  simp only [Act.put, List.setIfInBounds_toArray, List.set_cons_succ, List.set_cons_zero]
  refine factWalkG_cons (fun W hW hf K hK => ?_) (fun x7 => ?_)
  · skip
    have e2 : x2 = .bool true := hf 2 (by omega) (by kernel_rfl)
    subst e2
    refine ⟨by kernel_rfl, ?_⟩
    gi_step
    exact hK _ _ (Fr.refl _ _) rfl trivial
  simp only [Act.put, List.setIfInBounds_toArray, List.set_cons_succ, List.set_cons_zero]
  refine factWalkG_cons (fun W hW hf K hK => ?_) (fun x8 => ?_)
  · skip
    have e2 : x2 = .bool true := hf 2 (by omega) (by kernel_rfl)
    have e7 : x7 = .int .i64 l := hf 7 (by omega) (by kernel_rfl)
    subst e2 e7
    have hl1 := HL1.out
    refine ⟨by kernel_rfl, ?_⟩
    gi_step
    exact hK _ _ (Fr.refl _ _) rfl trivial
  simp only [Act.put, List.setIfInBounds_toArray, List.set_cons_succ, List.set_cons_zero]
  refine factWalkG_cons (fun W hW hf K hK => ?_) (fun x9 => ?_)
  · skip
    have e2 : x2 = .bool true := hf 2 (by omega) (by kernel_rfl)
    have e4 : x4 = .agg #[.int .u32 (at_ H 0 : Nat), .int .u32 (at_ H 1 : Nat), .int .u32 (at_ H 2 : Nat), .int .u32 (at_ H 3 : Nat), .int .u32 (at_ H 4 : Nat), .int .u32 (at_ H 5 : Nat), .int .u32 (at_ H 6 : Nat), .int .u32 (at_ H 7 : Nat)] := hf 4 (by omega) (by kernel_rfl)
    have e5 : x5 = .slice A 64 c := hf 5 (by omega) (by kernel_rfl)
    have e6 : x6 = .int .u64 (n : Int) := hf 6 (by omega) (by kernel_rfl)
    have e8 : x8 = .bool last := hf 8 (by omega) (by kernel_rfl)
    subst e2 e4 e5 e6 e8
    have hw := HRM.out W (HDR.out W hW)
    refine ⟨by kernel_rfl, ?_⟩
    gi_step
    refine ⟨trivial, ?_⟩
    refine (callsIn_wide.2 (hw)).mono ?_
    rintro e W' ⟨rfl, f2⟩
    dsimp only
    exact hK _ _ f2 rfl trivial
  simp only [Act.put, List.setIfInBounds_toArray, List.set_cons_succ, List.set_cons_zero]
  refine factWalkG_cons (fun W hW hf K hK => ?_) (fun x10 => ?_)
  · skip
    have e2 : x2 = .bool true := hf 2 (by omega) (by kernel_rfl)
    have e3 : x3 = .agg #[.int .u32 (at_ M 0 : Nat), .int .u32 (at_ M 1 : Nat), .int .u32 (at_ M 2 : Nat), .int .u32 (at_ M 3 : Nat), .int .u32 (at_ M 4 : Nat), .int .u32 (at_ M 5 : Nat), .int .u32 (at_ M 6 : Nat), .int .u32 (at_ M 7 : Nat)] := hf 3 (by omega) (by kernel_rfl)
    have e9 : x9 = .agg #[.int .u32 (at_ M 0 : Nat), .int .u32 (at_ M 1 : Nat), .int .u32 (at_ M 2 : Nat), .int .u32 (at_ M 3 : Nat), .int .u32 (at_ M 4 : Nat), .int .u32 (at_ M 5 : Nat), .int .u32 (at_ M 6 : Nat), .int .u32 (at_ M 7 : Nat)] := hf 9 (by omega) (by kernel_rfl)
    subst e2 e3 e9
    have E66 := HE.out W
    refine ⟨by kernel_rfl, ?_⟩
    gi_step
    exact hK _ _ (Fr.refl _ _) rfl trivial
  simp only [Act.put, List.setIfInBounds_toArray, List.set_cons_succ, List.set_cons_zero]
  refine factWalkG_cons (fun W hW hf K hK => ?_) (fun x11 => ?_)
  · skip
    have e2 : x2 = .bool true := hf 2 (by omega) (by kernel_rfl)
    have e10 : x10 = .bool true := hf 10 (by omega) (by kernel_rfl)
    subst e2 e10
    refine ⟨by kernel_rfl, ?_⟩
    gi_step
    exact hK _ _ (Fr.refl _ _) rfl trivial
  simp only [Act.put, List.setIfInBounds_toArray, List.set_cons_succ, List.set_cons_zero]
  refine factWalkG_cons (fun W hW hf K hK => ?_) (fun x12 => ?_)
  · skip
    have e11 : x11 = .bool true := hf 11 (by omega) (by kernel_rfl)
    subst e11
    refine ⟨by kernel_rfl, ?_⟩
    gi_step
    exact hK _ _ (Fr.refl _ _) rfl trivial
  simp only [Act.put, List.setIfInBounds_toArray, List.set_cons_succ, List.set_cons_zero]
  refine factWalkG_cons (fun W hW hf K hK => ?_) (fun x13 => ?_)
  · skip
    have e12 : x12 = .bool true := hf 12 (by omega) (by kernel_rfl)
    subst e12
    have hw := awake_c W (HT.out.far (HF.out.trans (HDR.out W hW) (fun _ _ h => h)))
    refine ⟨by kernel_rfl, ?_⟩
    gi_step
    refine ⟨trivial, ?_⟩
    refine (callsIn_wide.2 (hw)).mono ?_
    rintro e W' ⟨rfl, f2⟩
    dsimp only
    exact hK _ _ f2 rfl trivial
  simp only [Act.put, List.setIfInBounds_toArray, List.set_cons_succ, List.set_cons_zero]
  refine factWalkG_cons (fun W hW hf K hK => ?_) (fun x14 => ?_)
  · skip
    have e12 : x12 = .bool true := hf 12 (by omega) (by kernel_rfl)
    have e13 : x13 = .bool true := hf 13 (by omega) (by kernel_rfl)
    subst e12 e13
    refine ⟨by kernel_rfl, ?_⟩
    gi_step
    exact hK _ _ (Fr.refl _ _) rfl trivial
  simp only [Act.put, List.setIfInBounds_toArray, List.set_cons_succ, List.set_cons_zero]
  refine factWalkG_cons (fun W hW hf K hK => ?_) (fun x15 => ?_)
  · skip
    have e14 : x14 = .bool true := hf 14 (by omega) (by kernel_rfl)
    subst e14
    refine ⟨by kernel_rfl, ?_⟩
    gi_step
    exact hK _ _ (Fr.refl _ _) rfl trivial
  simp only [Act.put, List.setIfInBounds_toArray, List.set_cons_succ, List.set_cons_zero]
  refine factWalkG_nil (fun W hW hf hmet => ?_)
  have e15 : x15 = .bool true := hf 15 (by omega)
  subst e15
  have HFW := Lib.hid (HF.out.trans (HDR.out W hW) (fun _ _ h => h))
  clear hmet hf hW HDR
  change wpAnyIn _ _ _ _ _ _ 0 _ _ _
  refine wpAnyIn_done (by kernel_rfl) ?_ _
  go_wp2_with fail
  go_ret
  exact ⟨rfl, HFW.out⟩
end Go.Proofs.YtfdpaiainlfigaaDoor
