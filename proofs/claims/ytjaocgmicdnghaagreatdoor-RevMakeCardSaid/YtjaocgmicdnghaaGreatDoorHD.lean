/-
  Cmp, CmpG, Rcm, in one text (merge.py).
-/
import Derived.Test.YtjaocgmicdnghaaGreatDoorHQ
import Derived.Test.YtjaocgmicdnghaaGreatDoorPar3
import Derived.Lib.BytesEntry
import Derived.Lib.Bytealg
import Derived.Laws.Externs

/-
  CONTRACT of rev.Cmp where the generations differ.
-/
namespace Go.Proofs.YtjaocgmicdnghaaGreatDoor
set_option linter.unusedSimpArgs false
set_option linter.unusedVariables false
open Go Go.RowKit Go.Shelf
attribute [local go_sem] Oper.semAt_some
theorem isNaN_c (w : World) (x : Nat) : Calls Tryz.prog 35 #[.int .u64 (x : Nat)] w fun e w' => e = .returned (.bool false) ∧ w = w' := by
  have h : ((x : Int) != (x : Int)) = false := by simp
  go_enter Tryz.func35, Tryz.ntmps35
  go_wp2_with fail
  go_ret
  exact ⟨rfl, rfl⟩
theorem cmpU_lt (w : World) (a b : Nat) (h : a < b) : Calls Tryz.prog 20 #[.int .u64 (a : Nat), .int .u64 (b : Nat)] w fun e w' => e = .returned (.int .i64 (-1)) ∧ w = w' := by
  have hd : decide ((a : Int) < (b : Int)) = true := decide_eq_true (by omega)
  have hd2 : decide (a < b) = true := decide_eq_true h
  go_enter Tryz.func20, Tryz.ntmps20
  go_wp2_with fail
  refine (isNaN_c w a).mono ?_
  rintro e w' ⟨rfl, rfl⟩
  go_wp2_with fail
  refine (isNaN_c w b).mono ?_
  rintro e w' ⟨rfl, rfl⟩
  go_wp2_with fail
  go_ret
  exact ⟨rfl, rfl⟩
set_option maxRecDepth 100000 in
set_option maxHeartbeats 1000000 in
theorem cmp_lt (w : World) (g g' : Nat) (s s' : List UInt8) (h : g < g') :
    Calls Tryz.prog 10 #[.agg (rc g s).toArray, .agg (rc g' s').toArray] w fun e w' => e = .returned (.int .i64 (-1)) ∧ Fr (fun _ => False) w w' := by
  go_enter Tryz.func10, Tryz.ntmps10
  go_upto_region 1 with fail
  refine abs_world (fun W => Hid (Blk W w.heap.size 25 (rc g s).toArray) ∧ Hid (Blk W (w.heap.size + 1) 25 (rc g' s').toArray) ∧ Hid (Fr (fun _ => False) w W)) ⟨(Blk.new w _ _).alloc _, by have h := Blk.new (w.alloc (.cells (rc g s).toArray 25)) 25 (rc g' s').toArray; rw [World.size_alloc] at h; exact h, ((Fr.refl _ w).alloc _).alloc _⟩ ?_
  rintro W1 ⟨B1, B2, F1⟩
  have c0 : W1.cell? ⟨w.heap.size, 0, none⟩ = some (.int .u64 (g : Nat)) := B1.out.cell 0
  have c1 : W1.cell? ⟨w.heap.size + 1, 0, none⟩ = some (.int .u64 (g' : Nat)) := B2.out.cell 0
  go_wp2_with fail
  refine (cmpU_lt W1 g g' h).mono ?_
  rintro e w' ⟨rfl, rfl⟩
  go_wp2_with fail
  go_ret
  exact ⟨rfl, F1.out⟩
end Go.Proofs.YtjaocgmicdnghaaGreatDoor

/-
  CONTRACT of rev.Cmp at any two names.
-/
namespace Go.Proofs.YtjaocgmicdnghaaGreatDoor
set_option linter.unusedSimpArgs false
set_option linter.unusedVariables false
open Go Go.RowKit Go.Shelf
attribute [local go_sem] Oper.semAt_some

theorem run_bytesX {P : Program} (W : World) (A : Option Addr) (n c : Nat) (l : List UInt8) (h : Rd W A n (bv l)) : (Extern.Bytes.bytesOf (.slice A n c)).run P W = .ok ⟨l.toArray⟩ W := by
  have hn : l.length = n := by have := h.1; rw [bv_length] at this; exact this
  cases A with
  | none =>
    cases l with
    | nil => rfl
    | cons x l =>
      obtain ⟨ad, he, _⟩ := h.2 (by rw [List.length_cons] at hn; omega)
      cases he
  | some a =>
    have hl := Lib.run_loadBytesX (P := P) (w := W) (l.map fun b => (b.toNat : Int)) a .empty (fun j x hj => by
      rw [List.getElem?_map] at hj
      cases hb : l[j]? with
      | none => rw [hb] at hj; cases hj
      | some b =>
        rw [hb] at hj
        cases hj
        have hlt := (List.getElem?_eq_some_iff.1 hb).1
        obtain ⟨ad, he, hc⟩ := h.2 (by omega)
        obtain rfl := Option.some.inj he
        exact hc j _ (by simp [bv, hb]))
    rw [List.length_map, hn] at hl
    show (Extern.Bytes.loadBytes a n .empty).run P W = _
    rw [hl]
    congr 1
    apply ByteArray.ext
    simp [Lib.bytesOf, Function.comp_def]
theorem run_cmpX {P : Program} (W : World) (A B : Option Addr) (n c m d : Nat) (l k : List UInt8) (ha : Rd W A n (bv l)) (hb : Rd W B m (bv k)) :
    (Extern.BytealgCompare.compare #[.slice A n c, .slice B m d]).run P W = .ok (.int .i64 (Lib.compareBytes l k)) W := by
  change Sem.run P (do pure (goInt (Extern.BytealgCompare.cmp (← Extern.Bytes.bytesOf (.slice A n c)) (← Extern.Bytes.bytesOf (.slice B m d))))) W = _
  rw [Sem.run_bind, run_bytesX W A n c l ha, Result.andThen_ok, Sem.run_bind, run_bytesX W B m d k hb, Result.andThen_ok, Sem.run_pure, Lib.cmp_eq]
  rfl
set_option maxRecDepth 100000 in
set_option maxHeartbeats 1000000 in
theorem bCompare_c (W : World) (A B : Option Addr) (n c m d : Nat) (l k : List UInt8) (ha : Rd W A n (bv l)) (hb : Rd W B m (bv k)) :
    Calls Tryz.prog 21 #[.slice A n c, .slice B m d] W fun e w' => e = .returned (.int .i64 (Lib.compareBytes l k)) ∧ w' = W := by
  have hx := run_cmpX (P := Tryz.prog) W A B n c m d l k ha hb
  have HX := Lib.hid hx
  clear ha hb hx
  go_enter Tryz.func21, Tryz.ntmps21
  go_wp2
  rw [run_callFunc_extern Tryz.func36 (by kernel_rfl) (by kernel_rfl) (by kernel_rfl) (e := Extern.BytealgCompare.compare) (by kernel_rfl), HX.out]
  simp only [Result.andThen]
  rw [Oper.upon_value]
  go_wp2
  go_ret
  exact ⟨rfl, rfl⟩
theorem ret_int {a b : Int} (h : a = b) : Ending.returned (.int .i64 a) = .returned (.int .i64 b) := by rw [h]
set_option maxRecDepth 100000 in
theorem cmpU_ge (w : World) (a b : Nat) (h : b ≤ a) : Calls Tryz.prog 20 #[.int .u64 (a : Nat), .int .u64 (b : Nat)] w fun e w' => e = .returned (.int .i64 (if a = b then 0 else 1)) ∧ w = w' := by
  have hd : decide ((a : Int) < (b : Int)) = false := decide_eq_false (by omega)
  have hd2 : decide (a < b) = false := decide_eq_false (by omega)
  by_cases he : a = b
  case pos =>
    subst he
    have hd3 : decide ((a : Int) < (a : Int)) = false := decide_eq_false (by omega)
    have hd4 : decide (a < a) = false := decide_eq_false (by omega)
    rw [if_pos rfl]
    clear hd hd2 h
    go_enter Tryz.func20, Tryz.ntmps20
    go_wp2_with fail
    refine (isNaN_c w a).mono ?_
    rintro e w' ⟨rfl, rfl⟩
    go_wp2_with fail
    refine (isNaN_c w a).mono ?_
    rintro e w' ⟨rfl, rfl⟩
    go_wp2_with fail
    go_ret
    exact ⟨rfl, rfl⟩
  case neg =>
    have hd3 : decide ((b : Int) < (a : Int)) = true := decide_eq_true (by omega)
    have hd4 : decide (b < a) = true := decide_eq_true (by omega)
    rw [if_neg he]
    go_enter Tryz.func20, Tryz.ntmps20
    go_wp2_with fail
    refine (isNaN_c w a).mono ?_
    rintro e w' ⟨rfl, rfl⟩
    go_wp2_with fail
    refine (isNaN_c w b).mono ?_
    rintro e w' ⟨rfl, rfl⟩
    go_wp2_with fail
    go_ret
    exact ⟨rfl, rfl⟩
def cgX (p q : Nat) (cc : Int) (i : Nat) (v : Value) (W : World) : Prop := match i with
  | 0 => v = .pointer (some ⟨p, 1, none⟩)
  | 1 => v = .slice (some ⟨p, 1, none⟩) 16 16
  | 2 => v = .pointer (some ⟨q, 1, none⟩)
  | 3 => v = .slice (some ⟨q, 1, none⟩) 16 16
  | 4 => v = .int .i64 cc
  | _ => True
theorem cgX_far {p q : Nat} {cc : Int} {i : Nat} {v : Value} {W W' : World} (hg : Fr (fun _ => False) W W') (hx : cgX p q cc i v W) : cgX p q cc i v W' := by
  match i with
  | 0 => exact hx
  | 1 => exact hx
  | 2 => exact hx
  | 3 => exact hx
  | 4 => exact hx
  | (n + 5) => exact hx
/-- How two names stand. -/
def cmpR (g g' : Nat) (s s' : List UInt8) : Int := if g < g' then -1 else if g = g' then Lib.compareBytes s s' else 1
theorem row_of {W : World} {b g : Nat} {s : List UInt8} (hs : s.length = 16) (hb : Blk W b 25 (rc g s).toArray) : Rd W (some ⟨b, 1, none⟩) 16 (bv s) := by
  refine ⟨by rw [bv_length, hs], fun _ => ⟨_, rfl, fun j u hu => ?_⟩⟩
  rw [Addr.add_lit, hb.cell, List.getElem?_toArray, Nat.add_comm]
  exact hu
set_option maxRecDepth 100000 in
set_option maxHeartbeats 1000000 in
theorem cmp_c (w : World) (g g' : Nat) (s s' : List UInt8) (hs : s.length = 16) (hs' : s'.length = 16) :
    Calls Tryz.prog 10 #[.agg (rc g s).toArray, .agg (rc g' s').toArray] w fun e w' => e = .returned (.int .i64 (cmpR g g' s s')) ∧ Fr (fun _ => False) w w' := by
  by_cases h : g < g'
  case pos =>
    rw [show cmpR g g' s s' = -1 from if_pos h]
    exact cmp_lt w g g' s s' h
  have hge : g' ≤ g := by omega
  have HS := Lib.hid hs
  have HS' := Lib.hid hs'
  obtain ⟨z, hz⟩ : ∃ z, cmpR g g' s s' = z := ⟨_, rfl⟩
  rw [hz]
  have HZ := Lib.hid hz
  clear hs hs' hz
  go_enter Tryz.func10, Tryz.ntmps10
  go_upto_region 1 with fail
  refine abs_world (fun W => Hid (Blk W w.heap.size 25 (rc g s).toArray) ∧ Hid (Blk W (w.heap.size + 1) 25 (rc g' s').toArray) ∧ Hid (Fr (fun _ => False) w W)) ⟨(Blk.new w _ _).alloc _, by have h := Blk.new (w.alloc (.cells (rc g s).toArray 25)) 25 (rc g' s').toArray; rw [World.size_alloc] at h; exact h, ((Fr.refl _ w).alloc _).alloc _⟩ ?_
  rintro W1 ⟨B1, B2, F1⟩
  have c0 : W1.cell? ⟨w.heap.size, 0, none⟩ = some (.int .u64 (g : Nat)) := B1.out.cell 0
  have c1 : W1.cell? ⟨w.heap.size + 1, 0, none⟩ = some (.int .u64 (g' : Nat)) := B2.out.cell 0
  have CU := Lib.hid (cmpU_ge W1 g g' hge)
  have R1 := Lib.hid (row_of HS.out B1.out)
  have R2 := Lib.hid (row_of HS'.out B2.out)
  obtain ⟨p, hp⟩ : ∃ p, w.heap.size = p := ⟨_, rfl⟩
  obtain ⟨q, hq⟩ : ∃ q, w.heap.size + 1 = q := ⟨_, rfl⟩
  rw [hq] at B2 R2 c1 ⊢
  rw [hp] at B1 R1 c0 ⊢
  obtain ⟨cc, hcc⟩ : ∃ cc, Lib.compareBytes s s' = cc := ⟨_, rfl⟩
  have BC : Hid (∀ W, Fr (fun _ => False) W1 W → Calls Tryz.prog 21 #[.slice (some ⟨p, 1, none⟩) 16 16, .slice (some ⟨q, 1, none⟩) 16 16] W fun e w' => e = .returned (.int .i64 cc) ∧ Fr (fun _ => False) W w') := Lib.hid (fun W hW => by
    refine (bCompare_c W _ _ 16 16 16 16 s s' (R1.out.far hW) (R2.out.far hW)).mono ?_
    rintro e w' ⟨rfl, rfl⟩
    exact ⟨by rw [hcc], Fr.refl _ _⟩)
  by_cases he : g = g'
  case neg =>
    have HE : Hid (z = 1) := Lib.hid (by rw [← HZ.out, cmpR, if_neg h, if_neg he])
    rw [if_neg he] at CU
    clear h hge he hp hq hcc
    go_wp2_with fail
    refine CU.out.mono ?_
    rintro e w' ⟨rfl, rfl⟩
    go_wp2_with fail
    go_ret
    exact ⟨ret_int HE.out.symm, F1.out⟩
  case pos =>
    have HE : Hid (z = cc) := Lib.hid (by rw [← HZ.out, cmpR, if_neg h, if_pos he, hcc])
    rw [if_pos he] at CU
    clear h hge he hp hq hcc
    go_wp2_with fail
    refine CU.out.mono ?_
    rintro e w' ⟨rfl, rfl⟩
    go_upto_region 4 with fail
    refine (wpIn_wide (n := 9)).1 ?_
    refine wpIn_region_factsG (ms := [0, 1, 0, 4, 15, 31]) (k := 5) (Fr (fun _ => False)) (cgX p q cc) (fun i v W => True) (by kernel_rfl) (by kernel_rfl) (Fr.refl _ _) (fun a b c h1 h2 => h1.trans h2 (fun _ _ h => h)) (fun i v w w' hg hx => cgX_far hg hx) ?walk4
    case walk4 =>
    have hdr : ∀ W, Fr (fun _ => False) W1.drew W → Fr (fun _ => False) W1 W := fun W h => ((Fr.refl (fun _ => False) W1).drew).trans h (fun _ _ h => h)
    have HDR := Lib.hid hdr
    clear hdr
    refine factWalkG_cons (fun W hW hf K hK => ?_) (fun x0 => ?_)
    · skip
      refine ⟨by kernel_rfl, ?_⟩
      gi_step
      exact hK _ _ (Fr.refl _ _) rfl trivial
    simp only [Act.put, List.setIfInBounds_toArray, List.set_cons_succ, List.set_cons_zero]
    refine factWalkG_cons (fun W hW hf K hK => ?_) (fun x1 => ?_)
    · skip
      have e0 : x0 = .pointer (some ⟨p, 1, none⟩) := hf 0 (by omega) (by kernel_rfl)
      subst e0
      refine ⟨by kernel_rfl, ?_⟩
      gi_step
      exact hK _ _ (Fr.refl _ _) rfl trivial
    simp only [Act.put, List.setIfInBounds_toArray, List.set_cons_succ, List.set_cons_zero]
    refine factWalkG_cons (fun W hW hf K hK => ?_) (fun x2 => ?_)
    · skip
      refine ⟨by kernel_rfl, ?_⟩
      gi_step
      exact hK _ _ (Fr.refl _ _) rfl trivial
    simp only [Act.put, List.setIfInBounds_toArray, List.set_cons_succ, List.set_cons_zero]
    refine factWalkG_cons (fun W hW hf K hK => ?_) (fun x3 => ?_)
    · skip
      have e2 : x2 = .pointer (some ⟨q, 1, none⟩) := hf 2 (by omega) (by kernel_rfl)
      subst e2
      refine ⟨by kernel_rfl, ?_⟩
      gi_step
      exact hK _ _ (Fr.refl _ _) rfl trivial
    simp only [Act.put, List.setIfInBounds_toArray, List.set_cons_succ, List.set_cons_zero]
    refine factWalkG_cons (fun W hW hf K hK => ?_) (fun x4 => ?_)
    · skip
      have e1 : x1 = .slice (some ⟨p, 1, none⟩) 16 16 := hf 1 (by omega) (by kernel_rfl)
      have e3 : x3 = .slice (some ⟨q, 1, none⟩) 16 16 := hf 3 (by omega) (by kernel_rfl)
      subst e1 e3
      refine ⟨by kernel_rfl, ?_⟩
      gi_step
      refine ⟨trivial, ?_⟩
      refine (callsIn_wide.2 (BC.out W (HDR.out W hW))).mono ?_
      rintro e W' ⟨rfl, f2⟩
      dsimp only
      exact hK _ _ f2 rfl trivial
    simp only [Act.put, List.setIfInBounds_toArray, List.set_cons_succ, List.set_cons_zero]
    refine factWalkG_nil (fun W hW hf4 hmet => ?_)
    have e4 : x4 = .int .i64 cc := hf4 4 (by omega)
    subst e4
    have F9 := Lib.hid (F1.out.trans (HDR.out W hW) (fun _ _ h => h))
    clear hf4 hmet hW HDR
    change wpAnyIn _ _ _ _ _ _ 1 _ _ _
    refine wpAnyIn_ready (rs := [5]) (by kernel_rfl) (by simp) ?_
    refine AllReadyIn.cons rfl (fun K hK => ?_) AllReadyIn.nil
    go_simp
    refine hK _ _ ?_
    refine wpAnyIn_done (by kernel_rfl) ?_ _
    clear hK K
    go_wp2_with fail
    go_ret
    exact ⟨ret_int HE.out.symm, F9.out⟩
end Go.Proofs.YtjaocgmicdnghaaGreatDoor

/-
  CONTRACT of the reference's Cmp of two names.
-/
namespace Go.Proofs.YtjaocgmicdnghaaGreatDoor
set_option linter.unusedSimpArgs false
set_option linter.unusedVariables false
open Go Go.RowKit Go.Shelf
attribute [local go_sem] Oper.semAt_some

theorem cmpB_step {a b : List UInt8} {i : Nat} (h1 : i < a.length) (h2 : i < b.length) (he : a[i] = b[i]) : Lib.compareBytes (a.drop i) (b.drop i) = Lib.compareBytes (a.drop (i + 1)) (b.drop (i + 1)) := by
  rw [List.drop_eq_getElem_cons h1, List.drop_eq_getElem_cons h2, Lib.compareBytes, he, if_neg (by rw [UInt8.lt_iff_toNat_lt]; omega), if_neg (by rw [UInt8.lt_iff_toNat_lt]; omega)]
theorem cmpB_lt {a b : List UInt8} {i : Nat} (h1 : i < a.length) (h2 : i < b.length) (he : a[i].toNat < b[i].toNat) : Lib.compareBytes (a.drop i) (b.drop i) = -1 := by
  rw [List.drop_eq_getElem_cons h1, List.drop_eq_getElem_cons h2, Lib.compareBytes, if_pos (by rw [UInt8.lt_iff_toNat_lt]; exact he)]
theorem cmpB_gt {a b : List UInt8} {i : Nat} (h1 : i < a.length) (h2 : i < b.length) (he : b[i].toNat < a[i].toNat) : Lib.compareBytes (a.drop i) (b.drop i) = 1 := by
  rw [List.drop_eq_getElem_cons h1, List.drop_eq_getElem_cons h2, Lib.compareBytes, if_neg (by rw [UInt8.lt_iff_toNat_lt]; omega), if_pos (by rw [UInt8.lt_iff_toNat_lt]; exact he)]
theorem cmpB_end {a b : List UInt8} (h1 : a.length = 16) (h2 : b.length = 16) : Lib.compareBytes (a.drop 16) (b.drop 16) = 0 := by
  rw [List.drop_eq_nil_of_le (by omega), List.drop_eq_nil_of_le (by omega), Lib.compareBytes]
set_option maxRecDepth 100000 in
set_option maxHeartbeats 2000000 in
theorem rcmp_c (w : World) (g g' : Nat) (s s' : List UInt8) (hs : s.length = 16) (hs' : s'.length = 16) (hg : g < 18446744073709551616) (hg' : g' < 18446744073709551616) :
    Calls Tryz.prog 11 #[.agg (rc g s).toArray, .agg (rc g' s').toArray] w fun e w' => e = .returned (.int .i64 (cmpR g g' s s')) ∧ Fr (fun _ => False) w w' := by
  obtain ⟨z, hz⟩ : ∃ z, cmpR g g' s s' = z := ⟨_, rfl⟩
  rw [hz]
  have HZ := Lib.hid hz
  have HS := Lib.hid hs
  have HS' := Lib.hid hs'
  clear hz hg hg'
  go_enter Tryz.func11, Tryz.ntmps11
  go_upto_region 1 with fail
  refine abs_world (fun W => Hid (Blk W w.heap.size 25 (rc g s).toArray) ∧ Hid (Blk W (w.heap.size + 1) 25 (rc g' s').toArray) ∧ Hid (Fr (fun _ => False) w W)) ⟨(Blk.new w _ _).alloc _, by have h := Blk.new (w.alloc (.cells (rc g s).toArray 25)) 25 (rc g' s').toArray; rw [World.size_alloc] at h; exact h, ((Fr.refl _ w).alloc _).alloc _⟩ ?_
  rintro W1 ⟨B1, B2, F1⟩
  have c0 : W1.cell? ⟨w.heap.size, 0, none⟩ = some (.int .u64 (g : Nat)) := B1.out.cell 0
  have c1 : W1.cell? ⟨w.heap.size + 1, 0, none⟩ = some (.int .u64 (g' : Nat)) := B2.out.cell 0
  obtain ⟨p, hp⟩ : ∃ p, w.heap.size = p := ⟨_, rfl⟩
  obtain ⟨q, hq⟩ : ∃ q, w.heap.size + 1 = q := ⟨_, rfl⟩
  rw [hq] at B2 c1 ⊢
  rw [hp] at B1 c0 ⊢
  clear hp hq
  by_cases he : g = g'
  case neg =>
    have e1 : ((g : Int) == (g' : Int)) = false := by simp; omega
    have e1' : (g == g') = false := by simp; omega
    by_cases hlt : g < g'
    · have HE : Hid (z = -1) := Lib.hid (by rw [← HZ.out, cmpR, if_pos hlt])
      have d1 : decide ((g : Int) < (g' : Int)) = true := decide_eq_true (by omega)
      have d1' : decide (g < g') = true := decide_eq_true hlt
      clear hlt
      go_wp2_with fail
      go_ret
      exact ⟨ret_int HE.out.symm, F1.out⟩
    · have HE : Hid (z = 1) := Lib.hid (by rw [← HZ.out, cmpR, if_neg hlt, if_neg he])
      have d1 : decide ((g : Int) < (g' : Int)) = false := decide_eq_false (by omega)
      have d1' : decide (g < g') = false := decide_eq_false hlt
      clear hlt
      go_wp2_with fail
      go_ret
      exact ⟨ret_int HE.out.symm, F1.out⟩
  subst he
  have HE : Hid (Lib.compareBytes (s.drop 0) (s'.drop 0) = z) := Lib.hid (by rw [← HZ.out, cmpR, if_neg (by omega), if_pos rfl]; rfl)
  clear HZ
  go_wp2_with fail
  go_loopw [5] (fun iv wr => ∃ i : Nat, i ≤ 16 ∧ iv = .int .i64 (i : Int) ∧ Hid (Lib.compareBytes (s.drop i) (s'.drop i) = z) ∧ Hid (Fr (fun _ => False) W1 wr)) (fun iv _ => 16 - (intOf iv).toNat)
  case atStart => exact ⟨0, Nat.zero_le _, rfl, HE.out, Fr.refl _ _⟩
  case round =>
    obtain ⟨i, hi, rfl, hc, hf⟩ := hrel
    by_cases hin : i < 16
    case neg =>
      obtain rfl : i = 16 := by omega
      have HF : Hid (z = 0) := Lib.hid (by rw [← hc.out]; exact cmpB_end HS.out HS'.out)
      go_wp2_with fail
      go_ret
      exact ⟨ret_int HF.out.symm, F1.out.trans hf.out (fun _ _ h => h)⟩
    have d1 : decide ((i : Int) < 16) = true := decide_eq_true (by omega)
    have d1' : decide (i < 16) = true := decide_eq_true hin
    have hna : i < s.length := by rw [HS.out]; exact hin
    have hnb : i < s'.length := by rw [HS'.out]; exact hin
    have i0 : (0 : Int) ≤ (i : Int) ∧ (i : Int) < 16 := by omega
    obtain ⟨x, hx⟩ : ∃ x, (s[i]).toNat = x := ⟨_, rfl⟩
    obtain ⟨y, hy⟩ : ∃ y, (s'[i]).toNat = y := ⟨_, rfl⟩
    have kx : wr.cell? ⟨p, 1 + i, none⟩ = some (.int .u8 (x : Nat)) := by
      rw [(B1.out.fr hf.out (fun h => h)).cell, List.getElem?_toArray, ← hx]
      simp [rc, bv, Nat.add_comm 1 i, hna]
    have ky : wr.cell? ⟨q, 1 + i, none⟩ = some (.int .u8 (y : Nat)) := by
      rw [(B2.out.fr hf.out (fun h => h)).cell, List.getElem?_toArray, ← hy]
      simp [rc, bv, Nat.add_comm 1 i, hnb]
    rcases Nat.lt_trichotomy x y with h | h | h
    · have HE : Hid (z = -1) := Lib.hid (by rw [← hc.out]; exact cmpB_lt hna hnb (by rw [hx, hy]; exact h))
      have e2 : decide ((x : Int) < (y : Int)) = true := decide_eq_true (by omega)
      have e2' : decide (x < y) = true := decide_eq_true h
      clear hx hy
      go_upto_region 8 with fail
      go_quiet (fail)
      go_wp2_with fail
      go_ret
      exact ⟨ret_int HE.out.symm, F1.out.trans (hf.out.drewN _) (fun _ _ h => h)⟩
    · subst h
      have HE : Hid (Lib.compareBytes (s.drop (i + 1)) (s'.drop (i + 1)) = z) := Lib.hid (by
        rw [← hc.out]
        exact (cmpB_step hna hnb (UInt8.toNat_inj.1 (by rw [hx, hy]))).symm)
      have e2 : decide ((x : Int) < (x : Int)) = false := decide_eq_false (by omega)
      have e2' : decide (x < x) = false := decide_eq_false (by omega)
      clear hx hy
      go_upto_region 8 with fail
      go_quiet (fail)
      go_upto_region 10 with fail
      go_quiet (fail)
      go_wp2_with fail
      go_roundw
      case rel => exact ⟨i + 1, by omega, by go_num, HE.out, hf.out.drewN _⟩
      case measure => simp [intOf]; omega
    · have HE : Hid (z = 1) := Lib.hid (by rw [← hc.out]; exact cmpB_gt hna hnb (by rw [hx, hy]; exact h))
      have e2 : decide ((x : Int) < (y : Int)) = false := decide_eq_false (by omega)
      have e2' : decide (x < y) = false := decide_eq_false (by omega)
      have e3 : decide ((y : Int) < (x : Int)) = true := decide_eq_true (by omega)
      have e3' : decide (y < x) = true := decide_eq_true h
      clear hx hy
      go_upto_region 8 with fail
      go_quiet (fail)
      go_upto_region 10 with fail
      go_quiet (fail)
      go_wp2_with fail
      go_ret
      exact ⟨ret_int HE.out.symm, F1.out.trans ((hf.out.drewN _).drewN _) (fun _ _ h => h)⟩
end Go.Proofs.YtjaocgmicdnghaaGreatDoor
