/-
  CONTRACT of the reference's fields.
-/
import Derived.Test.YtnkfkicabgajmaaGreatDoorDeep
import Derived.Test.YtnkfkicabgajmaaGreatDoorGMay
import Derived.Test.YtnkfkicabgajmaaGreatDoorGBase
import Derived.Deep.CutRange
import Derived.BigGuard
import Derived.BigGuardPart
namespace Go.Proofs.YtnkfkicabgajmaaGreatDoor
set_option linter.unusedSimpArgs false
set_option linter.unusedVariables false
open Go Go.RowKit

theorem fieldss_iff {l : List V} : fieldss l = true ↔ ∀ i (h : i < l.length), fieldsV l[i] = true := by
  induction l with
  | nil => simp [fieldss]
  | cons a l ih =>
    rw [fieldss, Bool.and_eq_true, ih]
    constructor
    · rintro ⟨h1, h2⟩ i hi
      cases i with
      | zero => exact h1
      | succ i => exact h2 i (by simpa using hi)
    · intro h
      exact ⟨h 0 (by simp), fun i hi => h (i + 1) (by simpa using hi)⟩
theorem ne_len (a b : Nat) : ((a : Int) != (b : Int)) = (a != b) := by
  simp only [bne]
  congr 1
  rw [Bool.eq_iff_iff]
  simp only [beq_iff_eq]
  omega
theorem bool_big (a0 a1 a2 a3 a4 a5 a6 a7 a8 a9 a10 p : Bool) : ((((((((!a0) || (!a1)) || ((!a2) && (!a3))) || ((!a4) && (!a5))) || ((!a6) && (!a7))) || ((!a8) && (!a9))) || (a8 && (!a10))) || (!p)) = !((a0 && a1 && (a2 || a3) && (a4 || a5) && (a6 || a7) && (a8 || a9) && (!a8 || a10)) && p) := by
  cases a0 <;> cases a1 <;> simp only [Bool.not_true, Bool.not_false, Bool.true_and, Bool.false_and, Bool.true_or, Bool.false_or, Bool.and_true, Bool.and_false, Bool.or_true, Bool.or_false]
  cases a2 <;> cases a3 <;> simp only [Bool.not_true, Bool.not_false, Bool.true_and, Bool.false_and, Bool.true_or, Bool.false_or, Bool.and_true, Bool.and_false, Bool.or_true, Bool.or_false] <;>
    cases a4 <;> cases a5 <;> simp only [Bool.not_true, Bool.not_false, Bool.true_and, Bool.false_and, Bool.true_or, Bool.false_or, Bool.and_true, Bool.and_false, Bool.or_true, Bool.or_false] <;>
    cases a6 <;> cases a7 <;> simp only [Bool.not_true, Bool.not_false, Bool.true_and, Bool.false_and, Bool.true_or, Bool.false_or, Bool.and_true, Bool.and_false, Bool.or_true, Bool.or_false] <;>
    cases a8 <;> cases a9 <;> cases a10 <;> cases p <;> rfl
theorem big_is (k n : Int) (t : List UInt8) (l : List V) (ks : List (List UInt8)) (p : Bool) : ((((((((decide (k < 0)) || (decide (6 < k))) || ((k != 3) && (n != 0))) || ((k != 4) && (!t.isEmpty))) || ((decide (k < 5)) && (decide (0 < l.length)))) || ((k != 6) && (decide (0 < ks.length)))) || ((k == 6) && (ks.length != l.length))) || (!p)) = !(usesOwn k n t l.length ks.length && p) := by
  have h1 : (k != 3) = !decide (k = 3) := by simp [bne, BEq.beq]
  have h2 : (k != 4) = !decide (k = 4) := by simp [bne, BEq.beq]
  have h3 : (k != 6) = !decide (k = 6) := by simp [bne, BEq.beq]
  have h4 : (k == 6) = decide (k = 6) := by simp [BEq.beq]
  have h5 : (n != 0) = !decide (n = 0) := by simp [bne, BEq.beq]
  have h6 : (ks.length != l.length) = !(ks.length == l.length) := rfl
  have h7 : decide (k < 0) = !decide (0 ≤ k) := by by_cases h : 0 ≤ k <;> simp [h]; omega
  have h8 : decide (6 < k) = !decide (k ≤ 6) := by by_cases h : k ≤ 6 <;> simp [h]; omega
  have h9 : decide (k < 5) = !decide (5 ≤ k) := by by_cases h : 5 ≤ k <;> simp [h]; omega
  have h10 : decide (0 < l.length) = !(l.length == 0) := by cases l <;> simp
  have h11 : decide (0 < ks.length) = !(ks.length == 0) := by cases ks <;> simp
  rw [h1, h2, h3, h4, h5, h6, h7, h8, h9, h10, h11]
  unfold usesOwn
  exact bool_big _ _ _ _ _ _ _ _ _ _ _ _
def rfX (g b off p9 nk ck : Nat) (s sp : List UInt8) (vv : Bool) (i : Nat) (v : Value) (W : World) : Prop := match i with
  | 0 => v = .pointer (some ⟨g, 4, none⟩)
  | 1 => v = .slice (some ⟨b, off, none⟩) nk ck
  | 2 => v = .int .i64 (p9 : Nat)
  | 3 => v = .pointer (some ⟨b, off + p9, none⟩)
  | 4 => v = .string (strOf s)
  | 5 => v = .bool vv
  | 6 => v = .bool (!vv)
  | 7 => v = .bool (!vv)
  | 8 => v = cv (!(!vv)) (.int .i64 (p9 : Nat))
  | 9 => v = cv (!(!vv)) (.bool (decide (0 < p9)))
  | 10 => v = cv (!(!vv)) (.bool (decide (0 < p9)))
  | 11 => v = cv ((!(!vv)) && (decide (0 < p9))) (.pointer (some ⟨g, 4, none⟩))
  | 12 => v = cv ((!(!vv)) && (decide (0 < p9))) (.slice (some ⟨b, off, none⟩) nk ck)
  | 13 => v = cv ((!(!vv)) && (decide (0 < p9))) (.int .i64 (p9 : Nat))
  | 14 => v = cv ((!(!vv)) && (decide (0 < p9))) (.int .i64 ((p9 - 1 : Nat) : Int))
  | 15 => v = cv ((!(!vv)) && (decide (0 < p9))) (.pointer (some ⟨b, off + (p9 - 1), none⟩))
  | 16 => v = cv ((!(!vv)) && (decide (0 < p9))) (.string (strOf sp))
  | 17 => v = cv ((!(!vv)) && (decide (0 < p9))) (.pointer (some ⟨g, 4, none⟩))
  | 18 => v = cv ((!(!vv)) && (decide (0 < p9))) (.slice (some ⟨b, off, none⟩) nk ck)
  | 19 => v = cv ((!(!vv)) && (decide (0 < p9))) (.int .i64 (p9 : Nat))
  | 20 => v = cv ((!(!vv)) && (decide (0 < p9))) (.pointer (some ⟨b, off + p9, none⟩))
  | 21 => v = cv ((!(!vv)) && (decide (0 < p9))) (.string (strOf s))
  | 22 => v = cv ((!(!vv)) && (decide (0 < p9))) (.bool (!kl sp s))
  | 23 => v = cv (!(!vv)) (.bool ((decide (0 < p9)) && (!kl sp s)))
  | 24 => v = .bool ((!vv) || ((decide (0 < p9)) && (!kl sp s)))
  | _ => True
theorem rfX_far {g b off p9 nk ck : Nat} {s sp : List UInt8} {vv : Bool} {i : Nat} {v : Value} {W W' : World} (hg : Fr (fun _ => False) W W') (hx : rfX g b off p9 nk ck s sp vv i v W) : rfX g b off p9 nk ck s sp vv i v W' := by
  match i with
  | 0 => exact hx
  | 1 => exact hx
  | 2 => exact hx
  | 3 => exact hx
  | 4 => exact hx
  | 5 => exact hx
  | 6 => exact hx
  | 7 => exact hx
  | 8 => exact hx
  | 9 => exact hx
  | 10 => exact hx
  | 11 => exact hx
  | 12 => exact hx
  | 13 => exact hx
  | 14 => exact hx
  | 15 => exact hx
  | 16 => exact hx
  | 17 => exact hx
  | 18 => exact hx
  | 19 => exact hx
  | 20 => exact hx
  | 21 => exact hx
  | 22 => exact hx
  | 23 => exact hx
  | 24 => exact hx
  | (n + 25) => exact hx
set_option maxRecDepth 100000 in
set_option maxHeartbeats 16000000 in
theorem rfields_step (w : World) {D : Nat → Prop} {k n : Int} {t : List UInt8} {l : List V} {ks : List (List UInt8)} {Al Ak : Option Addr} {cl ck : Nat} {css : List (Array Value)} (hp : VP D w k n t l ks Al cl Ak ck css)
    (ih : ∀ (x : V), x ∈ l → ∀ (W : World) (C : Array Value), RdV D W C x → Calls Tryz.prog 31 #[.agg C] W fun e w' => e = .returned (.bool (fieldsV x)) ∧ Fr (fun _ => False) W w') :
    Calls Tryz.prog 31 #[.agg (vcs k n t Al l.length cl Ak ks.length ck)] w fun e w' => e = .returned (.bool (fieldsV (.mk k n t l ks))) ∧ Fr (fun _ => False) w w' := by
  have HP := Lib.hid hp
  have IH := Lib.hid ih
  have hll := hp.b.ll
  have hkl := hp.b.kl
  have HKS := Lib.hid hp.b.ks
  have PL := Lib.hid (fun W => rplain_c W t hp.b.tl)
  obtain ⟨z, hz⟩ : ∃ z, fieldsV (.mk k n t l ks) = z := ⟨_, rfl⟩
  rw [hz]
  rw [fieldsV] at hz
  obtain ⟨u, hu⟩ : ∃ u, (usesOwn k n t l.length ks.length && plainT t) = u := ⟨_, rfl⟩
  have HU := Lib.hid hu
  rw [hu] at hz
  have HZ := Lib.hid hz
  obtain ⟨p, hpl⟩ : ∃ p, plainT t = p := ⟨_, rfl⟩
  rw [hpl] at PL HU
  obtain ⟨g, hg⟩ : ∃ g, w.heap.size = g := ⟨_, rfl⟩
  have HG := Lib.hid hg
  have HY : Hid ((strOf t).toList.isEmpty = t.isEmpty) := Lib.hid (by rw [strOf_toList])
  clear hp ih hz hu hpl hg
  go_enter Tryz.func31, Tryz.ntmps31
  go_upto_region 1 with fail
  refine abs_world (fun W => Hid (Blk W w.heap.size 25 (vcs k n t Al l.length cl Ak ks.length ck)) ∧ Hid (Fr (fun _ => False) w W)) ⟨Blk.new w _ _, (Fr.refl _ w).alloc _⟩ ?_
  rintro W1 ⟨B1, F1⟩
  rw [HG.out] at B1 ⊢
  have c0 : W1.cell? ⟨g, 0, none⟩ = some (.int .i64 k) := B1.out.cell 0
  have c1 : W1.cell? ⟨g, 1, none⟩ = some (.int .i64 n) := B1.out.cell 1
  have c2 : W1.cell? ⟨g, 2, none⟩ = some (.string (strOf t)) := B1.out.cell 2
  have c3 : W1.cell? ⟨g, 3, none⟩ = some (.slice Al l.length cl) := B1.out.cell 3
  have c4 : W1.cell? ⟨g, 4, none⟩ = some (.slice Ak ks.length ck) := B1.out.cell 4
  refine wp_region_lit ?_
  refine wpList_fact (fun v => Hid (v = .pointer (some ⟨g, 0, none⟩))) (fun K hK => ?_) (fun x0 E0 => ?_)
  · refine ite_yes (by kernel_rfl) ?_
    go_simp
    exact hK _ (Lib.hid (rfl))
  simp only [Act.put, List.setIfInBounds_toArray, List.set_cons_succ, List.set_cons_zero]
  refine wpList_fact (fun v => Hid (v = .int .i64 k)) (fun K hK => ?_) (fun x1 E1 => ?_)
  · refine ite_yes (by kernel_rfl) ?_
    obtain rfl : x0 = .pointer (some ⟨g, 0, none⟩) := E0.out
    go_simp
    exact hK _ (Lib.hid (rfl))
  simp only [Act.put, List.setIfInBounds_toArray, List.set_cons_succ, List.set_cons_zero]
  refine wpList_fact (fun v => Hid (v = .bool (decide (k < 0)))) (fun K hK => ?_) (fun x2 E2 => ?_)
  · refine ite_yes (by kernel_rfl) ?_
    obtain rfl : x1 = .int .i64 k := E1.out
    go_simp
    exact hK _ (Lib.hid (by first | rfl | simp [strOf_toList]))
  simp only [Act.put, List.setIfInBounds_toArray, List.set_cons_succ, List.set_cons_zero]
  refine wpList_fact (fun v => Hid (v = .bool (decide (k < 0)))) (fun K hK => ?_) (fun x3 E3 => ?_)
  · refine ite_yes (by kernel_rfl) ?_
    obtain rfl : x2 = .bool (decide (k < 0)) := E2.out
    go_simp
    exact hK _ (Lib.hid (rfl))
  simp only [Act.put, List.setIfInBounds_toArray, List.set_cons_succ, List.set_cons_zero]
  refine wpList_fact (fun v => Hid (v = cv (!(decide (k < 0))) (.pointer (some ⟨g, 0, none⟩)))) (fun K hK => ?_) (fun x4 E4 => ?_)
  · rcases bcases (!(decide (k < 0))) with hc | hc
    · have hk := hK undef (cv_no hc)
      obtain rfl : x3 = .bool true := E3.out.trans (congrArg Value.bool (bnot_f hc))
      exact ite_no (by kernel_rfl) hk
    · have eg : x3 = .bool false := E3.out.trans (congrArg Value.bool (bnot_t (hc)))
      refine ite_yes (by rw [eg]; kernel_rfl) ?_
      clear eg
      go_simp
      exact hK _ (cv_yes hc (rfl))
  simp only [Act.put, List.setIfInBounds_toArray, List.set_cons_succ, List.set_cons_zero]
  refine wpList_fact (fun v => Hid (v = cv (!(decide (k < 0))) (.int .i64 k))) (fun K hK => ?_) (fun x5 E5 => ?_)
  · rcases bcases (!(decide (k < 0))) with hc | hc
    · have hk := hK undef (cv_no hc)
      obtain rfl : x3 = .bool true := E3.out.trans (congrArg Value.bool (bnot_f hc))
      exact ite_no (by kernel_rfl) hk
    · have eg : x3 = .bool false := E3.out.trans (congrArg Value.bool (bnot_t (hc)))
      refine ite_yes (by rw [eg]; kernel_rfl) ?_
      clear eg
      obtain rfl : x4 = .pointer (some ⟨g, 0, none⟩) := cv_t E4.out (hc)
      go_simp
      exact hK _ (cv_yes hc (rfl))
  simp only [Act.put, List.setIfInBounds_toArray, List.set_cons_succ, List.set_cons_zero]
  refine wpList_fact (fun v => Hid (v = cv (!(decide (k < 0))) (.bool (decide (6 < k))))) (fun K hK => ?_) (fun x6 E6 => ?_)
  · rcases bcases (!(decide (k < 0))) with hc | hc
    · have hk := hK undef (cv_no hc)
      obtain rfl : x3 = .bool true := E3.out.trans (congrArg Value.bool (bnot_f hc))
      exact ite_no (by kernel_rfl) hk
    · have eg : x3 = .bool false := E3.out.trans (congrArg Value.bool (bnot_t (hc)))
      refine ite_yes (by rw [eg]; kernel_rfl) ?_
      clear eg
      obtain rfl : x5 = .int .i64 k := cv_t E5.out (hc)
      go_simp
      exact hK _ (cv_yes hc (by first | rfl | simp [strOf_toList]))
  simp only [Act.put, List.setIfInBounds_toArray, List.set_cons_succ, List.set_cons_zero]
  refine wpList_fact (fun v => Hid (v = .bool ((decide (k < 0)) || (decide (6 < k))))) (fun K hK => ?_) (fun x7 E7 => ?_)
  · refine ite_yes (by kernel_rfl) ?_
    rcases bcases ((decide (k < 0))) with hq | hq
    · obtain rfl : x3 = .bool false := E3.out.trans (congrArg Value.bool hq)
      obtain rfl : x6 = .bool (decide (6 < k)) := cv_t E6.out ((by rw [hq]; rfl))
      go_simp
      exact hK _ (Lib.hid (by simp only [hq, Bool.false_or, Bool.true_or, Bool.true_and, Bool.false_and]))
    · obtain rfl : x3 = .bool true := E3.out.trans (congrArg Value.bool hq)
      go_simp
      exact hK _ (Lib.hid (by simp only [hq, Bool.false_or, Bool.true_or, Bool.true_and, Bool.false_and]))
  simp only [Act.put, List.setIfInBounds_toArray, List.set_cons_succ, List.set_cons_zero]
  refine wpList_fact (fun v => Hid (v = .bool ((decide (k < 0)) || (decide (6 < k))))) (fun K hK => ?_) (fun x8 E8 => ?_)
  · refine ite_yes (by kernel_rfl) ?_
    obtain rfl : x7 = .bool ((decide (k < 0)) || (decide (6 < k))) := E7.out
    go_simp
    exact hK _ (Lib.hid (rfl))
  simp only [Act.put, List.setIfInBounds_toArray, List.set_cons_succ, List.set_cons_zero]
  refine wpList_fact (fun v => Hid (v = cv (!((decide (k < 0)) || (decide (6 < k)))) (.pointer (some ⟨g, 0, none⟩)))) (fun K hK => ?_) (fun x9 E9 => ?_)
  · rcases bcases (!((decide (k < 0)) || (decide (6 < k)))) with hc | hc
    · have hk := hK undef (cv_no hc)
      obtain rfl : x8 = .bool true := E8.out.trans (congrArg Value.bool (bnot_f hc))
      exact ite_no (by kernel_rfl) hk
    · have eg : x8 = .bool false := E8.out.trans (congrArg Value.bool (bnot_t (hc)))
      refine ite_yes (by rw [eg]; kernel_rfl) ?_
      clear eg
      go_simp
      exact hK _ (cv_yes hc (rfl))
  simp only [Act.put, List.setIfInBounds_toArray, List.set_cons_succ, List.set_cons_zero]
  refine wpList_fact (fun v => Hid (v = cv (!((decide (k < 0)) || (decide (6 < k)))) (.int .i64 k))) (fun K hK => ?_) (fun x10 E10 => ?_)
  · rcases bcases (!((decide (k < 0)) || (decide (6 < k)))) with hc | hc
    · have hk := hK undef (cv_no hc)
      obtain rfl : x8 = .bool true := E8.out.trans (congrArg Value.bool (bnot_f hc))
      exact ite_no (by kernel_rfl) hk
    · have eg : x8 = .bool false := E8.out.trans (congrArg Value.bool (bnot_t (hc)))
      refine ite_yes (by rw [eg]; kernel_rfl) ?_
      clear eg
      obtain rfl : x9 = .pointer (some ⟨g, 0, none⟩) := cv_t E9.out (hc)
      go_simp
      exact hK _ (cv_yes hc (rfl))
  simp only [Act.put, List.setIfInBounds_toArray, List.set_cons_succ, List.set_cons_zero]
  refine wpList_fact (fun v => Hid (v = cv (!((decide (k < 0)) || (decide (6 < k)))) (.bool (k != 3)))) (fun K hK => ?_) (fun x11 E11 => ?_)
  · rcases bcases (!((decide (k < 0)) || (decide (6 < k)))) with hc | hc
    · have hk := hK undef (cv_no hc)
      obtain rfl : x8 = .bool true := E8.out.trans (congrArg Value.bool (bnot_f hc))
      exact ite_no (by kernel_rfl) hk
    · have eg : x8 = .bool false := E8.out.trans (congrArg Value.bool (bnot_t (hc)))
      refine ite_yes (by rw [eg]; kernel_rfl) ?_
      clear eg
      obtain rfl : x10 = .int .i64 k := cv_t E10.out (hc)
      go_simp
      exact hK _ (cv_yes hc (by first | rfl | simp [strOf_toList]))
  simp only [Act.put, List.setIfInBounds_toArray, List.set_cons_succ, List.set_cons_zero]
  refine wpList_fact (fun v => Hid (v = cv (!((decide (k < 0)) || (decide (6 < k)))) (.bool (k != 3)))) (fun K hK => ?_) (fun x12 E12 => ?_)
  · rcases bcases (!((decide (k < 0)) || (decide (6 < k)))) with hc | hc
    · have hk := hK undef (cv_no hc)
      obtain rfl : x8 = .bool true := E8.out.trans (congrArg Value.bool (bnot_f hc))
      exact ite_no (by kernel_rfl) hk
    · have eg : x8 = .bool false := E8.out.trans (congrArg Value.bool (bnot_t (hc)))
      refine ite_yes (by rw [eg]; kernel_rfl) ?_
      clear eg
      obtain rfl : x11 = .bool (k != 3) := cv_t E11.out (hc)
      go_simp
      exact hK _ (cv_yes hc (rfl))
  simp only [Act.put, List.setIfInBounds_toArray, List.set_cons_succ, List.set_cons_zero]
  refine wpList_fact (fun v => Hid (v = cv ((!((decide (k < 0)) || (decide (6 < k)))) && (k != 3)) (.pointer (some ⟨g, 1, none⟩)))) (fun K hK => ?_) (fun x13 E13 => ?_)
  · rcases bcases ((!((decide (k < 0)) || (decide (6 < k)))) && (k != 3)) with hc | hc
    · have hk := hK undef (cv_no hc)
      rcases bcases (!((decide (k < 0)) || (decide (6 < k)))) with hj | hj
      · obtain rfl : x12 = undef := cv_f E12.out hj
        exact ite_no (by kernel_rfl) hk
      · obtain rfl : x12 = .bool false := (cv_t E12.out hj).trans (congrArg Value.bool (band_f hj hc))
        exact ite_no (by kernel_rfl) hk
    · have eg : x12 = .bool true := (cv_t E12.out (band_l (hc))).trans (congrArg Value.bool (band_r (hc)))
      refine ite_yes (by rw [eg]; kernel_rfl) ?_
      clear eg
      go_simp
      exact hK _ (cv_yes hc (rfl))
  simp only [Act.put, List.setIfInBounds_toArray, List.set_cons_succ, List.set_cons_zero]
  refine wpList_fact (fun v => Hid (v = cv ((!((decide (k < 0)) || (decide (6 < k)))) && (k != 3)) (.int .i64 n))) (fun K hK => ?_) (fun x14 E14 => ?_)
  · rcases bcases ((!((decide (k < 0)) || (decide (6 < k)))) && (k != 3)) with hc | hc
    · have hk := hK undef (cv_no hc)
      rcases bcases (!((decide (k < 0)) || (decide (6 < k)))) with hj | hj
      · obtain rfl : x12 = undef := cv_f E12.out hj
        exact ite_no (by kernel_rfl) hk
      · obtain rfl : x12 = .bool false := (cv_t E12.out hj).trans (congrArg Value.bool (band_f hj hc))
        exact ite_no (by kernel_rfl) hk
    · have eg : x12 = .bool true := (cv_t E12.out (band_l (hc))).trans (congrArg Value.bool (band_r (hc)))
      refine ite_yes (by rw [eg]; kernel_rfl) ?_
      clear eg
      obtain rfl : x13 = .pointer (some ⟨g, 1, none⟩) := cv_t E13.out (hc)
      go_simp
      exact hK _ (cv_yes hc (rfl))
  simp only [Act.put, List.setIfInBounds_toArray, List.set_cons_succ, List.set_cons_zero]
  refine wpList_fact (fun v => Hid (v = cv ((!((decide (k < 0)) || (decide (6 < k)))) && (k != 3)) (.bool (n != 0)))) (fun K hK => ?_) (fun x15 E15 => ?_)
  · rcases bcases ((!((decide (k < 0)) || (decide (6 < k)))) && (k != 3)) with hc | hc
    · have hk := hK undef (cv_no hc)
      rcases bcases (!((decide (k < 0)) || (decide (6 < k)))) with hj | hj
      · obtain rfl : x12 = undef := cv_f E12.out hj
        exact ite_no (by kernel_rfl) hk
      · obtain rfl : x12 = .bool false := (cv_t E12.out hj).trans (congrArg Value.bool (band_f hj hc))
        exact ite_no (by kernel_rfl) hk
    · have eg : x12 = .bool true := (cv_t E12.out (band_l (hc))).trans (congrArg Value.bool (band_r (hc)))
      refine ite_yes (by rw [eg]; kernel_rfl) ?_
      clear eg
      obtain rfl : x14 = .int .i64 n := cv_t E14.out (hc)
      go_simp
      exact hK _ (cv_yes hc (by first | rfl | simp [strOf_toList]))
  simp only [Act.put, List.setIfInBounds_toArray, List.set_cons_succ, List.set_cons_zero]
  refine wpList_fact (fun v => Hid (v = cv (!((decide (k < 0)) || (decide (6 < k)))) (.bool ((k != 3) && (n != 0))))) (fun K hK => ?_) (fun x16 E16 => ?_)
  · rcases bcases (!((decide (k < 0)) || (decide (6 < k)))) with hc | hc
    · have hk := hK undef (cv_no hc)
      obtain rfl : x8 = .bool true := E8.out.trans (congrArg Value.bool (bnot_f hc))
      exact ite_no (by kernel_rfl) hk
    · have eg : x8 = .bool false := E8.out.trans (congrArg Value.bool (bnot_t (hc)))
      refine ite_yes (by rw [eg]; kernel_rfl) ?_
      clear eg
      rcases bcases ((k != 3)) with hq | hq
      · obtain rfl : x12 = .bool false := (cv_t E12.out (hc)).trans (congrArg Value.bool hq)
        go_simp
        exact hK _ (cv_yes hc (by simp only [hq, Bool.false_or, Bool.true_or, Bool.true_and, Bool.false_and]))
      · obtain rfl : x12 = .bool true := (cv_t E12.out (hc)).trans (congrArg Value.bool hq)
        obtain rfl : x15 = .bool (n != 0) := cv_t E15.out ((by rw [show (!((decide (k < 0)) || (decide (6 < k)))) = true from hc, hq]; rfl))
        go_simp
        exact hK _ (cv_yes hc (by simp only [hq, Bool.false_or, Bool.true_or, Bool.true_and, Bool.false_and]))
  simp only [Act.put, List.setIfInBounds_toArray, List.set_cons_succ, List.set_cons_zero]
  refine wpList_fact (fun v => Hid (v = .bool (((decide (k < 0)) || (decide (6 < k))) || ((k != 3) && (n != 0))))) (fun K hK => ?_) (fun x17 E17 => ?_)
  · refine ite_yes (by kernel_rfl) ?_
    rcases bcases (((decide (k < 0)) || (decide (6 < k)))) with hq | hq
    · obtain rfl : x8 = .bool false := E8.out.trans (congrArg Value.bool hq)
      obtain rfl : x16 = .bool ((k != 3) && (n != 0)) := cv_t E16.out ((by rw [hq]; rfl))
      go_simp
      exact hK _ (Lib.hid (by simp only [hq, Bool.false_or, Bool.true_or, Bool.true_and, Bool.false_and]))
    · obtain rfl : x8 = .bool true := E8.out.trans (congrArg Value.bool hq)
      go_simp
      exact hK _ (Lib.hid (by simp only [hq, Bool.false_or, Bool.true_or, Bool.true_and, Bool.false_and]))
  simp only [Act.put, List.setIfInBounds_toArray, List.set_cons_succ, List.set_cons_zero]
  refine wpList_fact (fun v => Hid (v = .bool (((decide (k < 0)) || (decide (6 < k))) || ((k != 3) && (n != 0))))) (fun K hK => ?_) (fun x18 E18 => ?_)
  · refine ite_yes (by kernel_rfl) ?_
    obtain rfl : x17 = .bool (((decide (k < 0)) || (decide (6 < k))) || ((k != 3) && (n != 0))) := E17.out
    go_simp
    exact hK _ (Lib.hid (rfl))
  simp only [Act.put, List.setIfInBounds_toArray, List.set_cons_succ, List.set_cons_zero]
  refine wpList_fact (fun v => Hid (v = cv (!(((decide (k < 0)) || (decide (6 < k))) || ((k != 3) && (n != 0)))) (.pointer (some ⟨g, 0, none⟩)))) (fun K hK => ?_) (fun x19 E19 => ?_)
  · rcases bcases (!(((decide (k < 0)) || (decide (6 < k))) || ((k != 3) && (n != 0)))) with hc | hc
    · have hk := hK undef (cv_no hc)
      obtain rfl : x18 = .bool true := E18.out.trans (congrArg Value.bool (bnot_f hc))
      exact ite_no (by kernel_rfl) hk
    · have eg : x18 = .bool false := E18.out.trans (congrArg Value.bool (bnot_t (hc)))
      refine ite_yes (by rw [eg]; kernel_rfl) ?_
      clear eg
      go_simp
      exact hK _ (cv_yes hc (rfl))
  simp only [Act.put, List.setIfInBounds_toArray, List.set_cons_succ, List.set_cons_zero]
  refine wpList_fact (fun v => Hid (v = cv (!(((decide (k < 0)) || (decide (6 < k))) || ((k != 3) && (n != 0)))) (.int .i64 k))) (fun K hK => ?_) (fun x20 E20 => ?_)
  · rcases bcases (!(((decide (k < 0)) || (decide (6 < k))) || ((k != 3) && (n != 0)))) with hc | hc
    · have hk := hK undef (cv_no hc)
      obtain rfl : x18 = .bool true := E18.out.trans (congrArg Value.bool (bnot_f hc))
      exact ite_no (by kernel_rfl) hk
    · have eg : x18 = .bool false := E18.out.trans (congrArg Value.bool (bnot_t (hc)))
      refine ite_yes (by rw [eg]; kernel_rfl) ?_
      clear eg
      obtain rfl : x19 = .pointer (some ⟨g, 0, none⟩) := cv_t E19.out (hc)
      go_simp
      exact hK _ (cv_yes hc (rfl))
  simp only [Act.put, List.setIfInBounds_toArray, List.set_cons_succ, List.set_cons_zero]
  refine wpList_fact (fun v => Hid (v = cv (!(((decide (k < 0)) || (decide (6 < k))) || ((k != 3) && (n != 0)))) (.bool (k != 4)))) (fun K hK => ?_) (fun x21 E21 => ?_)
  · rcases bcases (!(((decide (k < 0)) || (decide (6 < k))) || ((k != 3) && (n != 0)))) with hc | hc
    · have hk := hK undef (cv_no hc)
      obtain rfl : x18 = .bool true := E18.out.trans (congrArg Value.bool (bnot_f hc))
      exact ite_no (by kernel_rfl) hk
    · have eg : x18 = .bool false := E18.out.trans (congrArg Value.bool (bnot_t (hc)))
      refine ite_yes (by rw [eg]; kernel_rfl) ?_
      clear eg
      obtain rfl : x20 = .int .i64 k := cv_t E20.out (hc)
      go_simp
      exact hK _ (cv_yes hc (by first | rfl | simp [strOf_toList]))
  simp only [Act.put, List.setIfInBounds_toArray, List.set_cons_succ, List.set_cons_zero]
  refine wpList_fact (fun v => Hid (v = cv (!(((decide (k < 0)) || (decide (6 < k))) || ((k != 3) && (n != 0)))) (.bool (k != 4)))) (fun K hK => ?_) (fun x22 E22 => ?_)
  · rcases bcases (!(((decide (k < 0)) || (decide (6 < k))) || ((k != 3) && (n != 0)))) with hc | hc
    · have hk := hK undef (cv_no hc)
      obtain rfl : x18 = .bool true := E18.out.trans (congrArg Value.bool (bnot_f hc))
      exact ite_no (by kernel_rfl) hk
    · have eg : x18 = .bool false := E18.out.trans (congrArg Value.bool (bnot_t (hc)))
      refine ite_yes (by rw [eg]; kernel_rfl) ?_
      clear eg
      obtain rfl : x21 = .bool (k != 4) := cv_t E21.out (hc)
      go_simp
      exact hK _ (cv_yes hc (rfl))
  simp only [Act.put, List.setIfInBounds_toArray, List.set_cons_succ, List.set_cons_zero]
  refine wpList_fact (fun v => Hid (v = cv ((!(((decide (k < 0)) || (decide (6 < k))) || ((k != 3) && (n != 0)))) && (k != 4)) (.pointer (some ⟨g, 2, none⟩)))) (fun K hK => ?_) (fun x23 E23 => ?_)
  · rcases bcases ((!(((decide (k < 0)) || (decide (6 < k))) || ((k != 3) && (n != 0)))) && (k != 4)) with hc | hc
    · have hk := hK undef (cv_no hc)
      rcases bcases (!(((decide (k < 0)) || (decide (6 < k))) || ((k != 3) && (n != 0)))) with hj | hj
      · obtain rfl : x22 = undef := cv_f E22.out hj
        exact ite_no (by kernel_rfl) hk
      · obtain rfl : x22 = .bool false := (cv_t E22.out hj).trans (congrArg Value.bool (band_f hj hc))
        exact ite_no (by kernel_rfl) hk
    · have eg : x22 = .bool true := (cv_t E22.out (band_l (hc))).trans (congrArg Value.bool (band_r (hc)))
      refine ite_yes (by rw [eg]; kernel_rfl) ?_
      clear eg
      go_simp
      exact hK _ (cv_yes hc (rfl))
  simp only [Act.put, List.setIfInBounds_toArray, List.set_cons_succ, List.set_cons_zero]
  refine wpList_fact (fun v => Hid (v = cv ((!(((decide (k < 0)) || (decide (6 < k))) || ((k != 3) && (n != 0)))) && (k != 4)) (.string (strOf t)))) (fun K hK => ?_) (fun x24 E24 => ?_)
  · rcases bcases ((!(((decide (k < 0)) || (decide (6 < k))) || ((k != 3) && (n != 0)))) && (k != 4)) with hc | hc
    · have hk := hK undef (cv_no hc)
      rcases bcases (!(((decide (k < 0)) || (decide (6 < k))) || ((k != 3) && (n != 0)))) with hj | hj
      · obtain rfl : x22 = undef := cv_f E22.out hj
        exact ite_no (by kernel_rfl) hk
      · obtain rfl : x22 = .bool false := (cv_t E22.out hj).trans (congrArg Value.bool (band_f hj hc))
        exact ite_no (by kernel_rfl) hk
    · have eg : x22 = .bool true := (cv_t E22.out (band_l (hc))).trans (congrArg Value.bool (band_r (hc)))
      refine ite_yes (by rw [eg]; kernel_rfl) ?_
      clear eg
      obtain rfl : x23 = .pointer (some ⟨g, 2, none⟩) := cv_t E23.out (hc)
      go_simp
      exact hK _ (cv_yes hc (rfl))
  simp only [Act.put, List.setIfInBounds_toArray, List.set_cons_succ, List.set_cons_zero]
  refine wpList_fact (fun v => Hid (v = cv ((!(((decide (k < 0)) || (decide (6 < k))) || ((k != 3) && (n != 0)))) && (k != 4)) (.bool (!t.isEmpty)))) (fun K hK => ?_) (fun x25 E25 => ?_)
  · rcases bcases ((!(((decide (k < 0)) || (decide (6 < k))) || ((k != 3) && (n != 0)))) && (k != 4)) with hc | hc
    · have hk := hK undef (cv_no hc)
      rcases bcases (!(((decide (k < 0)) || (decide (6 < k))) || ((k != 3) && (n != 0)))) with hj | hj
      · obtain rfl : x22 = undef := cv_f E22.out hj
        exact ite_no (by kernel_rfl) hk
      · obtain rfl : x22 = .bool false := (cv_t E22.out hj).trans (congrArg Value.bool (band_f hj hc))
        exact ite_no (by kernel_rfl) hk
    · have eg : x22 = .bool true := (cv_t E22.out (band_l (hc))).trans (congrArg Value.bool (band_r (hc)))
      refine ite_yes (by rw [eg]; kernel_rfl) ?_
      clear eg
      obtain rfl : x24 = .string (strOf t) := cv_t E24.out (hc)
      go_simp
      exact hK _ (cv_yes hc (by first | rfl | simp [strOf_toList]))
  simp only [Act.put, List.setIfInBounds_toArray, List.set_cons_succ, List.set_cons_zero]
  refine wpList_fact (fun v => Hid (v = cv (!(((decide (k < 0)) || (decide (6 < k))) || ((k != 3) && (n != 0)))) (.bool ((k != 4) && (!t.isEmpty))))) (fun K hK => ?_) (fun x26 E26 => ?_)
  · rcases bcases (!(((decide (k < 0)) || (decide (6 < k))) || ((k != 3) && (n != 0)))) with hc | hc
    · have hk := hK undef (cv_no hc)
      obtain rfl : x18 = .bool true := E18.out.trans (congrArg Value.bool (bnot_f hc))
      exact ite_no (by kernel_rfl) hk
    · have eg : x18 = .bool false := E18.out.trans (congrArg Value.bool (bnot_t (hc)))
      refine ite_yes (by rw [eg]; kernel_rfl) ?_
      clear eg
      rcases bcases ((k != 4)) with hq | hq
      · obtain rfl : x22 = .bool false := (cv_t E22.out (hc)).trans (congrArg Value.bool hq)
        go_simp
        exact hK _ (cv_yes hc (by simp only [hq, Bool.false_or, Bool.true_or, Bool.true_and, Bool.false_and]))
      · obtain rfl : x22 = .bool true := (cv_t E22.out (hc)).trans (congrArg Value.bool hq)
        obtain rfl : x25 = .bool (!t.isEmpty) := cv_t E25.out ((by rw [show (!(((decide (k < 0)) || (decide (6 < k))) || ((k != 3) && (n != 0)))) = true from hc, hq]; rfl))
        go_simp
        exact hK _ (cv_yes hc (by simp only [hq, Bool.false_or, Bool.true_or, Bool.true_and, Bool.false_and]))
  simp only [Act.put, List.setIfInBounds_toArray, List.set_cons_succ, List.set_cons_zero]
  refine wpList_fact (fun v => Hid (v = .bool ((((decide (k < 0)) || (decide (6 < k))) || ((k != 3) && (n != 0))) || ((k != 4) && (!t.isEmpty))))) (fun K hK => ?_) (fun x27 E27 => ?_)
  · refine ite_yes (by kernel_rfl) ?_
    rcases bcases ((((decide (k < 0)) || (decide (6 < k))) || ((k != 3) && (n != 0)))) with hq | hq
    · obtain rfl : x18 = .bool false := E18.out.trans (congrArg Value.bool hq)
      obtain rfl : x26 = .bool ((k != 4) && (!t.isEmpty)) := cv_t E26.out ((by rw [hq]; rfl))
      go_simp
      exact hK _ (Lib.hid (by simp only [hq, Bool.false_or, Bool.true_or, Bool.true_and, Bool.false_and]))
    · obtain rfl : x18 = .bool true := E18.out.trans (congrArg Value.bool hq)
      go_simp
      exact hK _ (Lib.hid (by simp only [hq, Bool.false_or, Bool.true_or, Bool.true_and, Bool.false_and]))
  simp only [Act.put, List.setIfInBounds_toArray, List.set_cons_succ, List.set_cons_zero]
  refine wpList_fact (fun v => Hid (v = .bool ((((decide (k < 0)) || (decide (6 < k))) || ((k != 3) && (n != 0))) || ((k != 4) && (!t.isEmpty))))) (fun K hK => ?_) (fun x28 E28 => ?_)
  · refine ite_yes (by kernel_rfl) ?_
    obtain rfl : x27 = .bool ((((decide (k < 0)) || (decide (6 < k))) || ((k != 3) && (n != 0))) || ((k != 4) && (!t.isEmpty))) := E27.out
    go_simp
    exact hK _ (Lib.hid (rfl))
  simp only [Act.put, List.setIfInBounds_toArray, List.set_cons_succ, List.set_cons_zero]
  refine wpList_fact (fun v => Hid (v = cv (!((((decide (k < 0)) || (decide (6 < k))) || ((k != 3) && (n != 0))) || ((k != 4) && (!t.isEmpty)))) (.pointer (some ⟨g, 0, none⟩)))) (fun K hK => ?_) (fun x29 E29 => ?_)
  · rcases bcases (!((((decide (k < 0)) || (decide (6 < k))) || ((k != 3) && (n != 0))) || ((k != 4) && (!t.isEmpty)))) with hc | hc
    · have hk := hK undef (cv_no hc)
      obtain rfl : x28 = .bool true := E28.out.trans (congrArg Value.bool (bnot_f hc))
      exact ite_no (by kernel_rfl) hk
    · have eg : x28 = .bool false := E28.out.trans (congrArg Value.bool (bnot_t (hc)))
      refine ite_yes (by rw [eg]; kernel_rfl) ?_
      clear eg
      go_simp
      exact hK _ (cv_yes hc (rfl))
  simp only [Act.put, List.setIfInBounds_toArray, List.set_cons_succ, List.set_cons_zero]
  refine wpList_fact (fun v => Hid (v = cv (!((((decide (k < 0)) || (decide (6 < k))) || ((k != 3) && (n != 0))) || ((k != 4) && (!t.isEmpty)))) (.int .i64 k))) (fun K hK => ?_) (fun x30 E30 => ?_)
  · rcases bcases (!((((decide (k < 0)) || (decide (6 < k))) || ((k != 3) && (n != 0))) || ((k != 4) && (!t.isEmpty)))) with hc | hc
    · have hk := hK undef (cv_no hc)
      obtain rfl : x28 = .bool true := E28.out.trans (congrArg Value.bool (bnot_f hc))
      exact ite_no (by kernel_rfl) hk
    · have eg : x28 = .bool false := E28.out.trans (congrArg Value.bool (bnot_t (hc)))
      refine ite_yes (by rw [eg]; kernel_rfl) ?_
      clear eg
      obtain rfl : x29 = .pointer (some ⟨g, 0, none⟩) := cv_t E29.out (hc)
      go_simp
      exact hK _ (cv_yes hc (rfl))
  simp only [Act.put, List.setIfInBounds_toArray, List.set_cons_succ, List.set_cons_zero]
  refine wpList_fact (fun v => Hid (v = cv (!((((decide (k < 0)) || (decide (6 < k))) || ((k != 3) && (n != 0))) || ((k != 4) && (!t.isEmpty)))) (.bool (decide (k < 5))))) (fun K hK => ?_) (fun x31 E31 => ?_)
  · rcases bcases (!((((decide (k < 0)) || (decide (6 < k))) || ((k != 3) && (n != 0))) || ((k != 4) && (!t.isEmpty)))) with hc | hc
    · have hk := hK undef (cv_no hc)
      obtain rfl : x28 = .bool true := E28.out.trans (congrArg Value.bool (bnot_f hc))
      exact ite_no (by kernel_rfl) hk
    · have eg : x28 = .bool false := E28.out.trans (congrArg Value.bool (bnot_t (hc)))
      refine ite_yes (by rw [eg]; kernel_rfl) ?_
      clear eg
      obtain rfl : x30 = .int .i64 k := cv_t E30.out (hc)
      go_simp
      exact hK _ (cv_yes hc (by first | rfl | simp [strOf_toList]))
  simp only [Act.put, List.setIfInBounds_toArray, List.set_cons_succ, List.set_cons_zero]
  refine wpList_fact (fun v => Hid (v = cv (!((((decide (k < 0)) || (decide (6 < k))) || ((k != 3) && (n != 0))) || ((k != 4) && (!t.isEmpty)))) (.bool (decide (k < 5))))) (fun K hK => ?_) (fun x32 E32 => ?_)
  · rcases bcases (!((((decide (k < 0)) || (decide (6 < k))) || ((k != 3) && (n != 0))) || ((k != 4) && (!t.isEmpty)))) with hc | hc
    · have hk := hK undef (cv_no hc)
      obtain rfl : x28 = .bool true := E28.out.trans (congrArg Value.bool (bnot_f hc))
      exact ite_no (by kernel_rfl) hk
    · have eg : x28 = .bool false := E28.out.trans (congrArg Value.bool (bnot_t (hc)))
      refine ite_yes (by rw [eg]; kernel_rfl) ?_
      clear eg
      obtain rfl : x31 = .bool (decide (k < 5)) := cv_t E31.out (hc)
      go_simp
      exact hK _ (cv_yes hc (rfl))
  simp only [Act.put, List.setIfInBounds_toArray, List.set_cons_succ, List.set_cons_zero]
  refine wpList_fact (fun v => Hid (v = cv ((!((((decide (k < 0)) || (decide (6 < k))) || ((k != 3) && (n != 0))) || ((k != 4) && (!t.isEmpty)))) && (decide (k < 5))) (.pointer (some ⟨g, 3, none⟩)))) (fun K hK => ?_) (fun x33 E33 => ?_)
  · rcases bcases ((!((((decide (k < 0)) || (decide (6 < k))) || ((k != 3) && (n != 0))) || ((k != 4) && (!t.isEmpty)))) && (decide (k < 5))) with hc | hc
    · have hk := hK undef (cv_no hc)
      rcases bcases (!((((decide (k < 0)) || (decide (6 < k))) || ((k != 3) && (n != 0))) || ((k != 4) && (!t.isEmpty)))) with hj | hj
      · obtain rfl : x32 = undef := cv_f E32.out hj
        exact ite_no (by kernel_rfl) hk
      · obtain rfl : x32 = .bool false := (cv_t E32.out hj).trans (congrArg Value.bool (band_f hj hc))
        exact ite_no (by kernel_rfl) hk
    · have eg : x32 = .bool true := (cv_t E32.out (band_l (hc))).trans (congrArg Value.bool (band_r (hc)))
      refine ite_yes (by rw [eg]; kernel_rfl) ?_
      clear eg
      go_simp
      exact hK _ (cv_yes hc (rfl))
  simp only [Act.put, List.setIfInBounds_toArray, List.set_cons_succ, List.set_cons_zero]
  refine wpList_fact (fun v => Hid (v = cv ((!((((decide (k < 0)) || (decide (6 < k))) || ((k != 3) && (n != 0))) || ((k != 4) && (!t.isEmpty)))) && (decide (k < 5))) (.slice Al l.length cl))) (fun K hK => ?_) (fun x34 E34 => ?_)
  · rcases bcases ((!((((decide (k < 0)) || (decide (6 < k))) || ((k != 3) && (n != 0))) || ((k != 4) && (!t.isEmpty)))) && (decide (k < 5))) with hc | hc
    · have hk := hK undef (cv_no hc)
      rcases bcases (!((((decide (k < 0)) || (decide (6 < k))) || ((k != 3) && (n != 0))) || ((k != 4) && (!t.isEmpty)))) with hj | hj
      · obtain rfl : x32 = undef := cv_f E32.out hj
        exact ite_no (by kernel_rfl) hk
      · obtain rfl : x32 = .bool false := (cv_t E32.out hj).trans (congrArg Value.bool (band_f hj hc))
        exact ite_no (by kernel_rfl) hk
    · have eg : x32 = .bool true := (cv_t E32.out (band_l (hc))).trans (congrArg Value.bool (band_r (hc)))
      refine ite_yes (by rw [eg]; kernel_rfl) ?_
      clear eg
      obtain rfl : x33 = .pointer (some ⟨g, 3, none⟩) := cv_t E33.out (hc)
      go_simp
      exact hK _ (cv_yes hc (rfl))
  simp only [Act.put, List.setIfInBounds_toArray, List.set_cons_succ, List.set_cons_zero]
  refine wpList_fact (fun v => Hid (v = cv ((!((((decide (k < 0)) || (decide (6 < k))) || ((k != 3) && (n != 0))) || ((k != 4) && (!t.isEmpty)))) && (decide (k < 5))) (.int .i64 ((l.length : Nat) : Int)))) (fun K hK => ?_) (fun x35 E35 => ?_)
  · rcases bcases ((!((((decide (k < 0)) || (decide (6 < k))) || ((k != 3) && (n != 0))) || ((k != 4) && (!t.isEmpty)))) && (decide (k < 5))) with hc | hc
    · have hk := hK undef (cv_no hc)
      rcases bcases (!((((decide (k < 0)) || (decide (6 < k))) || ((k != 3) && (n != 0))) || ((k != 4) && (!t.isEmpty)))) with hj | hj
      · obtain rfl : x32 = undef := cv_f E32.out hj
        exact ite_no (by kernel_rfl) hk
      · obtain rfl : x32 = .bool false := (cv_t E32.out hj).trans (congrArg Value.bool (band_f hj hc))
        exact ite_no (by kernel_rfl) hk
    · have eg : x32 = .bool true := (cv_t E32.out (band_l (hc))).trans (congrArg Value.bool (band_r (hc)))
      refine ite_yes (by rw [eg]; kernel_rfl) ?_
      clear eg
      obtain rfl : x34 = .slice Al l.length cl := cv_t E34.out (hc)
      go_simp
      exact hK _ (cv_yes hc (rfl))
  simp only [Act.put, List.setIfInBounds_toArray, List.set_cons_succ, List.set_cons_zero]
  refine wpList_fact (fun v => Hid (v = cv ((!((((decide (k < 0)) || (decide (6 < k))) || ((k != 3) && (n != 0))) || ((k != 4) && (!t.isEmpty)))) && (decide (k < 5))) (.bool (decide (0 < l.length))))) (fun K hK => ?_) (fun x36 E36 => ?_)
  · rcases bcases ((!((((decide (k < 0)) || (decide (6 < k))) || ((k != 3) && (n != 0))) || ((k != 4) && (!t.isEmpty)))) && (decide (k < 5))) with hc | hc
    · have hk := hK undef (cv_no hc)
      rcases bcases (!((((decide (k < 0)) || (decide (6 < k))) || ((k != 3) && (n != 0))) || ((k != 4) && (!t.isEmpty)))) with hj | hj
      · obtain rfl : x32 = undef := cv_f E32.out hj
        exact ite_no (by kernel_rfl) hk
      · obtain rfl : x32 = .bool false := (cv_t E32.out hj).trans (congrArg Value.bool (band_f hj hc))
        exact ite_no (by kernel_rfl) hk
    · have eg : x32 = .bool true := (cv_t E32.out (band_l (hc))).trans (congrArg Value.bool (band_r (hc)))
      refine ite_yes (by rw [eg]; kernel_rfl) ?_
      clear eg
      obtain rfl : x35 = .int .i64 ((l.length : Nat) : Int) := cv_t E35.out (hc)
      go_simp
      exact hK _ (cv_yes hc (by first | rfl | simp [strOf_toList]))
  simp only [Act.put, List.setIfInBounds_toArray, List.set_cons_succ, List.set_cons_zero]
  refine wpList_fact (fun v => Hid (v = cv (!((((decide (k < 0)) || (decide (6 < k))) || ((k != 3) && (n != 0))) || ((k != 4) && (!t.isEmpty)))) (.bool ((decide (k < 5)) && (decide (0 < l.length)))))) (fun K hK => ?_) (fun x37 E37 => ?_)
  · rcases bcases (!((((decide (k < 0)) || (decide (6 < k))) || ((k != 3) && (n != 0))) || ((k != 4) && (!t.isEmpty)))) with hc | hc
    · have hk := hK undef (cv_no hc)
      obtain rfl : x28 = .bool true := E28.out.trans (congrArg Value.bool (bnot_f hc))
      exact ite_no (by kernel_rfl) hk
    · have eg : x28 = .bool false := E28.out.trans (congrArg Value.bool (bnot_t (hc)))
      refine ite_yes (by rw [eg]; kernel_rfl) ?_
      clear eg
      rcases bcases ((decide (k < 5))) with hq | hq
      · obtain rfl : x32 = .bool false := (cv_t E32.out (hc)).trans (congrArg Value.bool hq)
        go_simp
        exact hK _ (cv_yes hc (by simp only [hq, Bool.false_or, Bool.true_or, Bool.true_and, Bool.false_and]))
      · obtain rfl : x32 = .bool true := (cv_t E32.out (hc)).trans (congrArg Value.bool hq)
        obtain rfl : x36 = .bool (decide (0 < l.length)) := cv_t E36.out ((by rw [show (!((((decide (k < 0)) || (decide (6 < k))) || ((k != 3) && (n != 0))) || ((k != 4) && (!t.isEmpty)))) = true from hc, hq]; rfl))
        go_simp
        exact hK _ (cv_yes hc (by simp only [hq, Bool.false_or, Bool.true_or, Bool.true_and, Bool.false_and]))
  simp only [Act.put, List.setIfInBounds_toArray, List.set_cons_succ, List.set_cons_zero]
  refine wpList_fact (fun v => Hid (v = .bool (((((decide (k < 0)) || (decide (6 < k))) || ((k != 3) && (n != 0))) || ((k != 4) && (!t.isEmpty))) || ((decide (k < 5)) && (decide (0 < l.length)))))) (fun K hK => ?_) (fun x38 E38 => ?_)
  · refine ite_yes (by kernel_rfl) ?_
    rcases bcases (((((decide (k < 0)) || (decide (6 < k))) || ((k != 3) && (n != 0))) || ((k != 4) && (!t.isEmpty)))) with hq | hq
    · obtain rfl : x28 = .bool false := E28.out.trans (congrArg Value.bool hq)
      obtain rfl : x37 = .bool ((decide (k < 5)) && (decide (0 < l.length))) := cv_t E37.out ((by rw [hq]; rfl))
      go_simp
      exact hK _ (Lib.hid (by simp only [hq, Bool.false_or, Bool.true_or, Bool.true_and, Bool.false_and]))
    · obtain rfl : x28 = .bool true := E28.out.trans (congrArg Value.bool hq)
      go_simp
      exact hK _ (Lib.hid (by simp only [hq, Bool.false_or, Bool.true_or, Bool.true_and, Bool.false_and]))
  simp only [Act.put, List.setIfInBounds_toArray, List.set_cons_succ, List.set_cons_zero]
  refine wpList_fact (fun v => Hid (v = .bool (((((decide (k < 0)) || (decide (6 < k))) || ((k != 3) && (n != 0))) || ((k != 4) && (!t.isEmpty))) || ((decide (k < 5)) && (decide (0 < l.length)))))) (fun K hK => ?_) (fun x39 E39 => ?_)
  · refine ite_yes (by kernel_rfl) ?_
    obtain rfl : x38 = .bool (((((decide (k < 0)) || (decide (6 < k))) || ((k != 3) && (n != 0))) || ((k != 4) && (!t.isEmpty))) || ((decide (k < 5)) && (decide (0 < l.length)))) := E38.out
    go_simp
    exact hK _ (Lib.hid (rfl))
  simp only [Act.put, List.setIfInBounds_toArray, List.set_cons_succ, List.set_cons_zero]
  refine wpList_fact (fun v => Hid (v = cv (!(((((decide (k < 0)) || (decide (6 < k))) || ((k != 3) && (n != 0))) || ((k != 4) && (!t.isEmpty))) || ((decide (k < 5)) && (decide (0 < l.length))))) (.pointer (some ⟨g, 0, none⟩)))) (fun K hK => ?_) (fun x40 E40 => ?_)
  · rcases bcases (!(((((decide (k < 0)) || (decide (6 < k))) || ((k != 3) && (n != 0))) || ((k != 4) && (!t.isEmpty))) || ((decide (k < 5)) && (decide (0 < l.length))))) with hc | hc
    · have hk := hK undef (cv_no hc)
      obtain rfl : x39 = .bool true := E39.out.trans (congrArg Value.bool (bnot_f hc))
      exact ite_no (by kernel_rfl) hk
    · have eg : x39 = .bool false := E39.out.trans (congrArg Value.bool (bnot_t (hc)))
      refine ite_yes (by rw [eg]; kernel_rfl) ?_
      clear eg
      go_simp
      exact hK _ (cv_yes hc (rfl))
  simp only [Act.put, List.setIfInBounds_toArray, List.set_cons_succ, List.set_cons_zero]
  refine wpList_fact (fun v => Hid (v = cv (!(((((decide (k < 0)) || (decide (6 < k))) || ((k != 3) && (n != 0))) || ((k != 4) && (!t.isEmpty))) || ((decide (k < 5)) && (decide (0 < l.length))))) (.int .i64 k))) (fun K hK => ?_) (fun x41 E41 => ?_)
  · rcases bcases (!(((((decide (k < 0)) || (decide (6 < k))) || ((k != 3) && (n != 0))) || ((k != 4) && (!t.isEmpty))) || ((decide (k < 5)) && (decide (0 < l.length))))) with hc | hc
    · have hk := hK undef (cv_no hc)
      obtain rfl : x39 = .bool true := E39.out.trans (congrArg Value.bool (bnot_f hc))
      exact ite_no (by kernel_rfl) hk
    · have eg : x39 = .bool false := E39.out.trans (congrArg Value.bool (bnot_t (hc)))
      refine ite_yes (by rw [eg]; kernel_rfl) ?_
      clear eg
      obtain rfl : x40 = .pointer (some ⟨g, 0, none⟩) := cv_t E40.out (hc)
      go_simp
      exact hK _ (cv_yes hc (rfl))
  simp only [Act.put, List.setIfInBounds_toArray, List.set_cons_succ, List.set_cons_zero]
  refine wpList_fact (fun v => Hid (v = cv (!(((((decide (k < 0)) || (decide (6 < k))) || ((k != 3) && (n != 0))) || ((k != 4) && (!t.isEmpty))) || ((decide (k < 5)) && (decide (0 < l.length))))) (.bool (k != 6)))) (fun K hK => ?_) (fun x42 E42 => ?_)
  · rcases bcases (!(((((decide (k < 0)) || (decide (6 < k))) || ((k != 3) && (n != 0))) || ((k != 4) && (!t.isEmpty))) || ((decide (k < 5)) && (decide (0 < l.length))))) with hc | hc
    · have hk := hK undef (cv_no hc)
      obtain rfl : x39 = .bool true := E39.out.trans (congrArg Value.bool (bnot_f hc))
      exact ite_no (by kernel_rfl) hk
    · have eg : x39 = .bool false := E39.out.trans (congrArg Value.bool (bnot_t (hc)))
      refine ite_yes (by rw [eg]; kernel_rfl) ?_
      clear eg
      obtain rfl : x41 = .int .i64 k := cv_t E41.out (hc)
      go_simp
      exact hK _ (cv_yes hc (by first | rfl | simp [strOf_toList]))
  simp only [Act.put, List.setIfInBounds_toArray, List.set_cons_succ, List.set_cons_zero]
  refine wpList_fact (fun v => Hid (v = cv (!(((((decide (k < 0)) || (decide (6 < k))) || ((k != 3) && (n != 0))) || ((k != 4) && (!t.isEmpty))) || ((decide (k < 5)) && (decide (0 < l.length))))) (.bool (k != 6)))) (fun K hK => ?_) (fun x43 E43 => ?_)
  · rcases bcases (!(((((decide (k < 0)) || (decide (6 < k))) || ((k != 3) && (n != 0))) || ((k != 4) && (!t.isEmpty))) || ((decide (k < 5)) && (decide (0 < l.length))))) with hc | hc
    · have hk := hK undef (cv_no hc)
      obtain rfl : x39 = .bool true := E39.out.trans (congrArg Value.bool (bnot_f hc))
      exact ite_no (by kernel_rfl) hk
    · have eg : x39 = .bool false := E39.out.trans (congrArg Value.bool (bnot_t (hc)))
      refine ite_yes (by rw [eg]; kernel_rfl) ?_
      clear eg
      obtain rfl : x42 = .bool (k != 6) := cv_t E42.out (hc)
      go_simp
      exact hK _ (cv_yes hc (rfl))
  simp only [Act.put, List.setIfInBounds_toArray, List.set_cons_succ, List.set_cons_zero]
  refine wpList_fact (fun v => Hid (v = cv ((!(((((decide (k < 0)) || (decide (6 < k))) || ((k != 3) && (n != 0))) || ((k != 4) && (!t.isEmpty))) || ((decide (k < 5)) && (decide (0 < l.length))))) && (k != 6)) (.pointer (some ⟨g, 4, none⟩)))) (fun K hK => ?_) (fun x44 E44 => ?_)
  · rcases bcases ((!(((((decide (k < 0)) || (decide (6 < k))) || ((k != 3) && (n != 0))) || ((k != 4) && (!t.isEmpty))) || ((decide (k < 5)) && (decide (0 < l.length))))) && (k != 6)) with hc | hc
    · have hk := hK undef (cv_no hc)
      rcases bcases (!(((((decide (k < 0)) || (decide (6 < k))) || ((k != 3) && (n != 0))) || ((k != 4) && (!t.isEmpty))) || ((decide (k < 5)) && (decide (0 < l.length))))) with hj | hj
      · obtain rfl : x43 = undef := cv_f E43.out hj
        exact ite_no (by kernel_rfl) hk
      · obtain rfl : x43 = .bool false := (cv_t E43.out hj).trans (congrArg Value.bool (band_f hj hc))
        exact ite_no (by kernel_rfl) hk
    · have eg : x43 = .bool true := (cv_t E43.out (band_l (hc))).trans (congrArg Value.bool (band_r (hc)))
      refine ite_yes (by rw [eg]; kernel_rfl) ?_
      clear eg
      go_simp
      exact hK _ (cv_yes hc (rfl))
  simp only [Act.put, List.setIfInBounds_toArray, List.set_cons_succ, List.set_cons_zero]
  refine wpList_fact (fun v => Hid (v = cv ((!(((((decide (k < 0)) || (decide (6 < k))) || ((k != 3) && (n != 0))) || ((k != 4) && (!t.isEmpty))) || ((decide (k < 5)) && (decide (0 < l.length))))) && (k != 6)) (.slice Ak ks.length ck))) (fun K hK => ?_) (fun x45 E45 => ?_)
  · rcases bcases ((!(((((decide (k < 0)) || (decide (6 < k))) || ((k != 3) && (n != 0))) || ((k != 4) && (!t.isEmpty))) || ((decide (k < 5)) && (decide (0 < l.length))))) && (k != 6)) with hc | hc
    · have hk := hK undef (cv_no hc)
      rcases bcases (!(((((decide (k < 0)) || (decide (6 < k))) || ((k != 3) && (n != 0))) || ((k != 4) && (!t.isEmpty))) || ((decide (k < 5)) && (decide (0 < l.length))))) with hj | hj
      · obtain rfl : x43 = undef := cv_f E43.out hj
        exact ite_no (by kernel_rfl) hk
      · obtain rfl : x43 = .bool false := (cv_t E43.out hj).trans (congrArg Value.bool (band_f hj hc))
        exact ite_no (by kernel_rfl) hk
    · have eg : x43 = .bool true := (cv_t E43.out (band_l (hc))).trans (congrArg Value.bool (band_r (hc)))
      refine ite_yes (by rw [eg]; kernel_rfl) ?_
      clear eg
      obtain rfl : x44 = .pointer (some ⟨g, 4, none⟩) := cv_t E44.out (hc)
      go_simp
      exact hK _ (cv_yes hc (rfl))
  simp only [Act.put, List.setIfInBounds_toArray, List.set_cons_succ, List.set_cons_zero]
  refine wpList_fact (fun v => Hid (v = cv ((!(((((decide (k < 0)) || (decide (6 < k))) || ((k != 3) && (n != 0))) || ((k != 4) && (!t.isEmpty))) || ((decide (k < 5)) && (decide (0 < l.length))))) && (k != 6)) (.int .i64 ((ks.length : Nat) : Int)))) (fun K hK => ?_) (fun x46 E46 => ?_)
  · rcases bcases ((!(((((decide (k < 0)) || (decide (6 < k))) || ((k != 3) && (n != 0))) || ((k != 4) && (!t.isEmpty))) || ((decide (k < 5)) && (decide (0 < l.length))))) && (k != 6)) with hc | hc
    · have hk := hK undef (cv_no hc)
      rcases bcases (!(((((decide (k < 0)) || (decide (6 < k))) || ((k != 3) && (n != 0))) || ((k != 4) && (!t.isEmpty))) || ((decide (k < 5)) && (decide (0 < l.length))))) with hj | hj
      · obtain rfl : x43 = undef := cv_f E43.out hj
        exact ite_no (by kernel_rfl) hk
      · obtain rfl : x43 = .bool false := (cv_t E43.out hj).trans (congrArg Value.bool (band_f hj hc))
        exact ite_no (by kernel_rfl) hk
    · have eg : x43 = .bool true := (cv_t E43.out (band_l (hc))).trans (congrArg Value.bool (band_r (hc)))
      refine ite_yes (by rw [eg]; kernel_rfl) ?_
      clear eg
      obtain rfl : x45 = .slice Ak ks.length ck := cv_t E45.out (hc)
      go_simp
      exact hK _ (cv_yes hc (rfl))
  simp only [Act.put, List.setIfInBounds_toArray, List.set_cons_succ, List.set_cons_zero]
  refine wpList_fact (fun v => Hid (v = cv ((!(((((decide (k < 0)) || (decide (6 < k))) || ((k != 3) && (n != 0))) || ((k != 4) && (!t.isEmpty))) || ((decide (k < 5)) && (decide (0 < l.length))))) && (k != 6)) (.bool (decide (0 < ks.length))))) (fun K hK => ?_) (fun x47 E47 => ?_)
  · rcases bcases ((!(((((decide (k < 0)) || (decide (6 < k))) || ((k != 3) && (n != 0))) || ((k != 4) && (!t.isEmpty))) || ((decide (k < 5)) && (decide (0 < l.length))))) && (k != 6)) with hc | hc
    · have hk := hK undef (cv_no hc)
      rcases bcases (!(((((decide (k < 0)) || (decide (6 < k))) || ((k != 3) && (n != 0))) || ((k != 4) && (!t.isEmpty))) || ((decide (k < 5)) && (decide (0 < l.length))))) with hj | hj
      · obtain rfl : x43 = undef := cv_f E43.out hj
        exact ite_no (by kernel_rfl) hk
      · obtain rfl : x43 = .bool false := (cv_t E43.out hj).trans (congrArg Value.bool (band_f hj hc))
        exact ite_no (by kernel_rfl) hk
    · have eg : x43 = .bool true := (cv_t E43.out (band_l (hc))).trans (congrArg Value.bool (band_r (hc)))
      refine ite_yes (by rw [eg]; kernel_rfl) ?_
      clear eg
      obtain rfl : x46 = .int .i64 ((ks.length : Nat) : Int) := cv_t E46.out (hc)
      go_simp
      exact hK _ (cv_yes hc (by first | rfl | simp [strOf_toList]))
  simp only [Act.put, List.setIfInBounds_toArray, List.set_cons_succ, List.set_cons_zero]
  refine wpList_fact (fun v => Hid (v = cv (!(((((decide (k < 0)) || (decide (6 < k))) || ((k != 3) && (n != 0))) || ((k != 4) && (!t.isEmpty))) || ((decide (k < 5)) && (decide (0 < l.length))))) (.bool ((k != 6) && (decide (0 < ks.length)))))) (fun K hK => ?_) (fun x48 E48 => ?_)
  · rcases bcases (!(((((decide (k < 0)) || (decide (6 < k))) || ((k != 3) && (n != 0))) || ((k != 4) && (!t.isEmpty))) || ((decide (k < 5)) && (decide (0 < l.length))))) with hc | hc
    · have hk := hK undef (cv_no hc)
      obtain rfl : x39 = .bool true := E39.out.trans (congrArg Value.bool (bnot_f hc))
      exact ite_no (by kernel_rfl) hk
    · have eg : x39 = .bool false := E39.out.trans (congrArg Value.bool (bnot_t (hc)))
      refine ite_yes (by rw [eg]; kernel_rfl) ?_
      clear eg
      rcases bcases ((k != 6)) with hq | hq
      · obtain rfl : x43 = .bool false := (cv_t E43.out (hc)).trans (congrArg Value.bool hq)
        go_simp
        exact hK _ (cv_yes hc (by simp only [hq, Bool.false_or, Bool.true_or, Bool.true_and, Bool.false_and]))
      · obtain rfl : x43 = .bool true := (cv_t E43.out (hc)).trans (congrArg Value.bool hq)
        obtain rfl : x47 = .bool (decide (0 < ks.length)) := cv_t E47.out ((by rw [show (!(((((decide (k < 0)) || (decide (6 < k))) || ((k != 3) && (n != 0))) || ((k != 4) && (!t.isEmpty))) || ((decide (k < 5)) && (decide (0 < l.length))))) = true from hc, hq]; rfl))
        go_simp
        exact hK _ (cv_yes hc (by simp only [hq, Bool.false_or, Bool.true_or, Bool.true_and, Bool.false_and]))
  simp only [Act.put, List.setIfInBounds_toArray, List.set_cons_succ, List.set_cons_zero]
  refine wpList_fact (fun v => Hid (v = .bool ((((((decide (k < 0)) || (decide (6 < k))) || ((k != 3) && (n != 0))) || ((k != 4) && (!t.isEmpty))) || ((decide (k < 5)) && (decide (0 < l.length)))) || ((k != 6) && (decide (0 < ks.length)))))) (fun K hK => ?_) (fun x49 E49 => ?_)
  · refine ite_yes (by kernel_rfl) ?_
    rcases bcases ((((((decide (k < 0)) || (decide (6 < k))) || ((k != 3) && (n != 0))) || ((k != 4) && (!t.isEmpty))) || ((decide (k < 5)) && (decide (0 < l.length))))) with hq | hq
    · obtain rfl : x39 = .bool false := E39.out.trans (congrArg Value.bool hq)
      obtain rfl : x48 = .bool ((k != 6) && (decide (0 < ks.length))) := cv_t E48.out ((by rw [hq]; rfl))
      go_simp
      exact hK _ (Lib.hid (by simp only [hq, Bool.false_or, Bool.true_or, Bool.true_and, Bool.false_and]))
    · obtain rfl : x39 = .bool true := E39.out.trans (congrArg Value.bool hq)
      go_simp
      exact hK _ (Lib.hid (by simp only [hq, Bool.false_or, Bool.true_or, Bool.true_and, Bool.false_and]))
  simp only [Act.put, List.setIfInBounds_toArray, List.set_cons_succ, List.set_cons_zero]
  refine wpList_fact (fun v => Hid (v = .bool ((((((decide (k < 0)) || (decide (6 < k))) || ((k != 3) && (n != 0))) || ((k != 4) && (!t.isEmpty))) || ((decide (k < 5)) && (decide (0 < l.length)))) || ((k != 6) && (decide (0 < ks.length)))))) (fun K hK => ?_) (fun x50 E50 => ?_)
  · refine ite_yes (by kernel_rfl) ?_
    obtain rfl : x49 = .bool ((((((decide (k < 0)) || (decide (6 < k))) || ((k != 3) && (n != 0))) || ((k != 4) && (!t.isEmpty))) || ((decide (k < 5)) && (decide (0 < l.length)))) || ((k != 6) && (decide (0 < ks.length)))) := E49.out
    go_simp
    exact hK _ (Lib.hid (rfl))
  simp only [Act.put, List.setIfInBounds_toArray, List.set_cons_succ, List.set_cons_zero]
  refine wpList_fact (fun v => Hid (v = cv (!((((((decide (k < 0)) || (decide (6 < k))) || ((k != 3) && (n != 0))) || ((k != 4) && (!t.isEmpty))) || ((decide (k < 5)) && (decide (0 < l.length)))) || ((k != 6) && (decide (0 < ks.length))))) (.pointer (some ⟨g, 0, none⟩)))) (fun K hK => ?_) (fun x51 E51 => ?_)
  · rcases bcases (!((((((decide (k < 0)) || (decide (6 < k))) || ((k != 3) && (n != 0))) || ((k != 4) && (!t.isEmpty))) || ((decide (k < 5)) && (decide (0 < l.length)))) || ((k != 6) && (decide (0 < ks.length))))) with hc | hc
    · have hk := hK undef (cv_no hc)
      obtain rfl : x50 = .bool true := E50.out.trans (congrArg Value.bool (bnot_f hc))
      exact ite_no (by kernel_rfl) hk
    · have eg : x50 = .bool false := E50.out.trans (congrArg Value.bool (bnot_t (hc)))
      refine ite_yes (by rw [eg]; kernel_rfl) ?_
      clear eg
      go_simp
      exact hK _ (cv_yes hc (rfl))
  simp only [Act.put, List.setIfInBounds_toArray, List.set_cons_succ, List.set_cons_zero]
  refine wpList_fact (fun v => Hid (v = cv (!((((((decide (k < 0)) || (decide (6 < k))) || ((k != 3) && (n != 0))) || ((k != 4) && (!t.isEmpty))) || ((decide (k < 5)) && (decide (0 < l.length)))) || ((k != 6) && (decide (0 < ks.length))))) (.int .i64 k))) (fun K hK => ?_) (fun x52 E52 => ?_)
  · rcases bcases (!((((((decide (k < 0)) || (decide (6 < k))) || ((k != 3) && (n != 0))) || ((k != 4) && (!t.isEmpty))) || ((decide (k < 5)) && (decide (0 < l.length)))) || ((k != 6) && (decide (0 < ks.length))))) with hc | hc
    · have hk := hK undef (cv_no hc)
      obtain rfl : x50 = .bool true := E50.out.trans (congrArg Value.bool (bnot_f hc))
      exact ite_no (by kernel_rfl) hk
    · have eg : x50 = .bool false := E50.out.trans (congrArg Value.bool (bnot_t (hc)))
      refine ite_yes (by rw [eg]; kernel_rfl) ?_
      clear eg
      obtain rfl : x51 = .pointer (some ⟨g, 0, none⟩) := cv_t E51.out (hc)
      go_simp
      exact hK _ (cv_yes hc (rfl))
  simp only [Act.put, List.setIfInBounds_toArray, List.set_cons_succ, List.set_cons_zero]
  refine wpList_fact (fun v => Hid (v = cv (!((((((decide (k < 0)) || (decide (6 < k))) || ((k != 3) && (n != 0))) || ((k != 4) && (!t.isEmpty))) || ((decide (k < 5)) && (decide (0 < l.length)))) || ((k != 6) && (decide (0 < ks.length))))) (.bool (k == 6)))) (fun K hK => ?_) (fun x53 E53 => ?_)
  · rcases bcases (!((((((decide (k < 0)) || (decide (6 < k))) || ((k != 3) && (n != 0))) || ((k != 4) && (!t.isEmpty))) || ((decide (k < 5)) && (decide (0 < l.length)))) || ((k != 6) && (decide (0 < ks.length))))) with hc | hc
    · have hk := hK undef (cv_no hc)
      obtain rfl : x50 = .bool true := E50.out.trans (congrArg Value.bool (bnot_f hc))
      exact ite_no (by kernel_rfl) hk
    · have eg : x50 = .bool false := E50.out.trans (congrArg Value.bool (bnot_t (hc)))
      refine ite_yes (by rw [eg]; kernel_rfl) ?_
      clear eg
      obtain rfl : x52 = .int .i64 k := cv_t E52.out (hc)
      go_simp
      exact hK _ (cv_yes hc (by first | rfl | simp [strOf_toList]))
  simp only [Act.put, List.setIfInBounds_toArray, List.set_cons_succ, List.set_cons_zero]
  refine wpList_fact (fun v => Hid (v = cv (!((((((decide (k < 0)) || (decide (6 < k))) || ((k != 3) && (n != 0))) || ((k != 4) && (!t.isEmpty))) || ((decide (k < 5)) && (decide (0 < l.length)))) || ((k != 6) && (decide (0 < ks.length))))) (.bool (k == 6)))) (fun K hK => ?_) (fun x54 E54 => ?_)
  · rcases bcases (!((((((decide (k < 0)) || (decide (6 < k))) || ((k != 3) && (n != 0))) || ((k != 4) && (!t.isEmpty))) || ((decide (k < 5)) && (decide (0 < l.length)))) || ((k != 6) && (decide (0 < ks.length))))) with hc | hc
    · have hk := hK undef (cv_no hc)
      obtain rfl : x50 = .bool true := E50.out.trans (congrArg Value.bool (bnot_f hc))
      exact ite_no (by kernel_rfl) hk
    · have eg : x50 = .bool false := E50.out.trans (congrArg Value.bool (bnot_t (hc)))
      refine ite_yes (by rw [eg]; kernel_rfl) ?_
      clear eg
      obtain rfl : x53 = .bool (k == 6) := cv_t E53.out (hc)
      go_simp
      exact hK _ (cv_yes hc (rfl))
  simp only [Act.put, List.setIfInBounds_toArray, List.set_cons_succ, List.set_cons_zero]
  refine wpList_fact (fun v => Hid (v = cv ((!((((((decide (k < 0)) || (decide (6 < k))) || ((k != 3) && (n != 0))) || ((k != 4) && (!t.isEmpty))) || ((decide (k < 5)) && (decide (0 < l.length)))) || ((k != 6) && (decide (0 < ks.length))))) && (k == 6)) (.pointer (some ⟨g, 4, none⟩)))) (fun K hK => ?_) (fun x55 E55 => ?_)
  · rcases bcases ((!((((((decide (k < 0)) || (decide (6 < k))) || ((k != 3) && (n != 0))) || ((k != 4) && (!t.isEmpty))) || ((decide (k < 5)) && (decide (0 < l.length)))) || ((k != 6) && (decide (0 < ks.length))))) && (k == 6)) with hc | hc
    · have hk := hK undef (cv_no hc)
      rcases bcases (!((((((decide (k < 0)) || (decide (6 < k))) || ((k != 3) && (n != 0))) || ((k != 4) && (!t.isEmpty))) || ((decide (k < 5)) && (decide (0 < l.length)))) || ((k != 6) && (decide (0 < ks.length))))) with hj | hj
      · obtain rfl : x54 = undef := cv_f E54.out hj
        exact ite_no (by kernel_rfl) hk
      · obtain rfl : x54 = .bool false := (cv_t E54.out hj).trans (congrArg Value.bool (band_f hj hc))
        exact ite_no (by kernel_rfl) hk
    · have eg : x54 = .bool true := (cv_t E54.out (band_l (hc))).trans (congrArg Value.bool (band_r (hc)))
      refine ite_yes (by rw [eg]; kernel_rfl) ?_
      clear eg
      go_simp
      exact hK _ (cv_yes hc (rfl))
  simp only [Act.put, List.setIfInBounds_toArray, List.set_cons_succ, List.set_cons_zero]
  refine wpList_fact (fun v => Hid (v = cv ((!((((((decide (k < 0)) || (decide (6 < k))) || ((k != 3) && (n != 0))) || ((k != 4) && (!t.isEmpty))) || ((decide (k < 5)) && (decide (0 < l.length)))) || ((k != 6) && (decide (0 < ks.length))))) && (k == 6)) (.slice Ak ks.length ck))) (fun K hK => ?_) (fun x56 E56 => ?_)
  · rcases bcases ((!((((((decide (k < 0)) || (decide (6 < k))) || ((k != 3) && (n != 0))) || ((k != 4) && (!t.isEmpty))) || ((decide (k < 5)) && (decide (0 < l.length)))) || ((k != 6) && (decide (0 < ks.length))))) && (k == 6)) with hc | hc
    · have hk := hK undef (cv_no hc)
      rcases bcases (!((((((decide (k < 0)) || (decide (6 < k))) || ((k != 3) && (n != 0))) || ((k != 4) && (!t.isEmpty))) || ((decide (k < 5)) && (decide (0 < l.length)))) || ((k != 6) && (decide (0 < ks.length))))) with hj | hj
      · obtain rfl : x54 = undef := cv_f E54.out hj
        exact ite_no (by kernel_rfl) hk
      · obtain rfl : x54 = .bool false := (cv_t E54.out hj).trans (congrArg Value.bool (band_f hj hc))
        exact ite_no (by kernel_rfl) hk
    · have eg : x54 = .bool true := (cv_t E54.out (band_l (hc))).trans (congrArg Value.bool (band_r (hc)))
      refine ite_yes (by rw [eg]; kernel_rfl) ?_
      clear eg
      obtain rfl : x55 = .pointer (some ⟨g, 4, none⟩) := cv_t E55.out (hc)
      go_simp
      exact hK _ (cv_yes hc (rfl))
  simp only [Act.put, List.setIfInBounds_toArray, List.set_cons_succ, List.set_cons_zero]
  refine wpList_fact (fun v => Hid (v = cv ((!((((((decide (k < 0)) || (decide (6 < k))) || ((k != 3) && (n != 0))) || ((k != 4) && (!t.isEmpty))) || ((decide (k < 5)) && (decide (0 < l.length)))) || ((k != 6) && (decide (0 < ks.length))))) && (k == 6)) (.int .i64 ((ks.length : Nat) : Int)))) (fun K hK => ?_) (fun x57 E57 => ?_)
  · rcases bcases ((!((((((decide (k < 0)) || (decide (6 < k))) || ((k != 3) && (n != 0))) || ((k != 4) && (!t.isEmpty))) || ((decide (k < 5)) && (decide (0 < l.length)))) || ((k != 6) && (decide (0 < ks.length))))) && (k == 6)) with hc | hc
    · have hk := hK undef (cv_no hc)
      rcases bcases (!((((((decide (k < 0)) || (decide (6 < k))) || ((k != 3) && (n != 0))) || ((k != 4) && (!t.isEmpty))) || ((decide (k < 5)) && (decide (0 < l.length)))) || ((k != 6) && (decide (0 < ks.length))))) with hj | hj
      · obtain rfl : x54 = undef := cv_f E54.out hj
        exact ite_no (by kernel_rfl) hk
      · obtain rfl : x54 = .bool false := (cv_t E54.out hj).trans (congrArg Value.bool (band_f hj hc))
        exact ite_no (by kernel_rfl) hk
    · have eg : x54 = .bool true := (cv_t E54.out (band_l (hc))).trans (congrArg Value.bool (band_r (hc)))
      refine ite_yes (by rw [eg]; kernel_rfl) ?_
      clear eg
      obtain rfl : x56 = .slice Ak ks.length ck := cv_t E56.out (hc)
      go_simp
      exact hK _ (cv_yes hc (rfl))
  simp only [Act.put, List.setIfInBounds_toArray, List.set_cons_succ, List.set_cons_zero]
  refine wpList_fact (fun v => Hid (v = cv ((!((((((decide (k < 0)) || (decide (6 < k))) || ((k != 3) && (n != 0))) || ((k != 4) && (!t.isEmpty))) || ((decide (k < 5)) && (decide (0 < l.length)))) || ((k != 6) && (decide (0 < ks.length))))) && (k == 6)) (.pointer (some ⟨g, 3, none⟩)))) (fun K hK => ?_) (fun x58 E58 => ?_)
  · rcases bcases ((!((((((decide (k < 0)) || (decide (6 < k))) || ((k != 3) && (n != 0))) || ((k != 4) && (!t.isEmpty))) || ((decide (k < 5)) && (decide (0 < l.length)))) || ((k != 6) && (decide (0 < ks.length))))) && (k == 6)) with hc | hc
    · have hk := hK undef (cv_no hc)
      rcases bcases (!((((((decide (k < 0)) || (decide (6 < k))) || ((k != 3) && (n != 0))) || ((k != 4) && (!t.isEmpty))) || ((decide (k < 5)) && (decide (0 < l.length)))) || ((k != 6) && (decide (0 < ks.length))))) with hj | hj
      · obtain rfl : x54 = undef := cv_f E54.out hj
        exact ite_no (by kernel_rfl) hk
      · obtain rfl : x54 = .bool false := (cv_t E54.out hj).trans (congrArg Value.bool (band_f hj hc))
        exact ite_no (by kernel_rfl) hk
    · have eg : x54 = .bool true := (cv_t E54.out (band_l (hc))).trans (congrArg Value.bool (band_r (hc)))
      refine ite_yes (by rw [eg]; kernel_rfl) ?_
      clear eg
      go_simp
      exact hK _ (cv_yes hc (rfl))
  simp only [Act.put, List.setIfInBounds_toArray, List.set_cons_succ, List.set_cons_zero]
  refine wpList_fact (fun v => Hid (v = cv ((!((((((decide (k < 0)) || (decide (6 < k))) || ((k != 3) && (n != 0))) || ((k != 4) && (!t.isEmpty))) || ((decide (k < 5)) && (decide (0 < l.length)))) || ((k != 6) && (decide (0 < ks.length))))) && (k == 6)) (.slice Al l.length cl))) (fun K hK => ?_) (fun x59 E59 => ?_)
  · rcases bcases ((!((((((decide (k < 0)) || (decide (6 < k))) || ((k != 3) && (n != 0))) || ((k != 4) && (!t.isEmpty))) || ((decide (k < 5)) && (decide (0 < l.length)))) || ((k != 6) && (decide (0 < ks.length))))) && (k == 6)) with hc | hc
    · have hk := hK undef (cv_no hc)
      rcases bcases (!((((((decide (k < 0)) || (decide (6 < k))) || ((k != 3) && (n != 0))) || ((k != 4) && (!t.isEmpty))) || ((decide (k < 5)) && (decide (0 < l.length)))) || ((k != 6) && (decide (0 < ks.length))))) with hj | hj
      · obtain rfl : x54 = undef := cv_f E54.out hj
        exact ite_no (by kernel_rfl) hk
      · obtain rfl : x54 = .bool false := (cv_t E54.out hj).trans (congrArg Value.bool (band_f hj hc))
        exact ite_no (by kernel_rfl) hk
    · have eg : x54 = .bool true := (cv_t E54.out (band_l (hc))).trans (congrArg Value.bool (band_r (hc)))
      refine ite_yes (by rw [eg]; kernel_rfl) ?_
      clear eg
      obtain rfl : x58 = .pointer (some ⟨g, 3, none⟩) := cv_t E58.out (hc)
      go_simp
      exact hK _ (cv_yes hc (rfl))
  simp only [Act.put, List.setIfInBounds_toArray, List.set_cons_succ, List.set_cons_zero]
  refine wpList_fact (fun v => Hid (v = cv ((!((((((decide (k < 0)) || (decide (6 < k))) || ((k != 3) && (n != 0))) || ((k != 4) && (!t.isEmpty))) || ((decide (k < 5)) && (decide (0 < l.length)))) || ((k != 6) && (decide (0 < ks.length))))) && (k == 6)) (.int .i64 ((l.length : Nat) : Int)))) (fun K hK => ?_) (fun x60 E60 => ?_)
  · rcases bcases ((!((((((decide (k < 0)) || (decide (6 < k))) || ((k != 3) && (n != 0))) || ((k != 4) && (!t.isEmpty))) || ((decide (k < 5)) && (decide (0 < l.length)))) || ((k != 6) && (decide (0 < ks.length))))) && (k == 6)) with hc | hc
    · have hk := hK undef (cv_no hc)
      rcases bcases (!((((((decide (k < 0)) || (decide (6 < k))) || ((k != 3) && (n != 0))) || ((k != 4) && (!t.isEmpty))) || ((decide (k < 5)) && (decide (0 < l.length)))) || ((k != 6) && (decide (0 < ks.length))))) with hj | hj
      · obtain rfl : x54 = undef := cv_f E54.out hj
        exact ite_no (by kernel_rfl) hk
      · obtain rfl : x54 = .bool false := (cv_t E54.out hj).trans (congrArg Value.bool (band_f hj hc))
        exact ite_no (by kernel_rfl) hk
    · have eg : x54 = .bool true := (cv_t E54.out (band_l (hc))).trans (congrArg Value.bool (band_r (hc)))
      refine ite_yes (by rw [eg]; kernel_rfl) ?_
      clear eg
      obtain rfl : x59 = .slice Al l.length cl := cv_t E59.out (hc)
      go_simp
      exact hK _ (cv_yes hc (rfl))
  simp only [Act.put, List.setIfInBounds_toArray, List.set_cons_succ, List.set_cons_zero]
  refine wpList_fact (fun v => Hid (v = cv ((!((((((decide (k < 0)) || (decide (6 < k))) || ((k != 3) && (n != 0))) || ((k != 4) && (!t.isEmpty))) || ((decide (k < 5)) && (decide (0 < l.length)))) || ((k != 6) && (decide (0 < ks.length))))) && (k == 6)) (.bool (ks.length != l.length)))) (fun K hK => ?_) (fun x61 E61 => ?_)
  · rcases bcases ((!((((((decide (k < 0)) || (decide (6 < k))) || ((k != 3) && (n != 0))) || ((k != 4) && (!t.isEmpty))) || ((decide (k < 5)) && (decide (0 < l.length)))) || ((k != 6) && (decide (0 < ks.length))))) && (k == 6)) with hc | hc
    · have hk := hK undef (cv_no hc)
      rcases bcases (!((((((decide (k < 0)) || (decide (6 < k))) || ((k != 3) && (n != 0))) || ((k != 4) && (!t.isEmpty))) || ((decide (k < 5)) && (decide (0 < l.length)))) || ((k != 6) && (decide (0 < ks.length))))) with hj | hj
      · obtain rfl : x54 = undef := cv_f E54.out hj
        exact ite_no (by kernel_rfl) hk
      · obtain rfl : x54 = .bool false := (cv_t E54.out hj).trans (congrArg Value.bool (band_f hj hc))
        exact ite_no (by kernel_rfl) hk
    · have eg : x54 = .bool true := (cv_t E54.out (band_l (hc))).trans (congrArg Value.bool (band_r (hc)))
      refine ite_yes (by rw [eg]; kernel_rfl) ?_
      clear eg
      obtain rfl : x57 = .int .i64 ((ks.length : Nat) : Int) := cv_t E57.out (hc)
      obtain rfl : x60 = .int .i64 ((l.length : Nat) : Int) := cv_t E60.out (hc)
      go_simp
      exact hK _ (cv_yes hc (congrArg Value.bool (ne_len _ _)))
  simp only [Act.put, List.setIfInBounds_toArray, List.set_cons_succ, List.set_cons_zero]
  refine wpList_fact (fun v => Hid (v = cv (!((((((decide (k < 0)) || (decide (6 < k))) || ((k != 3) && (n != 0))) || ((k != 4) && (!t.isEmpty))) || ((decide (k < 5)) && (decide (0 < l.length)))) || ((k != 6) && (decide (0 < ks.length))))) (.bool ((k == 6) && (ks.length != l.length))))) (fun K hK => ?_) (fun x62 E62 => ?_)
  · rcases bcases (!((((((decide (k < 0)) || (decide (6 < k))) || ((k != 3) && (n != 0))) || ((k != 4) && (!t.isEmpty))) || ((decide (k < 5)) && (decide (0 < l.length)))) || ((k != 6) && (decide (0 < ks.length))))) with hc | hc
    · have hk := hK undef (cv_no hc)
      obtain rfl : x50 = .bool true := E50.out.trans (congrArg Value.bool (bnot_f hc))
      exact ite_no (by kernel_rfl) hk
    · have eg : x50 = .bool false := E50.out.trans (congrArg Value.bool (bnot_t (hc)))
      refine ite_yes (by rw [eg]; kernel_rfl) ?_
      clear eg
      rcases bcases ((k == 6)) with hq | hq
      · obtain rfl : x54 = .bool false := (cv_t E54.out (hc)).trans (congrArg Value.bool hq)
        go_simp
        exact hK _ (cv_yes hc (by simp only [hq, Bool.false_or, Bool.true_or, Bool.true_and, Bool.false_and]))
      · obtain rfl : x54 = .bool true := (cv_t E54.out (hc)).trans (congrArg Value.bool hq)
        obtain rfl : x61 = .bool (ks.length != l.length) := cv_t E61.out ((by rw [show (!((((((decide (k < 0)) || (decide (6 < k))) || ((k != 3) && (n != 0))) || ((k != 4) && (!t.isEmpty))) || ((decide (k < 5)) && (decide (0 < l.length)))) || ((k != 6) && (decide (0 < ks.length))))) = true from hc, hq]; rfl))
        go_simp
        exact hK _ (cv_yes hc (by simp only [hq, Bool.false_or, Bool.true_or, Bool.true_and, Bool.false_and]))
  simp only [Act.put, List.setIfInBounds_toArray, List.set_cons_succ, List.set_cons_zero]
  refine wpList_fact (fun v => Hid (v = .bool (((((((decide (k < 0)) || (decide (6 < k))) || ((k != 3) && (n != 0))) || ((k != 4) && (!t.isEmpty))) || ((decide (k < 5)) && (decide (0 < l.length)))) || ((k != 6) && (decide (0 < ks.length)))) || ((k == 6) && (ks.length != l.length))))) (fun K hK => ?_) (fun x63 E63 => ?_)
  · refine ite_yes (by kernel_rfl) ?_
    rcases bcases (((((((decide (k < 0)) || (decide (6 < k))) || ((k != 3) && (n != 0))) || ((k != 4) && (!t.isEmpty))) || ((decide (k < 5)) && (decide (0 < l.length)))) || ((k != 6) && (decide (0 < ks.length))))) with hq | hq
    · obtain rfl : x50 = .bool false := E50.out.trans (congrArg Value.bool hq)
      obtain rfl : x62 = .bool ((k == 6) && (ks.length != l.length)) := cv_t E62.out ((by rw [hq]; rfl))
      go_simp
      exact hK _ (Lib.hid (by simp only [hq, Bool.false_or, Bool.true_or, Bool.true_and, Bool.false_and]))
    · obtain rfl : x50 = .bool true := E50.out.trans (congrArg Value.bool hq)
      go_simp
      exact hK _ (Lib.hid (by simp only [hq, Bool.false_or, Bool.true_or, Bool.true_and, Bool.false_and]))
  simp only [Act.put, List.setIfInBounds_toArray, List.set_cons_succ, List.set_cons_zero]
  refine wpList_fact (fun v => Hid (v = .bool (((((((decide (k < 0)) || (decide (6 < k))) || ((k != 3) && (n != 0))) || ((k != 4) && (!t.isEmpty))) || ((decide (k < 5)) && (decide (0 < l.length)))) || ((k != 6) && (decide (0 < ks.length)))) || ((k == 6) && (ks.length != l.length))))) (fun K hK => ?_) (fun x64 E64 => ?_)
  · refine ite_yes (by kernel_rfl) ?_
    obtain rfl : x63 = .bool (((((((decide (k < 0)) || (decide (6 < k))) || ((k != 3) && (n != 0))) || ((k != 4) && (!t.isEmpty))) || ((decide (k < 5)) && (decide (0 < l.length)))) || ((k != 6) && (decide (0 < ks.length)))) || ((k == 6) && (ks.length != l.length))) := E63.out
    go_simp
    exact hK _ (Lib.hid (rfl))
  simp only [Act.put, List.setIfInBounds_toArray, List.set_cons_succ, List.set_cons_zero]
  refine wpList_fact (fun v => Hid (v = cv (!(((((((decide (k < 0)) || (decide (6 < k))) || ((k != 3) && (n != 0))) || ((k != 4) && (!t.isEmpty))) || ((decide (k < 5)) && (decide (0 < l.length)))) || ((k != 6) && (decide (0 < ks.length)))) || ((k == 6) && (ks.length != l.length)))) (.pointer (some ⟨g, 2, none⟩)))) (fun K hK => ?_) (fun x65 E65 => ?_)
  · rcases bcases (!(((((((decide (k < 0)) || (decide (6 < k))) || ((k != 3) && (n != 0))) || ((k != 4) && (!t.isEmpty))) || ((decide (k < 5)) && (decide (0 < l.length)))) || ((k != 6) && (decide (0 < ks.length)))) || ((k == 6) && (ks.length != l.length)))) with hc | hc
    · have hk := hK undef (cv_no hc)
      obtain rfl : x64 = .bool true := E64.out.trans (congrArg Value.bool (bnot_f hc))
      exact ite_no (by kernel_rfl) hk
    · have eg : x64 = .bool false := E64.out.trans (congrArg Value.bool (bnot_t (hc)))
      refine ite_yes (by rw [eg]; kernel_rfl) ?_
      clear eg
      go_simp
      exact hK _ (cv_yes hc (rfl))
  simp only [Act.put, List.setIfInBounds_toArray, List.set_cons_succ, List.set_cons_zero]
  refine wpList_fact (fun v => Hid (v = cv (!(((((((decide (k < 0)) || (decide (6 < k))) || ((k != 3) && (n != 0))) || ((k != 4) && (!t.isEmpty))) || ((decide (k < 5)) && (decide (0 < l.length)))) || ((k != 6) && (decide (0 < ks.length)))) || ((k == 6) && (ks.length != l.length)))) (.string (strOf t)))) (fun K hK => ?_) (fun x66 E66 => ?_)
  · rcases bcases (!(((((((decide (k < 0)) || (decide (6 < k))) || ((k != 3) && (n != 0))) || ((k != 4) && (!t.isEmpty))) || ((decide (k < 5)) && (decide (0 < l.length)))) || ((k != 6) && (decide (0 < ks.length)))) || ((k == 6) && (ks.length != l.length)))) with hc | hc
    · have hk := hK undef (cv_no hc)
      obtain rfl : x64 = .bool true := E64.out.trans (congrArg Value.bool (bnot_f hc))
      exact ite_no (by kernel_rfl) hk
    · have eg : x64 = .bool false := E64.out.trans (congrArg Value.bool (bnot_t (hc)))
      refine ite_yes (by rw [eg]; kernel_rfl) ?_
      clear eg
      obtain rfl : x65 = .pointer (some ⟨g, 2, none⟩) := cv_t E65.out (hc)
      go_simp
      exact hK _ (cv_yes hc (rfl))
  simp only [Act.put, List.setIfInBounds_toArray, List.set_cons_succ, List.set_cons_zero]
  refine wpList_fact (fun v => Hid (v = cv (!(((((((decide (k < 0)) || (decide (6 < k))) || ((k != 3) && (n != 0))) || ((k != 4) && (!t.isEmpty))) || ((decide (k < 5)) && (decide (0 < l.length)))) || ((k != 6) && (decide (0 < ks.length)))) || ((k == 6) && (ks.length != l.length)))) (.bool p))) (fun K hK => ?_) (fun x67 E67 => ?_)
  · rcases bcases (!(((((((decide (k < 0)) || (decide (6 < k))) || ((k != 3) && (n != 0))) || ((k != 4) && (!t.isEmpty))) || ((decide (k < 5)) && (decide (0 < l.length)))) || ((k != 6) && (decide (0 < ks.length)))) || ((k == 6) && (ks.length != l.length)))) with hc | hc
    · have hk := hK undef (cv_no hc)
      obtain rfl : x64 = .bool true := E64.out.trans (congrArg Value.bool (bnot_f hc))
      exact ite_no (by kernel_rfl) hk
    · have eg : x64 = .bool false := E64.out.trans (congrArg Value.bool (bnot_t (hc)))
      refine ite_yes (by rw [eg]; kernel_rfl) ?_
      clear eg
      obtain rfl : x66 = .string (strOf t) := cv_t E66.out (hc)
      go_simp
      refine (PL.out _).mono ?_
      rintro e w' ⟨rfl, rfl⟩
      go_simp
      exact hK _ (cv_yes hc rfl)
  simp only [Act.put, List.setIfInBounds_toArray, List.set_cons_succ, List.set_cons_zero]
  refine wpList_fact (fun v => Hid (v = cv (!(((((((decide (k < 0)) || (decide (6 < k))) || ((k != 3) && (n != 0))) || ((k != 4) && (!t.isEmpty))) || ((decide (k < 5)) && (decide (0 < l.length)))) || ((k != 6) && (decide (0 < ks.length)))) || ((k == 6) && (ks.length != l.length)))) (.bool (!p)))) (fun K hK => ?_) (fun x68 E68 => ?_)
  · rcases bcases (!(((((((decide (k < 0)) || (decide (6 < k))) || ((k != 3) && (n != 0))) || ((k != 4) && (!t.isEmpty))) || ((decide (k < 5)) && (decide (0 < l.length)))) || ((k != 6) && (decide (0 < ks.length)))) || ((k == 6) && (ks.length != l.length)))) with hc | hc
    · have hk := hK undef (cv_no hc)
      obtain rfl : x64 = .bool true := E64.out.trans (congrArg Value.bool (bnot_f hc))
      exact ite_no (by kernel_rfl) hk
    · have eg : x64 = .bool false := E64.out.trans (congrArg Value.bool (bnot_t (hc)))
      refine ite_yes (by rw [eg]; kernel_rfl) ?_
      clear eg
      obtain rfl : x67 = .bool p := cv_t E67.out (hc)
      go_simp
      exact hK _ (cv_yes hc (rfl))
  simp only [Act.put, List.setIfInBounds_toArray, List.set_cons_succ, List.set_cons_zero]
  refine wpList_fact (fun v => Hid (v = .bool ((((((((decide (k < 0)) || (decide (6 < k))) || ((k != 3) && (n != 0))) || ((k != 4) && (!t.isEmpty))) || ((decide (k < 5)) && (decide (0 < l.length)))) || ((k != 6) && (decide (0 < ks.length)))) || ((k == 6) && (ks.length != l.length))) || (!p)))) (fun K hK => ?_) (fun x69 E69 => ?_)
  · refine ite_yes (by kernel_rfl) ?_
    rcases bcases ((((((((decide (k < 0)) || (decide (6 < k))) || ((k != 3) && (n != 0))) || ((k != 4) && (!t.isEmpty))) || ((decide (k < 5)) && (decide (0 < l.length)))) || ((k != 6) && (decide (0 < ks.length)))) || ((k == 6) && (ks.length != l.length)))) with hq | hq
    · obtain rfl : x64 = .bool false := E64.out.trans (congrArg Value.bool hq)
      obtain rfl : x68 = .bool (!p) := cv_t E68.out ((by rw [hq]; rfl))
      go_simp
      exact hK _ (Lib.hid (by simp only [hq, Bool.false_or, Bool.true_or, Bool.true_and, Bool.false_and]))
    · obtain rfl : x64 = .bool true := E64.out.trans (congrArg Value.bool hq)
      go_simp
      exact hK _ (Lib.hid (by simp only [hq, Bool.false_or, Bool.true_or, Bool.true_and, Bool.false_and]))
  simp only [Act.put, List.setIfInBounds_toArray, List.set_cons_succ, List.set_cons_zero]
  refine wpList_nil ?_
  have E : Hid (x69 = .bool (!u)) := Lib.hid (by rw [E69.out, ← HU.out]; exact congrArg Value.bool (big_is k n t l ks p))
  clear E0 E1 E2 E3 E4 E5 E6 E7 E8 E9 E10 E11 E12 E13 E14 E15 E16 E17 E18 E19 E20 E21 E22 E23 E24 E25 E26 E27 E28 E29 E30 E31 E32 E33 E34 E35 E36 E37 E38 E39 E40 E41 E42 E43 E44 E45 E46 E47 E48 E49 E50 E51 E52 E53 E54 E55 E56 E57 E58 E59 E60 E61 E62 E63 E64 E65 E66 E67 E68 E69 PL
  obtain rfl := E.out
  clear E
  cases u with
  | false =>
    have HF : Hid (z = false) := Lib.hid (by rw [← HZ.out]; rfl)
    clear c0 c1 c2 c3 c4
    go_wp2_with fail
    go_ret
    exact ⟨ret_bool HF.out.symm, F1.out⟩
  | true =>
    have HZ2 : Hid ((rising ks && fieldss l) = z) := Lib.hid (by rw [← HZ.out]; rfl)
    clear c0 c1 c2 c3
    go_wp2_with fail
    go_loopw [3] (fun iv wr => ∃ i : Nat, i ≤ ks.length ∧ iv = .int .i64 (i : Int) ∧ Hid (∀ j, j < ks.length → j < i → riseAt ks j = true) ∧ Hid (Blk wr g 25 (vcs k n t Al l.length cl Ak ks.length ck)) ∧ Hid (Fr (fun _ => False) w wr)) (fun iv _ => ks.length - (intOf iv).toNat)
    case atStart => exact ⟨0, Nat.zero_le _, rfl, fun j h h' => by omega, B1.out, F1.out⟩
    case round =>
      obtain ⟨i, hi, rfl, hps, hb, hf⟩ := hrel
      clear c4
      have c4 : wr.cell? ⟨g, 4, none⟩ = some (.slice Ak ks.length ck) := hb.out.cell 4
      by_cases hlt : i < ks.length
      case neg =>
        obtain rfl : i = ks.length := by omega
        have hdl : decide ((ks.length : Int) < (ks.length : Int)) = false := decide_eq_false (by omega)
        have hdl' : decide (ks.length < ks.length) = false := decide_eq_false (by omega)
        have HR : Hid (fieldss l = z) := Lib.hid (by rw [← HZ2.out, (rising_iff ks).2 fun j h => hps.out j h h]; rfl)
        have c3 : wr.cell? ⟨g, 3, none⟩ = some (.slice Al l.length cl) := hb.out.cell 3
        clear hps
        go_wp2_with fail
        go_loopw [4] (fun iv wr => ∃ i : Nat, i ≤ l.length ∧ iv = .int .i64 (i : Int) ∧ Hid (∀ j (h : j < l.length), j < i → fieldsV l[j] = true) ∧ Hid (Blk wr g 25 (vcs k n t Al l.length cl Ak ks.length ck)) ∧ Hid (Fr (fun _ => False) w wr)) (fun iv _ => l.length - (intOf iv).toNat)
        case atStart => exact ⟨0, Nat.zero_le _, rfl, fun j h h' => by omega, hb.out, hf.out⟩
        case round =>
          clear hb hf c3 c4 hdl hdl'
          obtain ⟨i, hi, rfl, hps, hb, hf⟩ := hrel
          have c3 : wr.cell? ⟨g, 3, none⟩ = some (.slice Al l.length cl) := hb.out.cell 3
          by_cases hlt : i < l.length
          case neg =>
            have hdl : decide ((i : Int) < (l.length : Int)) = false := decide_eq_false (by omega)
            have hdl' : decide (i < l.length) = false := decide_eq_false hlt
            have HT : Hid (z = true) := Lib.hid (by rw [← HR.out]; exact fieldss_iff.2 (fun j h => hps.out j h (by omega)))
            go_wp2_with fail
            go_ret
            exact ⟨ret_bool HT.out.symm, hf.out⟩
          have hdl : decide ((i : Int) < (l.length : Int)) = true := decide_eq_true (by omega)
          have hdl' : decide (i < l.length) = true := decide_eq_true hlt
          obtain ⟨b, off, C, hA, -, hrv, hrg, -⟩ := (HP.out.far hf.out).at_ hlt
          subst hA
          have HGR := Lib.hid hrg
          have H5 := Lib.hid (szV hrv)
          have CALL := Lib.hid (IH.out l[i] (List.getElem_mem hlt) wr C hrv)
          obtain ⟨q, hq⟩ : ∃ q, fieldsV l[i] = q := ⟨_, rfl⟩
          have HQ := Lib.hid hq
          rw [hq] at CALL
          clear hq hrv hrg
          go_wp2_with (refine wpList_load_val rfl 25 _ rfl b _ rfl C HGR.out _ Tryz.underlying25 rfl H5.out ?_)
          refine CALL.out.mono ?_
          rintro e W2 ⟨rfl, f2⟩
          have F2 := Lib.hid (hf.out.trans f2 (fun _ _ h => h))
          have B2 := Lib.hid (keepB hb.out f2)
          clear f2 CALL
          cases q with
          | false =>
            have HF : Hid (z = false) := Lib.hid (by
              rw [← HR.out, Bool.eq_false_iff]
              intro e
              have := fieldss_iff.1 e i hlt
              rw [HQ.out] at this
              cases this)
            go_wp2_with fail
            go_ret
            exact ⟨ret_bool HF.out.symm, F2.out⟩
          | true =>
            have HS : Hid (∀ j (h : j < l.length), j < i + 1 → fieldsV l[j] = true) := Lib.hid (fun j h hj => by
              by_cases hji : j = i
              · subst hji; exact HQ.out
              · exact hps.out j h (by omega))
            go_wp2_with fail
            go_roundw
            case rel =>
              first
                | (exact ⟨i + 1, by omega, by go_num, HS.out, B2.out, F2.out⟩)
                | (refine ⟨_, _, _, _, _, _, _, _, _, _, _, _, _, _, _, _, ?_, rfl⟩; exact ⟨i + 1, by omega, by go_num, HS.out, B2.out, F2.out⟩)
            case measure => simp [intOf]; omega
      have hdl : decide ((i : Int) < (ks.length : Int)) = true := decide_eq_true (by omega)
      have hdl' : decide (i < ks.length) = true := decide_eq_true hlt
      obtain ⟨b, off, hA, hc⟩ := (HP.out.far hf.out).key hlt
      subst hA
      have HB6 := Lib.hid (show i < ks.length ∧ ks.length ≤ 140737488355328 from ⟨hlt, hkl⟩)
      have HQ1 := Lib.hid (show (0 : Int) ≤ (i : Int) ∧ (i : Int) < (ks.length : Int) by omega)
      have MK := Lib.hid (fun W => rkey_c W ks[i] (HKS.out _ (List.getElem_mem hlt)))
      obtain ⟨vv, hv⟩ : ∃ vv, keyOk ks[i] = vv := ⟨_, rfl⟩
      rw [hv] at MK
      have HV := Lib.hid hv
      obtain ⟨sp, hsp⟩ : ∃ sp, ks.getD (i - 1) [] = sp := ⟨_, rfl⟩
      have KP : Hid (0 < i → wr.cell? ⟨b, off + (i - 1), none⟩ = some (.string (strOf sp))) := Lib.hid (fun h0 => by
        have hj : i - 1 < ks.length := by omega
        obtain ⟨b', off', hA', hcj⟩ := (HP.out.far hf.out).key hj
        injection hA' with hA'
        injection hA' with h1 h2
        subst h1 h2
        rw [hcj, ← hsp]
        simp [hj])
      have HRI : Hid (riseAt ks i = (vv && (i == 0 || kl sp ks[i]))) := Lib.hid (by
        unfold riseAt
        rw [hsp, kl_cmpT, ← hv]
        simp [hlt])
      obtain ⟨s, hs⟩ : ∃ s, ks[i] = s := ⟨_, rfl⟩
      rw [hs] at MK hc HRI
      have KC := Lib.hid hc
      have C4 := Lib.hid c4
      clear hv hsp hs hc
      go_upto_region 6 with fail
      refine (wpIn_wide (n := 9)).1 ?_
      refine wpIn_region_factsG (ms := [0, 1, 0, 7, 15, 31, 63, 127, 255, 511, 1023, 2047, 4095, 2047, 10239, 32767, 65535, 2047, 133119, 2047, 919551, 1968127, 4194303, 8388607, 16777215]) (k := 25) (Fr (fun _ => False)) (rfX g b off i ks.length ck s sp vv) (fun i v W => True) (by kernel_rfl) (by kernel_rfl) (Fr.refl _ _) (fun a b c h1 h2 => h1.trans h2 (fun _ _ h => h)) (fun i v w w' hg hx => rfX_far hg hx) ?walk6
      case walk6 =>
      have hdr : ∀ W, Fr (fun _ => False) wr.drew W → Fr (fun _ => False) wr W := fun W h => ((Fr.refl (fun _ => False) wr).drew).trans h (fun _ _ h => h)
      have HDR := Lib.hid hdr
      clear hdr
      refine factWalkG_any (fun W hW hf K hK => ?_) (fun x0 => ?_)
      · refine ite_yes (by kernel_rfl) ?_
        gi_step
        exact hK _ _ (Fr.refl _ _) (rfl) trivial
      simp only [Act.put, List.setIfInBounds_toArray, List.set_cons_succ, List.set_cons_zero]
      refine factWalkG_any (fun W hW hf K hK => ?_) (fun x1 => ?_)
      · obtain rfl : x0 = .pointer (some ⟨g, 4, none⟩) := (show x0 = .pointer (some ⟨g, 4, none⟩) from hf 0 (by omega) (by kernel_rfl))
        have c4 : W.cell? ⟨g, 4, none⟩ = some (.slice (some ⟨b, off, none⟩) ks.length ck) := cell_far C4.out (HDR.out W hW)
        refine ite_yes (by kernel_rfl) ?_
        gi_step
        exact hK _ _ (Fr.refl _ _) (rfl) trivial
      simp only [Act.put, List.setIfInBounds_toArray, List.set_cons_succ, List.set_cons_zero]
      refine factWalkG_any (fun W hW hf K hK => ?_) (fun x2 => ?_)
      · refine ite_yes (by kernel_rfl) ?_
        gi_step
        exact hK _ _ (Fr.refl _ _) (rfl) trivial
      simp only [Act.put, List.setIfInBounds_toArray, List.set_cons_succ, List.set_cons_zero]
      refine factWalkG_any (fun W hW hf K hK => ?_) (fun x3 => ?_)
      · obtain rfl : x1 = .slice (some ⟨b, off, none⟩) ks.length ck := (show x1 = .slice (some ⟨b, off, none⟩) ks.length ck from hf 1 (by omega) (by kernel_rfl))
        obtain rfl : x2 = .int .i64 (i : Nat) := (show x2 = .int .i64 (i : Nat) from hf 2 (by omega) (by kernel_rfl))
        have q1 := HQ1.out
        refine ite_yes (by kernel_rfl) ?_
        gi_step
        exact hK _ _ (Fr.refl _ _) (by first | rfl | simp) trivial
      simp only [Act.put, List.setIfInBounds_toArray, List.set_cons_succ, List.set_cons_zero]
      refine factWalkG_any (fun W hW hf K hK => ?_) (fun x4 => ?_)
      · obtain rfl : x3 = .pointer (some ⟨b, off + i, none⟩) := (show x3 = .pointer (some ⟨b, off + i, none⟩) from hf 3 (by omega) (by kernel_rfl))
        have kc : W.cell? ⟨b, off + i, none⟩ = some (.string (strOf s)) := cell_far KC.out (HDR.out W hW)
        refine ite_yes (by kernel_rfl) ?_
        gi_step
        exact hK _ _ (Fr.refl _ _) (rfl) trivial
      simp only [Act.put, List.setIfInBounds_toArray, List.set_cons_succ, List.set_cons_zero]
      refine factWalkG_any (fun W hW hf K hK => ?_) (fun x5 => ?_)
      · obtain rfl : x4 = .string (strOf s) := (show x4 = .string (strOf s) from hf 4 (by omega) (by kernel_rfl))
        refine ite_yes (by kernel_rfl) ?_
        gi_step
        refine ⟨trivial, ?_⟩
        refine (callsIn_wide.2 (MK.out W)).mono ?_
        rintro e W' ⟨rfl, rfl⟩
        dsimp only
        exact hK _ _ (Fr.refl _ _) rfl trivial
      simp only [Act.put, List.setIfInBounds_toArray, List.set_cons_succ, List.set_cons_zero]
      refine factWalkG_any (fun W hW hf K hK => ?_) (fun x6 => ?_)
      · obtain rfl : x5 = .bool vv := (show x5 = .bool vv from hf 5 (by omega) (by kernel_rfl))
        refine ite_yes (by kernel_rfl) ?_
        gi_step
        exact hK _ _ (Fr.refl _ _) (rfl) trivial
      simp only [Act.put, List.setIfInBounds_toArray, List.set_cons_succ, List.set_cons_zero]
      refine factWalkG_any (fun W hW hf K hK => ?_) (fun x7 => ?_)
      · obtain rfl : x6 = .bool (!vv) := (show x6 = .bool (!vv) from hf 6 (by omega) (by kernel_rfl))
        refine ite_yes (by kernel_rfl) ?_
        gi_step
        exact hK _ _ (Fr.refl _ _) (rfl) trivial
      simp only [Act.put, List.setIfInBounds_toArray, List.set_cons_succ, List.set_cons_zero]
      refine factWalkG_any (fun W hW hf K hK => ?_) (fun x8 => ?_)
      · rcases bcases (!(!vv)) with hc | hc
        · have hk := hK undef W (Fr.refl _ _) (cv_no0 hc) trivial
          obtain rfl : x7 = .bool true := ((show x7 = .bool (!vv) from hf 7 (by omega) (by kernel_rfl))).trans (congrArg Value.bool (bnot_f hc))
          exact ite_no (by kernel_rfl) ⟨fun _ _ => trivial, hk⟩
        · obtain rfl : x7 = .bool false := ((show x7 = .bool (!vv) from hf 7 (by omega) (by kernel_rfl))).trans (congrArg Value.bool (bnot_t (hc)))
          refine ite_yes (by kernel_rfl) ?_
          have HC := Lib.hid hc
          clear hc
          gi_step
          exact hK _ _ (Fr.refl _ _) (cv_yes0 HC.out (rfl)) trivial
      simp only [Act.put, List.setIfInBounds_toArray, List.set_cons_succ, List.set_cons_zero]
      refine factWalkG_any (fun W hW hf K hK => ?_) (fun x9 => ?_)
      · rcases bcases (!(!vv)) with hc | hc
        · have hk := hK undef W (Fr.refl _ _) (cv_no0 hc) trivial
          obtain rfl : x7 = .bool true := ((show x7 = .bool (!vv) from hf 7 (by omega) (by kernel_rfl))).trans (congrArg Value.bool (bnot_f hc))
          exact ite_no (by kernel_rfl) ⟨fun _ _ => trivial, hk⟩
        · obtain rfl : x7 = .bool false := ((show x7 = .bool (!vv) from hf 7 (by omega) (by kernel_rfl))).trans (congrArg Value.bool (bnot_t (hc)))
          obtain rfl : x8 = .int .i64 (i : Nat) := cv_t (show x8 = cv (!(!vv)) (.int .i64 (i : Nat)) from hf 8 (by omega) (by kernel_rfl)) (hc)
          refine ite_yes (by kernel_rfl) ?_
          have HC := Lib.hid hc
          clear hc
          gi_step
          exact hK _ _ (Fr.refl _ _) (cv_yes0 HC.out (by first | rfl | simp)) trivial
      simp only [Act.put, List.setIfInBounds_toArray, List.set_cons_succ, List.set_cons_zero]
      refine factWalkG_any (fun W hW hf K hK => ?_) (fun x10 => ?_)
      · rcases bcases (!(!vv)) with hc | hc
        · have hk := hK undef W (Fr.refl _ _) (cv_no0 hc) trivial
          obtain rfl : x7 = .bool true := ((show x7 = .bool (!vv) from hf 7 (by omega) (by kernel_rfl))).trans (congrArg Value.bool (bnot_f hc))
          exact ite_no (by kernel_rfl) ⟨fun _ _ => trivial, hk⟩
        · obtain rfl : x7 = .bool false := ((show x7 = .bool (!vv) from hf 7 (by omega) (by kernel_rfl))).trans (congrArg Value.bool (bnot_t (hc)))
          obtain rfl : x9 = .bool (decide (0 < i)) := cv_t (show x9 = cv (!(!vv)) (.bool (decide (0 < i))) from hf 9 (by omega) (by kernel_rfl)) (hc)
          refine ite_yes (by kernel_rfl) ?_
          have HC := Lib.hid hc
          clear hc
          gi_step
          exact hK _ _ (Fr.refl _ _) (cv_yes0 HC.out (rfl)) trivial
      simp only [Act.put, List.setIfInBounds_toArray, List.set_cons_succ, List.set_cons_zero]
      refine factWalkG_any (fun W hW hf K hK => ?_) (fun x11 => ?_)
      · rcases bcases ((!(!vv)) && (decide (0 < i))) with hc | hc
        · have hk := hK undef W (Fr.refl _ _) (cv_no0 hc) trivial
          rcases bcases (!(!vv)) with hj | hj
          · obtain rfl : x10 = undef := cv_f (show x10 = cv (!(!vv)) (.bool (decide (0 < i))) from hf 10 (by omega) (by kernel_rfl)) hj
            exact ite_no (by kernel_rfl) ⟨fun _ _ => trivial, hk⟩
          · obtain rfl : x10 = .bool false := ((cv_t (show x10 = cv (!(!vv)) (.bool (decide (0 < i))) from hf 10 (by omega) (by kernel_rfl)) (hj))).trans (congrArg Value.bool (band_f hj hc))
            exact ite_no (by kernel_rfl) ⟨fun _ _ => trivial, hk⟩
        · obtain rfl : x10 = .bool true := ((cv_t (show x10 = cv (!(!vv)) (.bool (decide (0 < i))) from hf 10 (by omega) (by kernel_rfl)) (band_l (hc)))).trans (congrArg Value.bool (band_r (hc)))
          refine ite_yes (by kernel_rfl) ?_
          have HC := Lib.hid hc
          clear hc
          gi_step
          exact hK _ _ (Fr.refl _ _) (cv_yes0 HC.out (rfl)) trivial
      simp only [Act.put, List.setIfInBounds_toArray, List.set_cons_succ, List.set_cons_zero]
      refine factWalkG_any (fun W hW hf K hK => ?_) (fun x12 => ?_)
      · rcases bcases ((!(!vv)) && (decide (0 < i))) with hc | hc
        · have hk := hK undef W (Fr.refl _ _) (cv_no0 hc) trivial
          rcases bcases (!(!vv)) with hj | hj
          · obtain rfl : x10 = undef := cv_f (show x10 = cv (!(!vv)) (.bool (decide (0 < i))) from hf 10 (by omega) (by kernel_rfl)) hj
            exact ite_no (by kernel_rfl) ⟨fun _ _ => trivial, hk⟩
          · obtain rfl : x10 = .bool false := ((cv_t (show x10 = cv (!(!vv)) (.bool (decide (0 < i))) from hf 10 (by omega) (by kernel_rfl)) (hj))).trans (congrArg Value.bool (band_f hj hc))
            exact ite_no (by kernel_rfl) ⟨fun _ _ => trivial, hk⟩
        · obtain rfl : x10 = .bool true := ((cv_t (show x10 = cv (!(!vv)) (.bool (decide (0 < i))) from hf 10 (by omega) (by kernel_rfl)) (band_l (hc)))).trans (congrArg Value.bool (band_r (hc)))
          obtain rfl : x11 = .pointer (some ⟨g, 4, none⟩) := cv_t (show x11 = cv ((!(!vv)) && (decide (0 < i))) (.pointer (some ⟨g, 4, none⟩)) from hf 11 (by omega) (by kernel_rfl)) (hc)
          have c4 : W.cell? ⟨g, 4, none⟩ = some (.slice (some ⟨b, off, none⟩) ks.length ck) := cell_far C4.out (HDR.out W hW)
          refine ite_yes (by kernel_rfl) ?_
          have HC := Lib.hid hc
          clear hc
          gi_step
          exact hK _ _ (Fr.refl _ _) (cv_yes0 HC.out (rfl)) trivial
      simp only [Act.put, List.setIfInBounds_toArray, List.set_cons_succ, List.set_cons_zero]
      refine factWalkG_any (fun W hW hf K hK => ?_) (fun x13 => ?_)
      · rcases bcases ((!(!vv)) && (decide (0 < i))) with hc | hc
        · have hk := hK undef W (Fr.refl _ _) (cv_no0 hc) trivial
          rcases bcases (!(!vv)) with hj | hj
          · obtain rfl : x10 = undef := cv_f (show x10 = cv (!(!vv)) (.bool (decide (0 < i))) from hf 10 (by omega) (by kernel_rfl)) hj
            exact ite_no (by kernel_rfl) ⟨fun _ _ => trivial, hk⟩
          · obtain rfl : x10 = .bool false := ((cv_t (show x10 = cv (!(!vv)) (.bool (decide (0 < i))) from hf 10 (by omega) (by kernel_rfl)) (hj))).trans (congrArg Value.bool (band_f hj hc))
            exact ite_no (by kernel_rfl) ⟨fun _ _ => trivial, hk⟩
        · obtain rfl : x10 = .bool true := ((cv_t (show x10 = cv (!(!vv)) (.bool (decide (0 < i))) from hf 10 (by omega) (by kernel_rfl)) (band_l (hc)))).trans (congrArg Value.bool (band_r (hc)))
          refine ite_yes (by kernel_rfl) ?_
          have HC := Lib.hid hc
          clear hc
          gi_step
          exact hK _ _ (Fr.refl _ _) (cv_yes0 HC.out (rfl)) trivial
      simp only [Act.put, List.setIfInBounds_toArray, List.set_cons_succ, List.set_cons_zero]
      refine factWalkG_any (fun W hW hf K hK => ?_) (fun x14 => ?_)
      · rcases bcases ((!(!vv)) && (decide (0 < i))) with hc | hc
        · have hk := hK undef W (Fr.refl _ _) (cv_no0 hc) trivial
          rcases bcases (!(!vv)) with hj | hj
          · obtain rfl : x10 = undef := cv_f (show x10 = cv (!(!vv)) (.bool (decide (0 < i))) from hf 10 (by omega) (by kernel_rfl)) hj
            exact ite_no (by kernel_rfl) ⟨fun _ _ => trivial, hk⟩
          · obtain rfl : x10 = .bool false := ((cv_t (show x10 = cv (!(!vv)) (.bool (decide (0 < i))) from hf 10 (by omega) (by kernel_rfl)) (hj))).trans (congrArg Value.bool (band_f hj hc))
            exact ite_no (by kernel_rfl) ⟨fun _ _ => trivial, hk⟩
        · obtain rfl : x10 = .bool true := ((cv_t (show x10 = cv (!(!vv)) (.bool (decide (0 < i))) from hf 10 (by omega) (by kernel_rfl)) (band_l (hc)))).trans (congrArg Value.bool (band_r (hc)))
          obtain rfl : x13 = .int .i64 (i : Nat) := cv_t (show x13 = cv ((!(!vv)) && (decide (0 < i))) (.int .i64 (i : Nat)) from hf 13 (by omega) (by kernel_rfl)) (hc)
          have hb6 := HB6.out
          have hi0 : 0 < i := of_decide_eq_true (band_r hc)
          have HI0 := Lib.hid hi0
          have q5 : ((i : Int) - 1) = ((i - 1 : Nat) : Int) := by omega
          clear hi0 hb6
          refine ite_yes (by kernel_rfl) ?_
          have HC := Lib.hid hc
          clear hc
          gi_step
          exact hK _ _ (Fr.refl _ _) (cv_yes0 HC.out (by first | rfl | (have := HI0.out; exact congrArg (Value.int .i64) (by omega)))) trivial
      simp only [Act.put, List.setIfInBounds_toArray, List.set_cons_succ, List.set_cons_zero]
      refine factWalkG_any (fun W hW hf K hK => ?_) (fun x15 => ?_)
      · rcases bcases ((!(!vv)) && (decide (0 < i))) with hc | hc
        · have hk := hK undef W (Fr.refl _ _) (cv_no0 hc) trivial
          rcases bcases (!(!vv)) with hj | hj
          · obtain rfl : x10 = undef := cv_f (show x10 = cv (!(!vv)) (.bool (decide (0 < i))) from hf 10 (by omega) (by kernel_rfl)) hj
            exact ite_no (by kernel_rfl) ⟨fun _ _ => trivial, hk⟩
          · obtain rfl : x10 = .bool false := ((cv_t (show x10 = cv (!(!vv)) (.bool (decide (0 < i))) from hf 10 (by omega) (by kernel_rfl)) (hj))).trans (congrArg Value.bool (band_f hj hc))
            exact ite_no (by kernel_rfl) ⟨fun _ _ => trivial, hk⟩
        · obtain rfl : x10 = .bool true := ((cv_t (show x10 = cv (!(!vv)) (.bool (decide (0 < i))) from hf 10 (by omega) (by kernel_rfl)) (band_l (hc)))).trans (congrArg Value.bool (band_r (hc)))
          obtain rfl : x12 = .slice (some ⟨b, off, none⟩) ks.length ck := cv_t (show x12 = cv ((!(!vv)) && (decide (0 < i))) (.slice (some ⟨b, off, none⟩) ks.length ck) from hf 12 (by omega) (by kernel_rfl)) (hc)
          obtain rfl : x14 = .int .i64 ((i - 1 : Nat) : Int) := cv_t (show x14 = cv ((!(!vv)) && (decide (0 < i))) (.int .i64 ((i - 1 : Nat) : Int)) from hf 14 (by omega) (by kernel_rfl)) (hc)
          have hb6 := HB6.out
          have hi0 : 0 < i := of_decide_eq_true (band_r hc)
          have q1 : (0 : Int) ≤ ((i - 1 : Nat) : Int) ∧ ((i - 1 : Nat) : Int) < (ks.length : Int) := by omega
          clear hi0 hb6
          refine ite_yes (by kernel_rfl) ?_
          have HC := Lib.hid hc
          clear hc
          gi_step
          exact hK _ _ (Fr.refl _ _) (cv_yes0 HC.out (by first | rfl | simp)) trivial
      simp only [Act.put, List.setIfInBounds_toArray, List.set_cons_succ, List.set_cons_zero]
      refine factWalkG_any (fun W hW hf K hK => ?_) (fun x16 => ?_)
      · rcases bcases ((!(!vv)) && (decide (0 < i))) with hc | hc
        · have hk := hK undef W (Fr.refl _ _) (cv_no0 hc) trivial
          rcases bcases (!(!vv)) with hj | hj
          · obtain rfl : x10 = undef := cv_f (show x10 = cv (!(!vv)) (.bool (decide (0 < i))) from hf 10 (by omega) (by kernel_rfl)) hj
            exact ite_no (by kernel_rfl) ⟨fun _ _ => trivial, hk⟩
          · obtain rfl : x10 = .bool false := ((cv_t (show x10 = cv (!(!vv)) (.bool (decide (0 < i))) from hf 10 (by omega) (by kernel_rfl)) (hj))).trans (congrArg Value.bool (band_f hj hc))
            exact ite_no (by kernel_rfl) ⟨fun _ _ => trivial, hk⟩
        · obtain rfl : x10 = .bool true := ((cv_t (show x10 = cv (!(!vv)) (.bool (decide (0 < i))) from hf 10 (by omega) (by kernel_rfl)) (band_l (hc)))).trans (congrArg Value.bool (band_r (hc)))
          obtain rfl : x15 = .pointer (some ⟨b, off + (i - 1), none⟩) := cv_t (show x15 = cv ((!(!vv)) && (decide (0 < i))) (.pointer (some ⟨b, off + (i - 1), none⟩)) from hf 15 (by omega) (by kernel_rfl)) (hc)
          have hi0 : 0 < i := of_decide_eq_true (band_r hc)
          have kc : W.cell? ⟨b, off + (i - 1), none⟩ = some (.string (strOf sp)) := cell_far (KP.out hi0) (HDR.out W hW)
          clear hi0
          refine ite_yes (by kernel_rfl) ?_
          have HC := Lib.hid hc
          clear hc
          gi_step
          exact hK _ _ (Fr.refl _ _) (cv_yes0 HC.out (rfl)) trivial
      simp only [Act.put, List.setIfInBounds_toArray, List.set_cons_succ, List.set_cons_zero]
      refine factWalkG_any (fun W hW hf K hK => ?_) (fun x17 => ?_)
      · rcases bcases ((!(!vv)) && (decide (0 < i))) with hc | hc
        · have hk := hK undef W (Fr.refl _ _) (cv_no0 hc) trivial
          rcases bcases (!(!vv)) with hj | hj
          · obtain rfl : x10 = undef := cv_f (show x10 = cv (!(!vv)) (.bool (decide (0 < i))) from hf 10 (by omega) (by kernel_rfl)) hj
            exact ite_no (by kernel_rfl) ⟨fun _ _ => trivial, hk⟩
          · obtain rfl : x10 = .bool false := ((cv_t (show x10 = cv (!(!vv)) (.bool (decide (0 < i))) from hf 10 (by omega) (by kernel_rfl)) (hj))).trans (congrArg Value.bool (band_f hj hc))
            exact ite_no (by kernel_rfl) ⟨fun _ _ => trivial, hk⟩
        · obtain rfl : x10 = .bool true := ((cv_t (show x10 = cv (!(!vv)) (.bool (decide (0 < i))) from hf 10 (by omega) (by kernel_rfl)) (band_l (hc)))).trans (congrArg Value.bool (band_r (hc)))
          refine ite_yes (by kernel_rfl) ?_
          have HC := Lib.hid hc
          clear hc
          gi_step
          exact hK _ _ (Fr.refl _ _) (cv_yes0 HC.out (rfl)) trivial
      simp only [Act.put, List.setIfInBounds_toArray, List.set_cons_succ, List.set_cons_zero]
      refine factWalkG_any (fun W hW hf K hK => ?_) (fun x18 => ?_)
      · rcases bcases ((!(!vv)) && (decide (0 < i))) with hc | hc
        · have hk := hK undef W (Fr.refl _ _) (cv_no0 hc) trivial
          rcases bcases (!(!vv)) with hj | hj
          · obtain rfl : x10 = undef := cv_f (show x10 = cv (!(!vv)) (.bool (decide (0 < i))) from hf 10 (by omega) (by kernel_rfl)) hj
            exact ite_no (by kernel_rfl) ⟨fun _ _ => trivial, hk⟩
          · obtain rfl : x10 = .bool false := ((cv_t (show x10 = cv (!(!vv)) (.bool (decide (0 < i))) from hf 10 (by omega) (by kernel_rfl)) (hj))).trans (congrArg Value.bool (band_f hj hc))
            exact ite_no (by kernel_rfl) ⟨fun _ _ => trivial, hk⟩
        · obtain rfl : x10 = .bool true := ((cv_t (show x10 = cv (!(!vv)) (.bool (decide (0 < i))) from hf 10 (by omega) (by kernel_rfl)) (band_l (hc)))).trans (congrArg Value.bool (band_r (hc)))
          obtain rfl : x17 = .pointer (some ⟨g, 4, none⟩) := cv_t (show x17 = cv ((!(!vv)) && (decide (0 < i))) (.pointer (some ⟨g, 4, none⟩)) from hf 17 (by omega) (by kernel_rfl)) (hc)
          have c4 : W.cell? ⟨g, 4, none⟩ = some (.slice (some ⟨b, off, none⟩) ks.length ck) := cell_far C4.out (HDR.out W hW)
          refine ite_yes (by kernel_rfl) ?_
          have HC := Lib.hid hc
          clear hc
          gi_step
          exact hK _ _ (Fr.refl _ _) (cv_yes0 HC.out (rfl)) trivial
      simp only [Act.put, List.setIfInBounds_toArray, List.set_cons_succ, List.set_cons_zero]
      refine factWalkG_any (fun W hW hf K hK => ?_) (fun x19 => ?_)
      · rcases bcases ((!(!vv)) && (decide (0 < i))) with hc | hc
        · have hk := hK undef W (Fr.refl _ _) (cv_no0 hc) trivial
          rcases bcases (!(!vv)) with hj | hj
          · obtain rfl : x10 = undef := cv_f (show x10 = cv (!(!vv)) (.bool (decide (0 < i))) from hf 10 (by omega) (by kernel_rfl)) hj
            exact ite_no (by kernel_rfl) ⟨fun _ _ => trivial, hk⟩
          · obtain rfl : x10 = .bool false := ((cv_t (show x10 = cv (!(!vv)) (.bool (decide (0 < i))) from hf 10 (by omega) (by kernel_rfl)) (hj))).trans (congrArg Value.bool (band_f hj hc))
            exact ite_no (by kernel_rfl) ⟨fun _ _ => trivial, hk⟩
        · obtain rfl : x10 = .bool true := ((cv_t (show x10 = cv (!(!vv)) (.bool (decide (0 < i))) from hf 10 (by omega) (by kernel_rfl)) (band_l (hc)))).trans (congrArg Value.bool (band_r (hc)))
          refine ite_yes (by kernel_rfl) ?_
          have HC := Lib.hid hc
          clear hc
          gi_step
          exact hK _ _ (Fr.refl _ _) (cv_yes0 HC.out (rfl)) trivial
      simp only [Act.put, List.setIfInBounds_toArray, List.set_cons_succ, List.set_cons_zero]
      refine factWalkG_any (fun W hW hf K hK => ?_) (fun x20 => ?_)
      · rcases bcases ((!(!vv)) && (decide (0 < i))) with hc | hc
        · have hk := hK undef W (Fr.refl _ _) (cv_no0 hc) trivial
          rcases bcases (!(!vv)) with hj | hj
          · obtain rfl : x10 = undef := cv_f (show x10 = cv (!(!vv)) (.bool (decide (0 < i))) from hf 10 (by omega) (by kernel_rfl)) hj
            exact ite_no (by kernel_rfl) ⟨fun _ _ => trivial, hk⟩
          · obtain rfl : x10 = .bool false := ((cv_t (show x10 = cv (!(!vv)) (.bool (decide (0 < i))) from hf 10 (by omega) (by kernel_rfl)) (hj))).trans (congrArg Value.bool (band_f hj hc))
            exact ite_no (by kernel_rfl) ⟨fun _ _ => trivial, hk⟩
        · obtain rfl : x10 = .bool true := ((cv_t (show x10 = cv (!(!vv)) (.bool (decide (0 < i))) from hf 10 (by omega) (by kernel_rfl)) (band_l (hc)))).trans (congrArg Value.bool (band_r (hc)))
          obtain rfl : x18 = .slice (some ⟨b, off, none⟩) ks.length ck := cv_t (show x18 = cv ((!(!vv)) && (decide (0 < i))) (.slice (some ⟨b, off, none⟩) ks.length ck) from hf 18 (by omega) (by kernel_rfl)) (hc)
          obtain rfl : x19 = .int .i64 (i : Nat) := cv_t (show x19 = cv ((!(!vv)) && (decide (0 < i))) (.int .i64 (i : Nat)) from hf 19 (by omega) (by kernel_rfl)) (hc)
          have q1 := HQ1.out
          refine ite_yes (by kernel_rfl) ?_
          have HC := Lib.hid hc
          clear hc
          gi_step
          exact hK _ _ (Fr.refl _ _) (cv_yes0 HC.out (by first | rfl | simp)) trivial
      simp only [Act.put, List.setIfInBounds_toArray, List.set_cons_succ, List.set_cons_zero]
      refine factWalkG_any (fun W hW hf K hK => ?_) (fun x21 => ?_)
      · rcases bcases ((!(!vv)) && (decide (0 < i))) with hc | hc
        · have hk := hK undef W (Fr.refl _ _) (cv_no0 hc) trivial
          rcases bcases (!(!vv)) with hj | hj
          · obtain rfl : x10 = undef := cv_f (show x10 = cv (!(!vv)) (.bool (decide (0 < i))) from hf 10 (by omega) (by kernel_rfl)) hj
            exact ite_no (by kernel_rfl) ⟨fun _ _ => trivial, hk⟩
          · obtain rfl : x10 = .bool false := ((cv_t (show x10 = cv (!(!vv)) (.bool (decide (0 < i))) from hf 10 (by omega) (by kernel_rfl)) (hj))).trans (congrArg Value.bool (band_f hj hc))
            exact ite_no (by kernel_rfl) ⟨fun _ _ => trivial, hk⟩
        · obtain rfl : x10 = .bool true := ((cv_t (show x10 = cv (!(!vv)) (.bool (decide (0 < i))) from hf 10 (by omega) (by kernel_rfl)) (band_l (hc)))).trans (congrArg Value.bool (band_r (hc)))
          obtain rfl : x20 = .pointer (some ⟨b, off + i, none⟩) := cv_t (show x20 = cv ((!(!vv)) && (decide (0 < i))) (.pointer (some ⟨b, off + i, none⟩)) from hf 20 (by omega) (by kernel_rfl)) (hc)
          have kc : W.cell? ⟨b, off + i, none⟩ = some (.string (strOf s)) := cell_far KC.out (HDR.out W hW)
          refine ite_yes (by kernel_rfl) ?_
          have HC := Lib.hid hc
          clear hc
          gi_step
          exact hK _ _ (Fr.refl _ _) (cv_yes0 HC.out (rfl)) trivial
      simp only [Act.put, List.setIfInBounds_toArray, List.set_cons_succ, List.set_cons_zero]
      refine factWalkG_any (fun W hW hf K hK => ?_) (fun x22 => ?_)
      · rcases bcases ((!(!vv)) && (decide (0 < i))) with hc | hc
        · have hk := hK undef W (Fr.refl _ _) (cv_no0 hc) trivial
          rcases bcases (!(!vv)) with hj | hj
          · obtain rfl : x10 = undef := cv_f (show x10 = cv (!(!vv)) (.bool (decide (0 < i))) from hf 10 (by omega) (by kernel_rfl)) hj
            exact ite_no (by kernel_rfl) ⟨fun _ _ => trivial, hk⟩
          · obtain rfl : x10 = .bool false := ((cv_t (show x10 = cv (!(!vv)) (.bool (decide (0 < i))) from hf 10 (by omega) (by kernel_rfl)) (hj))).trans (congrArg Value.bool (band_f hj hc))
            exact ite_no (by kernel_rfl) ⟨fun _ _ => trivial, hk⟩
        · obtain rfl : x10 = .bool true := ((cv_t (show x10 = cv (!(!vv)) (.bool (decide (0 < i))) from hf 10 (by omega) (by kernel_rfl)) (band_l (hc)))).trans (congrArg Value.bool (band_r (hc)))
          obtain rfl : x16 = .string (strOf sp) := cv_t (show x16 = cv ((!(!vv)) && (decide (0 < i))) (.string (strOf sp)) from hf 16 (by omega) (by kernel_rfl)) (hc)
          obtain rfl : x21 = .string (strOf s) := cv_t (show x21 = cv ((!(!vv)) && (decide (0 < i))) (.string (strOf s)) from hf 21 (by omega) (by kernel_rfl)) (hc)
          refine ite_yes (by kernel_rfl) ?_
          have HC := Lib.hid hc
          clear hc
          gi_step
          exact hK _ _ (Fr.refl _ _) (cv_yes0 HC.out (by first | rfl | simp [strOf_toList, kl])) trivial
      simp only [Act.put, List.setIfInBounds_toArray, List.set_cons_succ, List.set_cons_zero]
      refine factWalkG_any (fun W hW hf K hK => ?_) (fun x23 => ?_)
      · rcases bcases (!(!vv)) with hc | hc
        · have hk := hK undef W (Fr.refl _ _) (cv_no0 hc) trivial
          obtain rfl : x7 = .bool true := ((show x7 = .bool (!vv) from hf 7 (by omega) (by kernel_rfl))).trans (congrArg Value.bool (bnot_f hc))
          exact ite_no (by kernel_rfl) ⟨fun _ _ => trivial, hk⟩
        · obtain rfl : x7 = .bool false := ((show x7 = .bool (!vv) from hf 7 (by omega) (by kernel_rfl))).trans (congrArg Value.bool (bnot_t (hc)))
          rcases bcases ((decide (0 < i))) with hq | hq
          · obtain rfl : x10 = .bool false := ((cv_t (show x10 = cv (!(!vv)) (.bool (decide (0 < i))) from hf 10 (by omega) (by kernel_rfl)) (hc))).trans (congrArg Value.bool (hq))
            refine ite_yes (by kernel_rfl) ?_
            have HC := Lib.hid hc
            clear hc
            have HQ7 := Lib.hid hq
            clear hq
            gi_step
            exact hK _ _ (Fr.refl _ _) (cv_yes0 HC.out (by show (_ : Value) = _; simp only [HQ7.out, Bool.false_or, Bool.true_or, Bool.true_and, Bool.false_and])) trivial
          · obtain rfl : x10 = .bool true := ((cv_t (show x10 = cv (!(!vv)) (.bool (decide (0 < i))) from hf 10 (by omega) (by kernel_rfl)) (hc))).trans (congrArg Value.bool (hq))
            obtain rfl : x22 = .bool (!kl sp s) := cv_t (show x22 = cv ((!(!vv)) && (decide (0 < i))) (.bool (!kl sp s)) from hf 22 (by omega) (by kernel_rfl)) ((by rw [show (!(!vv)) = true from hc, hq]; rfl))
            refine ite_yes (by kernel_rfl) ?_
            have HC := Lib.hid hc
            clear hc
            have HQ7 := Lib.hid hq
            clear hq
            gi_step
            exact hK _ _ (Fr.refl _ _) (cv_yes0 HC.out (by show (_ : Value) = _; simp only [HQ7.out, Bool.false_or, Bool.true_or, Bool.true_and, Bool.false_and])) trivial
      simp only [Act.put, List.setIfInBounds_toArray, List.set_cons_succ, List.set_cons_zero]
      refine factWalkG_any (fun W hW hf K hK => ?_) (fun x24 => ?_)
      · rcases bcases ((!vv)) with hq | hq
        · obtain rfl : x7 = .bool false := ((show x7 = .bool (!vv) from hf 7 (by omega) (by kernel_rfl))).trans (congrArg Value.bool (hq))
          obtain rfl : x23 = .bool ((decide (0 < i)) && (!kl sp s)) := cv_t (show x23 = cv (!(!vv)) (.bool ((decide (0 < i)) && (!kl sp s))) from hf 23 (by omega) (by kernel_rfl)) ((by rw [hq]; rfl))
          refine ite_yes (by kernel_rfl) ?_
          have HQ7 := Lib.hid hq
          clear hq
          gi_step
          exact hK _ _ (Fr.refl _ _) (by show (_ : Value) = _; simp only [HQ7.out, Bool.false_or, Bool.true_or, Bool.true_and, Bool.false_and]) trivial
        · obtain rfl : x7 = .bool true := ((show x7 = .bool (!vv) from hf 7 (by omega) (by kernel_rfl))).trans (congrArg Value.bool (hq))
          refine ite_yes (by kernel_rfl) ?_
          have HQ7 := Lib.hid hq
          clear hq
          gi_step
          exact hK _ _ (Fr.refl _ _) (by show (_ : Value) = _; simp only [HQ7.out, Bool.false_or, Bool.true_or, Bool.true_and, Bool.false_and]) trivial
      simp only [Act.put, List.setIfInBounds_toArray, List.set_cons_succ, List.set_cons_zero]
      refine factWalkG_nil (fun W2 hW hf2 hmet => ?_)
      have e24 : x24 = .bool ((!vv) || ((decide (0 < i)) && (!kl sp s))) := hf2 24 (by omega)
      have F2 := Lib.hid (hf.out.trans (HDR.out W2 hW) (fun _ _ h => h))
      have b1' := Lib.hid (keepB hb.out (HDR.out W2 hW))
      clear hf2 hmet hW HDR c4
      obtain ⟨r, hr⟩ : ∃ r, riseAt ks i = r := ⟨_, rfl⟩
      have e25 : x24 = .bool (!r) := by
        rw [e24, ← hr, HRI.out]
        refine congrArg Value.bool ?_
        rcases Nat.eq_zero_or_pos i with rfl | h0
        · cases vv <;> simp
        · have h1 : (i == 0) = false := by simp; omega
          have h2 : decide (0 < i) = true := decide_eq_true h0
          rw [h1, h2]
          cases vv <;> cases kl sp s <;> rfl
      clear e24
      subst e25
      have HR := Lib.hid hr
      clear hr
      change wpAnyIn _ _ _ _ _ _ 0 _ _ _
      refine wpAnyIn_done (by kernel_rfl) ?_ _
      cases r with
      | false =>
        have HF : Hid (z = false) := Lib.hid (by rw [← HZ2.out, rising_no hlt HR.out]; rfl)
        go_wp2_with fail
        go_ret
        exact ⟨ret_bool HF.out.symm, F2.out⟩
      | true =>
        have HS : Hid (∀ j, j < ks.length → j < i + 1 → riseAt ks j = true) := Lib.hid (fun j h hj => by
          by_cases hji : j = i
          · subst hji; exact HR.out
          · exact hps.out j h (by omega))
        go_wp2_with fail
        go_roundw
        case rel =>
          first
            | (exact ⟨i + 1, by omega, by go_num, HS.out, b1'.out, F2.out⟩)
            | (refine ⟨_, _, _, _, _, _, _, _, _, _, _, _, _, _, _, _, _, _, _, _, _, _, _, _, _, _, _, _, _, _, _, _, _, _, ?_, rfl⟩; exact ⟨i + 1, by omega, by go_num, HS.out, b1'.out, F2.out⟩)
        case measure => simp [intOf]; omega

theorem rfields_c : ∀ (v : V) (w : World) (D : Nat → Prop) (C : Array Value), RdV D w C v → Calls Tryz.prog 31 #[.agg C] w fun e w' => e = .returned (.bool (fieldsV v)) ∧ Fr (fun _ => False) w w' := by
  intro v
  induction v using V.ind with
  | h k n t l ks ih =>
    intro w D C h
    obtain ⟨k1, n1, t1, l1, ks1, Al, cl, Ak, ck, css, e, rfl, hp⟩ := h.inv
    injection e with e1 e2 e3 e4 e5
    subst e1 e2 e3 e4 e5
    exact rfields_step w hp fun x hx W C hC => ih x hx W D C hC
end Go.Proofs.YtnkfkicabgajmaaGreatDoor
