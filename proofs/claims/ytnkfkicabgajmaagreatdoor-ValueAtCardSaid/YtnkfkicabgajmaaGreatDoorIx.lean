/-
  CONTRACTS of slices.Index over strings, place.
-/
import Derived.Test.YtnkfkicabgajmaaGreatDoorParse
namespace Go.Proofs.YtnkfkicabgajmaaGreatDoor
set_option linter.unusedSimpArgs false
set_option linter.unusedVariables false
open Go Go.RowKit

def ixO (ks : List (List UInt8)) (c : List UInt8) : Option Nat := ks.findIdx? (· == c)
def ixI : Option Nat → Int
  | some i => i
  | none => -1
theorem ixO_some {ks : List (List UInt8)} {c : List UInt8} {i : Nat} (hi : i < ks.length) (h : ks[i] = c) (hlt : ∀ j (hj : j < ks.length), j < i → ks[j] ≠ c) : ixO ks c = some i := by
  unfold ixO
  rw [List.findIdx?_eq_some_iff_getElem]
  exact ⟨hi, by simp [h], fun j hj => by
    have := hlt j (by omega) hj
    simpa using this⟩
theorem ixO_none {ks : List (List UInt8)} {c : List UInt8} (h : ∀ j (hj : j < ks.length), ks[j] ≠ c) : ixO ks c = none := by
  unfold ixO
  rw [List.findIdx?_eq_none_iff]
  intro x hx
  obtain ⟨i, hi, rfl⟩ := List.getElem_of_mem hx
  simpa using h i hi
theorem ixO_lt {ks : List (List UInt8)} {c : List UInt8} {i : Nat} (h : ixO ks c = some i) : i < ks.length := by
  unfold ixO at h
  rw [List.findIdx?_eq_some_iff_getElem] at h
  exact h.1
set_option maxRecDepth 100000 in
set_option maxHeartbeats 2000000 in
theorem ixS_c (w : World) {A : Option Addr} {ks : List (List UInt8)} (ca : Nat) (c : List UInt8) (ha : Rd w A ks.length (strs ks)) (hl : ks.length ≤ 140737488355328) :
    Calls Tryz.prog 52 #[.slice A ks.length ca, .string (strOf c)] w fun e w' => e = .returned (.int .i64 (ixI (ixO ks c))) ∧ w = w' := by
  have HA := Lib.hid ha
  clear ha
  obtain ⟨o, ho⟩ : ∃ o, ixO ks c = o := ⟨_, rfl⟩
  rw [ho]
  have HO := Lib.hid ho
  clear ho
  go_enter Tryz.func52, Tryz.ntmps52
  go_wp2_with fail
  go_loopw [8] (fun iv wr => ∃ i : Nat, i ≤ ks.length ∧ iv = .int .i64 (i : Int) ∧ Hid (∀ j (hj : j < ks.length), j < i → ks[j] ≠ c) ∧ w = wr) (fun iv _ => ks.length - (intOf iv).toNat)
  case atStart => exact ⟨0, Nat.zero_le _, rfl, fun j _ h => absurd h (by omega), rfl⟩
  case round =>
    obtain ⟨i, hi, rfl, hlt, rfl⟩ := hrel
    by_cases hin : i < ks.length
    case neg =>
      have d1 : decide ((i : Int) < (ks.length : Int)) = false := decide_eq_false (by omega)
      have d1' : decide (i < ks.length) = false := decide_eq_false hin
      have HN : Hid (ixO ks c = none) := Lib.hid (ixO_none (fun j hj => hlt.out j hj (by omega)))
      go_wp2_with fail
      go_ret
      exact ⟨by rw [← HO.out, HN.out]; rfl, rfl⟩
    have d1 : decide ((i : Int) < (ks.length : Int)) = true := decide_eq_true (by omega)
    have d1' : decide (i < ks.length) = true := decide_eq_true hin
    obtain ⟨b, off, hA, hc⟩ := HA.out.lit (by omega)
    subst hA
    have c1 : w.cell? ⟨b, off + i, none⟩ = some (.string (strOf ks[i])) := by rw [hc i hin, strs_get ks i hin]
    clear hc
    have hst : ((strOf c).toList == (strOf ks[i]).toList) = (c == ks[i]) := by rw [strOf_toList, strOf_toList]
    by_cases he : ks[i] = c
    case pos =>
      have HS : Hid (ixO ks c = some i) := Lib.hid (ixO_some hin he hlt.out)
      rw [he] at hst c1
      have hst' : (c == c) = true := by simp
      rw [hst'] at hst
      clear he
      go_wp2_with fail
      go_ret
      exact ⟨by rw [← HO.out, HS.out]; rfl, rfl⟩
    case neg =>
      have hst' : (c == ks[i]) = false := by simpa using fun h => he h.symm
      rw [hst'] at hst
      have HLT : Hid (∀ j (hj : j < ks.length), j < i + 1 → ks[j] ≠ c) := Lib.hid (fun j hj hji => by
        by_cases h : j = i
        · subst h; exact he
        · exact hlt.out j hj (by omega))
      clear he
      go_wp2_with fail
      go_roundw
      case rel => exact ⟨i + 1, by omega, by go_num, HLT.out, trivial⟩
      case measure => simp [intOf]; omega
/-- Where a component goes. -/
def posV : V → List UInt8 → Option Nat
  | .mk k _ _ l ks, c => if k = 6 then ixO ks c else if k = 5 then (match Lib.parseIntB 64 c with
    | .ok i => if 0 ≤ i ∧ i < (l.length : Int) ∧ decI i = c then some i.toNat else none
    | _ => none) else none
set_option maxRecDepth 100000 in
set_option maxHeartbeats 8000000 in
theorem place_c (v : V) (w : World) {D : Nat → Prop} {C : Array Value} (h : RdV D w C v) (hL : LaidOk w) (c : List UInt8) (hc : c.length ≤ 1000000) :
    Calls Tryz.prog 28 #[.agg C, .string (strOf c)] w fun e w' => e = .returned (.int .i64 (ixI (posV v c))) ∧ Fr (fun _ => False) w w' := by
  obtain ⟨k, n, t, l, ks, Al, cl, Ak, ck, css, rfl, rfl, hp⟩ := h.inv
  have HB := Lib.hid hp.b
  have IX := Lib.hid (fun W (hW : Fr (fun _ => False) w W) => ixS_c W ck c (hp.far hW).kr hp.b.kl)
  have AT := Lib.hid (fun W (hW : Fr (fun _ => False) w W) => atoi_c W c hc (hL.far hW))
  have IT := Lib.hid (fun W (hW : Fr (fun _ => False) w W) i h0 h1 => itoa_c W i h0 h1 (hL.far hW))
  have hk0 := hp.b.k0
  have hk1 := hp.b.k1
  have hll := hp.b.ll
  clear h hp hL
  obtain ⟨o, ho⟩ : ∃ o, posV (.mk k n t l ks) c = o := ⟨_, rfl⟩
  rw [ho]
  rw [posV] at ho
  have HPO := Lib.hid ho
  clear ho
  go_enter Tryz.func28, Tryz.ntmps28
  go_upto_region 1 with fail
  refine abs_world (fun W => Hid (Blk W w.heap.size 25 (vcs k n t Al l.length cl Ak ks.length ck)) ∧ Hid (Fr (fun _ => False) w W)) ⟨Blk.new w _ _, (Fr.refl _ w).alloc _⟩ ?_
  rintro W1 ⟨B1, F1⟩
  obtain ⟨g, hg⟩ : ∃ g, w.heap.size = g := ⟨_, rfl⟩
  rw [hg] at B1 ⊢
  clear hg
  have c0 : W1.cell? ⟨g, 0, none⟩ = some (.int .i64 k) := B1.out.cell 0
  by_cases h6 : k = 6
  case pos =>
    subst h6
    have c4 : W1.cell? ⟨g, 4, none⟩ = some (.slice Ak ks.length ck) := B1.out.cell 4
    go_wp2_with fail
    refine (IX.out W1 F1.out).mono ?_
    rintro e W2 ⟨rfl, rfl⟩
    go_wp2_with fail
    go_ret
    have hpo : ixO ks c = o := by simpa using HPO.out
    exact ⟨by rw [hpo]; rfl, F1.out⟩
  have d6 : decide (k = 6) = false := decide_eq_false h6
  by_cases h5 : k = 5
  case neg =>
    have HP : Hid (o = none) := Lib.hid (by rw [← HPO.out, if_neg h6, if_neg h5])
    have d5 : decide (k = 5) = false := decide_eq_false h5
    have e6 : (k == 6) = false := by simpa using h6
    have e5 : (k == 5) = false := by simpa using h5
    go_wp2_with fail
    go_ret
    exact ⟨by rw [HP.out]; rfl, F1.out⟩
  subst h5
  have HP : Hid (o = (match Lib.parseIntB 64 c with
    | .ok i => if 0 ≤ i ∧ i < (l.length : Int) ∧ decI i = c then some i.toNat else none
    | _ => none)) := Lib.hid (by rw [← HPO.out, if_neg (by decide), if_pos rfl])
  have c3 : W1.cell? ⟨g, 3, none⟩ = some (.slice Al l.length cl) := B1.out.cell 3
  go_wp2_with fail
  refine (AT.out W1 F1.out).mono ?_
  rintro e W2 ⟨f2, hh⟩
  have F2 : Hid (Fr (fun _ => False) w W2) := Lib.hid (F1.out.trans f2 (fun _ _ h => h))
  have B2 := Lib.hid (keepB B1.out f2)
  clear c0 c3 f2 B1
  rcases hh with ⟨i, hi, hi0, hi1, rfl⟩ | ⟨hno, i, ty, q, hi0, hi1, rfl⟩
  case inr =>
    have HN : Hid (o = none) := Lib.hid (by
      rw [HP.out]
      cases h : Lib.parseIntB 64 c with
      | ok v => exact absurd h (hno v)
      | _ => rfl)
    clear hno
    go_wp2_with fail
    go_ret
    exact ⟨by rw [HN.out]; rfl, F2.out⟩
  have HO : Hid (o = if 0 ≤ i ∧ i < (l.length : Int) ∧ decI i = c then some i.toNat else none) := Lib.hid (by rw [HP.out, hi])
  clear HP hi
  have c3 : W2.cell? ⟨g, 3, none⟩ = some (.slice Al l.length cl) := B2.out.cell 3
  by_cases hge : 0 ≤ i
  case neg =>
    have HN : Hid (o = none) := Lib.hid (by rw [HO.out, if_neg (fun h => hge h.1)])
    have d0 : decide (0 ≤ i) = false := decide_eq_false hge
    go_wp2_with fail
    go_ret
    exact ⟨by rw [HN.out]; rfl, F2.out⟩
  have d0 : decide (0 ≤ i) = true := decide_eq_true hge
  by_cases hlt : i < (l.length : Int)
  case neg =>
    have HN : Hid (o = none) := Lib.hid (by rw [HO.out, if_neg (fun h => hlt h.2.1)])
    have d1 : decide (i < (l.length : Int)) = false := decide_eq_false hlt
    go_wp2_with fail
    go_ret
    exact ⟨by rw [HN.out]; rfl, F2.out⟩
  have d1 : decide (i < (l.length : Int)) = true := decide_eq_true hlt
  have ITC := Lib.hid (IT.out W2 F2.out i hi0 hi1)
  have hst : ((strOf (decI i)).toList == (strOf c).toList) = (decI i == c) := by rw [strOf_toList, strOf_toList]
  by_cases hdc : decI i = c
  case neg =>
    have HN : Hid (o = none) := Lib.hid (by rw [HO.out, if_neg (fun h => hdc h.2.2)])
    have hst' : (decI i == c) = false := by simpa using hdc
    rw [hst'] at hst
    clear hdc
    go_wp2_with fail
    refine ITC.out.mono ?_
    rintro e W3 ⟨rfl, f3⟩
    have F3 : Hid (Fr (fun _ => False) w W3) := Lib.hid (F2.out.trans f3 (fun _ _ h => h))
    clear f3
    go_wp2_with fail
    go_ret
    exact ⟨by rw [HN.out]; rfl, F3.out⟩
  have HN : Hid (o = some i.toNat) := Lib.hid (by rw [HO.out, if_pos ⟨hge, hlt, hdc⟩])
  have hst' : (decI i == c) = true := by simpa using hdc
  rw [hst'] at hst
  clear hdc
  go_wp2_with fail
  refine ITC.out.mono ?_
  rintro e W3 ⟨rfl, f3⟩
  have F3 : Hid (Fr (fun _ => False) w W3) := Lib.hid (F2.out.trans f3 (fun _ _ h => h))
  clear f3
  go_wp2_with fail
  go_ret
  exact ⟨ret_int (by rw [HN.out]; show i = ((i.toNat : Nat) : Int); omega), F3.out⟩
end Go.Proofs.YtnkfkicabgajmaaGreatDoor
