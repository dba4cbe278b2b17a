/-
  CONTRACT of the law's same, of equal rows. Written by gen_lcs.py.
-/
import Derived.Test.YtimopkmlcjdgfaaDoorLbc
namespace Go.Proofs.YtimopkmlcjdgfaaDoor
set_option linter.unusedSimpArgs false
set_option linter.unusedVariables false
open Go Go.RowKit Go.Shelf

def lsX (b1 of1 N c1 b2 of2 c2 y9 : Nat) (k n a : Int) (t : List UInt8) (i : Nat) (v : Value) (W : World) : Prop := match i with
  | 0 => v = .slice (some ⟨b1, of1, none⟩) N c1
  | 1 => v = .int .i64 (y9 : Int)
  | 2 => v = .pointer (some ⟨b1, of1 + y9 * 4, none⟩)
  | 3 => v = .agg (tcs k t n a)
  | 4 => v = .slice (some ⟨b2, of2, none⟩) N c2
  | 5 => v = .int .i64 (y9 : Int)
  | 6 => v = .pointer (some ⟨b2, of2 + y9 * 4, none⟩)
  | 7 => v = .agg (tcs k t n a)
  | 8 => v = .bool false
  | _ => True
theorem lsX_far {b1 of1 N c1 b2 of2 c2 y9 : Nat} {k n a : Int} {t : List UInt8} {i : Nat} {v : Value} {W W' : World} (hg : Fr (fun _ => False) W W') (hx : lsX b1 of1 N c1 b2 of2 c2 y9 k n a t i v W) : lsX b1 of1 N c1 b2 of2 c2 y9 k n a t i v W' := by
  match i with
  | 0 => exact hx
  | 1 => exact hx
  | 2 => exact hx
  | 3 => exact hx
  | 4 => exact hx
  | 5 => exact hx
  | 6 => exact hx
  | 7 => exact hx
  | 8 => exact hx
  | (n + 9) => exact hx
set_option maxRecDepth 100000 in
set_option maxHeartbeats 4000000 in
theorem lsame_c (w : World) {A A' : Option Addr} {c c' : Nat} {l : List Tk} (hp : RdT w A l) (hq : RdT w A' l) (h1 : l.length ≤ 140737488355328) :
    Calls Tryd.prog 11 #[.slice A l.length c, .slice A' l.length c'] w fun e w' => e = .returned (.bool true) ∧ Fr (fun _ => False) w w' := by
  have HP := Lib.hid hp
  have HQ := Lib.hid hq
  clear hp hq
  go_enter Tryd.func11, Tryd.ntmps11
  go_wp2_with fail
  go_loopw [5] (fun iv wr => ∃ i : Nat, i ≤ l.length ∧ iv = .int .i64 (i : Int) ∧ Hid (Fr (fun _ => False) w wr)) (fun iv _ => l.length - (intOf iv).toNat)
  case atStart => exact ⟨0, Nat.zero_le _, rfl, Fr.refl _ _⟩
  case round =>
    obtain ⟨i, hi, rfl, hf⟩ := hrel
    by_cases hlt : i < l.length
    case neg =>
      obtain rfl : i = l.length := by omega
      have hdl : decide ((l.length : Int) < (l.length : Int)) = false := decide_eq_false (by omega)
      have hdl' : decide (l.length < l.length) = false := decide_eq_false (by omega)
      go_wp2_with fail
      go_ret
      exact ⟨rfl, hf.out⟩
    case pos =>
    have hdl : decide ((i : Int) < (l.length : Int)) = true := decide_eq_true (by omega)
    have hdl' : decide (i < l.length) = true := decide_eq_true hlt
    have q1 : (0 : Int) ≤ (i : Int) := by omega
    have q2 : (i : Int) < (l.length : Int) := by omega
    obtain ⟨b1, of1, hA, hrg⟩ := (HP.out.far hf.out).at_ hlt
    subst hA
    obtain ⟨b2, of2, hA', hrg'⟩ := (HQ.out.far hf.out).at_ hlt
    subst hA'
    obtain ⟨x, hx⟩ : ∃ x, l[i] = x := ⟨_, rfl⟩
    rw [hx] at hrg hrg'
    obtain ⟨k, t, n, a⟩ := x
    have RG1 : Hid (wr.rangeAt b1 (of1 + i * 4) (tcs k t n a).toList) := Lib.hid hrg
    have RG2 : Hid (wr.rangeAt b2 (of2 + i * 4) (tcs k t n a).toList) := Lib.hid hrg'
    clear hrg hrg' hx
    go_upto_region 6 with fail
    refine (wpIn_wide (n := 9)).1 ?_
    refine wpIn_region_factsG (ms := [0, 0, 3, 7, 0, 0, 48, 112, 255]) (k := 9) (Fr (fun _ => False)) (lsX b1 of1 l.length c b2 of2 c' i k n a t) (fun i v W => True) (by kernel_rfl) (by kernel_rfl) (Fr.refl _ _) (fun a b c h1 h2 => h1.trans h2 (fun _ _ h => h)) (fun i v w w' hg hx => lsX_far hg hx) ?walk6
    case walk6 =>
    have hdr : ∀ W, Fr (fun _ => False) wr.drew W → Fr (fun _ => False) wr W := fun W h => ((Fr.refl (fun _ => False) wr).drew).trans h (fun _ _ h => h)
    have HDR := Lib.hid hdr
    clear hdr
    refine factWalkG_cons (fun W hW hf K hK => ?_) (fun x0 => ?_)
    · skip
      refine ⟨by kernel_rfl, ?_⟩
      gi_step
      exact hK _ _ (Fr.refl _ _) rfl trivial
    simp only [Act.put, List.setIfInBounds_toArray, List.set_cons_succ, List.set_cons_zero]
    refine factWalkG_cons (fun W hW hf K hK => ?_) (fun x1 => ?_)
    · skip
      refine ⟨by kernel_rfl, ?_⟩
      gi_step
      exact hK _ _ (Fr.refl _ _) rfl trivial
    simp only [Act.put, List.setIfInBounds_toArray, List.set_cons_succ, List.set_cons_zero]
    refine factWalkG_cons (fun W hW hf K hK => ?_) (fun x2 => ?_)
    · skip
      have e0 : x0 = .slice (some ⟨b1, of1, none⟩) l.length c := hf 0 (by omega) (by kernel_rfl)
      have e1 : x1 = .int .i64 (i : Int) := hf 1 (by omega) (by kernel_rfl)
      subst e0 e1
      refine ⟨by kernel_rfl, ?_⟩
      gi_step
      exact hK _ _ (Fr.refl _ _) rfl trivial
    simp only [Act.put, List.setIfInBounds_toArray, List.set_cons_succ, List.set_cons_zero]
    refine factWalkG_cons (fun W hW hf K hK => ?_) (fun x3 => ?_)
    · skip
      have e2 : x2 = .pointer (some ⟨b1, of1 + i * 4, none⟩) := hf 2 (by omega) (by kernel_rfl)
      subst e2
      have hld := load_val (P := Tryd.prog) W b1 (of1 + i * 4) (tcs k t n a) (rng_fr RG1.out (HDR.out W hW) (fun h => h)) 32 _ Tryd.underlying32 rfl tsize
      refine ⟨by kernel_rfl, ?_⟩
      refine operIn_load 32 _ rfl _ rfl hld ?_
      exact hK _ _ (Fr.refl _ _) rfl trivial
    simp only [Act.put, List.setIfInBounds_toArray, List.set_cons_succ, List.set_cons_zero]
    refine factWalkG_cons (fun W hW hf K hK => ?_) (fun x4 => ?_)
    · skip
      refine ⟨by kernel_rfl, ?_⟩
      gi_step
      exact hK _ _ (Fr.refl _ _) rfl trivial
    simp only [Act.put, List.setIfInBounds_toArray, List.set_cons_succ, List.set_cons_zero]
    refine factWalkG_cons (fun W hW hf K hK => ?_) (fun x5 => ?_)
    · skip
      refine ⟨by kernel_rfl, ?_⟩
      gi_step
      exact hK _ _ (Fr.refl _ _) rfl trivial
    simp only [Act.put, List.setIfInBounds_toArray, List.set_cons_succ, List.set_cons_zero]
    refine factWalkG_cons (fun W hW hf K hK => ?_) (fun x6 => ?_)
    · skip
      have e4 : x4 = .slice (some ⟨b2, of2, none⟩) l.length c' := hf 4 (by omega) (by kernel_rfl)
      have e5 : x5 = .int .i64 (i : Int) := hf 5 (by omega) (by kernel_rfl)
      subst e4 e5
      refine ⟨by kernel_rfl, ?_⟩
      gi_step
      exact hK _ _ (Fr.refl _ _) rfl trivial
    simp only [Act.put, List.setIfInBounds_toArray, List.set_cons_succ, List.set_cons_zero]
    refine factWalkG_cons (fun W hW hf K hK => ?_) (fun x7 => ?_)
    · skip
      have e6 : x6 = .pointer (some ⟨b2, of2 + i * 4, none⟩) := hf 6 (by omega) (by kernel_rfl)
      subst e6
      have hld := load_val (P := Tryd.prog) W b2 (of2 + i * 4) (tcs k t n a) (rng_fr RG2.out (HDR.out W hW) (fun h => h)) 32 _ Tryd.underlying32 rfl tsize
      refine ⟨by kernel_rfl, ?_⟩
      refine operIn_load 32 _ rfl _ rfl hld ?_
      exact hK _ _ (Fr.refl _ _) rfl trivial
    simp only [Act.put, List.setIfInBounds_toArray, List.set_cons_succ, List.set_cons_zero]
    refine factWalkG_cons (fun W hW hf K hK => ?_) (fun x8 => ?_)
    · skip
      have e3 : x3 = .agg (tcs k t n a) := hf 3 (by omega) (by kernel_rfl)
      have e7 : x7 = .agg (tcs k t n a) := hf 7 (by omega) (by kernel_rfl)
      subst e3 e7
      refine ⟨by kernel_rfl, ?_⟩
      gi_step
      exact hK _ _ (Fr.refl _ _) rfl trivial
    simp only [Act.put, List.setIfInBounds_toArray, List.set_cons_succ, List.set_cons_zero]
    refine factWalkG_nil (fun W hW hf5 hmet => ?_)
    have e8 : x8 = .bool false := hf5 8 (by omega)
    subst e8
    have F3 : Hid (Fr (fun _ => False) wr W) := Lib.hid (HDR.out W hW)
    clear hf5 hmet hW HDR
    change wpAnyIn _ _ _ _ _ _ 0 _ _ _
    refine wpAnyIn_done (by kernel_rfl) ?_ _
    try simp only [Act.put, List.setIfInBounds_toArray, List.set_cons_succ, List.set_cons_zero]
    go_wp2_with fail
    go_roundw
    case rel => exact ⟨i + 1, by omega, by go_num, hf.out.trans F3.out (fun _ _ h => h)⟩
    case measure => simp [intOf]; omega
end Go.Proofs.YtimopkmlcjdgfaaDoor
