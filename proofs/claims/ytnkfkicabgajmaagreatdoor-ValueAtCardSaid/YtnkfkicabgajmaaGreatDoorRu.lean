/-
  CONTRACT of the reference's quoted. Written by gen_rquo.py.
-/
import Derived.Test.YtnkfkicabgajmaaGreatDoorRd
namespace Go.Proofs.YtnkfkicabgajmaaGreatDoor
set_option linter.unusedSimpArgs false
set_option linter.unusedVariables false
open Go Go.RowKit

theorem own_lits (w : World) (base : Nat) (l : List Value) (n : Nat) (hl : l.length = n) (hb : base ≤ w.heap.size) (hn : n ≤ maxLen) :
    (w.alloc (.cells l.toArray 5)).ownsRow base 5 1 (.slice (some ⟨w.heap.size, 0, none⟩) n n) n l :=
  ⟨by rw [hl, Nat.mul_one], .inr ⟨w.heap.size, n, l.toArray, rfl, hb, heap_alloc_new w _, Nat.le_refl _, hn, by simp [hl], by rw [Nat.mul_one, ← hl]; simp⟩⟩
set_option maxRecDepth 100000 in
set_option maxHeartbeats 4000000 in
theorem rquoted_c (w : World) (s : List UInt8) (hs : s.length ≤ 1000000) : Calls Tryz.prog 57 #[.string (strOf s)] w fun e w' => e = .returned (.string (strOf (quoted s))) ∧ Fr (fun _ => False) w w' := by
  obtain ⟨i0, hi0, hz0', hz1', hz2'⟩ := info_parts u8_info
  have HI0 := Lib.hid hi0
  have hsz := strOf_size s
  have hne := nesc_le s
  clear hi0
  go_enter Tryz.func57, Tryz.ntmps57
  go_upto_region 2 with fail
  have BN := Lib.hid (own_lits w w.heap.size [.int .u8 34] 1 rfl (Nat.le_refl _) (by unfold maxLen; omega))
  refine abs_world (fun W => Hid (W.ownsRow w.heap.size 5 1 (.slice (some ⟨w.heap.size, 0, none⟩) 1 1) 1 (bv (34 :: escs (s.take 0)))) ∧ Hid (Fr (fun _ => False) w W)) ⟨BN.out, (Fr.refl _ w).alloc _⟩ ?_
  rintro W1 ⟨O1, F1⟩
  clear BN
  go_wp2_with fail
  go_loopw [3, 4] (fun ov iv wr => ∃ (i m : Nat) (A2 : Option Addr) (c2 : Nat), i ≤ s.length ∧ iv = .int .i64 (i : Int) ∧ ov = .slice A2 m c2 ∧ Hid (m = 1 + (escs (s.take i)).length) ∧ Hid (wr.ownsRow w.heap.size 5 1 (.slice A2 m c2) m (bv (34 :: escs (s.take i)))) ∧ Hid (Fr (fun _ => False) w wr)) (fun _ iv _ => s.length - (intOf iv).toNat)
  case atStart => exact ⟨0, 1, _, 1, Nat.zero_le _, rfl, rfl, rfl, O1.out, F1.out⟩
  case round =>
    obtain ⟨i, m, A2, c2, hi, rfl, rfl, hm, ho, hk⟩ := hrel
    have hz := hk.out.size
    have hml : m ≤ 1 + s.length + nesc s := by
      have h1 := hm.out
      have h2 := (escs_pre s i).length_le
      have h3 := escs_len s
      omega
    by_cases hlt : i < s.length
    case neg =>
      obtain rfl : i = s.length := by omega
      have hdl : decide ((s.length : Int) < (s.length : Int)) = false := decide_eq_false (by omega)
      have hdl' : decide (s.length < s.length) = false := decide_eq_false (by omega)
      have htk : s.take s.length = s := List.take_length
      rw [htk] at ho hm
      clear htk hdl'
      go_wp2_with (first
        | (at_builtin
           refine wpList_app rfl _ _ _ _ rfl w.heap.size 5 i0 _ 1 1 Tryz.underlying79 HI0.out hz0' hz1' hz2' rfl _ m (bv (34 :: escs s)) rfl (own_al ho.out _) _ 1 [.int .u8 34] rfl (src1 wr 34) (by omega) (by unfold maxLen; omega) (by rw [World.size_alloc]; omega) ?_
           intro v3 W3 o3 f3 n3
           obtain ⟨A3, c3, rfl, -, -⟩ := own_slice o3
           have O3 := Lib.hid o3
           have F3 := Lib.hid f3
           have hcv : (convert 79 9 (.slice A3 (m + 1) c3)).run Tryz.prog W3 = .ok (.string (strOf (quoted s))) W3 := conv_str W3 A3 (m + 1) c3 (quoted s) (by have h := Rd.of_own (own_base o3 (base' := 0) (fun _ _ => Nat.zero_le _)); rw [show bv (34 :: escs s) ++ [.int .u8 34] = bv (quoted s) from by rw [show quoted s = (34 :: escs s) ++ [34] from rfl, bv_append]; rfl] at h; exact h)
           clear o3 f3 n3))
      go_ret
      exact ⟨rfl, (hk.out.alloc _).trans F3.out (fun q hq he => by have := (ho.out.lt q he).1; omega)⟩
    have hdl : decide ((i : Int) < (s.length : Int)) = true := decide_eq_true (by omega)
    have hdl' : decide (i < s.length) = true := decide_eq_true hlt
    have hix := fun W => run_index_str W s i hlt
    have hes := escs_take s i hlt
    have hsm : ((escs (s.take (i + 1))).length : Nat) ≤ s.length + nesc s := by
      have h2 := (escs_pre s (i + 1)).length_le
      have h3 := escs_len s
      omega
    have HM := Lib.hid hsm
    obtain ⟨x, hx⟩ : ∃ x, s[i] = x := ⟨_, rfl⟩
    simp only [hx] at hix hes
    have HES := Lib.hid hes
    clear hx hes hsm
    by_cases he : x = 34 ∨ x = 92
    case pos =>
      have hxt : x.toNat = 34 ∨ x.toNat = 92 := by rcases he with rfl | rfl <;> simp
      have he1 : esc1 x = [92, x] := by rcases he with rfl | rfl <;> rfl
      have HE1 := Lib.hid he1
      clear he1
      have hm2 : m + 2 ≤ 1 + s.length + nesc s := by
        have h1 := HM.out
        rw [HES.out, HE1.out] at h1
        simp at h1
        have := hm.out
        omega
      obtain ⟨y, hy⟩ : ∃ y, x.toNat = y := ⟨_, rfl⟩
      rw [hy] at hxt
      simp only [hy] at hix
      have HY := Lib.hid hy
      clear hy he
      rcases hxt with rfl | rfl
      all_goals
        go_upto_region 7 with (first
          | (at_builtin
             refine wpList_app rfl _ _ _ _ rfl w.heap.size 5 i0 _ 1 1 Tryz.underlying79 HI0.out hz0' hz1' hz2' rfl _ m (bv (34 :: escs (s.take i))) rfl (own_al ho.out _) _ 1 [.int .u8 92] rfl (src1 wr 92) (by omega) (by unfold maxLen; omega) (by rw [World.size_alloc]; omega) ?_
             intro v3 W3 o3 f3 n3
             obtain ⟨A3, c3, rfl, -, -⟩ := own_slice o3
             have O3 := Lib.hid o3
             have F3 := Lib.hid f3
             skip
             clear o3 f3 n3))
        have K3 : Hid (Fr (fun _ => False) w W3) := Lib.hid ((hk.out.alloc _).trans F3.out (fun q hq he => by have := (ho.out.lt q he).1; omega))
        have Z3 := K3.out.size
        have O4 : Hid (W3.ownsRow w.heap.size 5 1 (.slice A3 (m + 1) c3) (m + 1) (bv (34 :: escs (s.take i) ++ [92]))) := Lib.hid (by
          have h := O3.out
          rw [show bv (34 :: escs (s.take i)) ++ [.int .u8 92] = bv (34 :: escs (s.take i) ++ [92]) from by rw [bv_append]; rfl] at h
          exact h)
        clear O3 F3
        go_wp2_with (first
          | (at_builtin
             refine wpList_app rfl _ _ _ _ rfl w.heap.size 5 i0 _ 1 1 Tryz.underlying79 HI0.out hz0' hz1' hz2' rfl _ (m + 1) (bv (34 :: escs (s.take i) ++ [92])) rfl (own_al O4.out _) _ 1 [.int .u8 _] rfl (src1 W3 _) (by omega) (by unfold maxLen; omega) (by rw [World.size_alloc]; omega) ?_
             intro v5 W5 o5 f5 n5
             obtain ⟨A5, c5, rfl, -, -⟩ := own_slice o5
             have O5 := Lib.hid o5
             have F5 := Lib.hid f5
             skip
             clear o5 f5 n5))
        have K5 : Hid (Fr (fun _ => False) w W5) := Lib.hid ((K3.out.alloc _).trans F5.out (fun q hq he => by have := (O4.out.lt q he).1; omega))
        have O6 : Hid (W5.ownsRow w.heap.size 5 1 (.slice A5 (m + 1 + 1) c5) (m + 1 + 1) (bv (34 :: escs (s.take (i + 1))))) := Lib.hid (by
          have h := O5.out
          have e : ∀ z : Int, z = (x.toNat : Int) → bv (34 :: escs (s.take i) ++ [92]) ++ [.int .u8 z] = bv (34 :: escs (s.take (i + 1))) := by
            intro z hz
            rw [HES.out, HE1.out, hz, ← bv1, ← bv_append, List.append_assoc]
            rfl
          rw [e] at h
          · exact h
          · rw [HY.out]; rfl)
        have hm5 : Hid (m + 2 = 1 + (escs (s.take (i + 1))).length) := by
          refine Lib.hid ?_
          rw [HES.out, HE1.out, hm.out]
          simp
          omega
        clear O5 F5 hix
        go_wp2_with fail
        go_roundw
        case rel => exact ⟨i + 1, m + 2, A5, c5, by omega, by go_num, rfl, hm5.out, O6.out, K5.out⟩
        case measure => simp [intOf]; omega
    case neg =>
      simp only [not_or] at he
      have he1 : esc1 x = [x] := by unfold esc1; simp [he.1, he.2]
      have hxt : x.toNat ≠ 34 ∧ x.toNat ≠ 92 := ⟨fun h => he.1 (UInt8.toNat_inj.1 h), fun h => he.2 (UInt8.toNat_inj.1 h)⟩
      have HE1 := Lib.hid he1
      clear he1 he
      have hm2 : m + 1 ≤ 1 + s.length + nesc s := by
        have h1 := HM.out
        rw [HES.out, HE1.out] at h1
        simp at h1
        have := hm.out
        omega
      obtain ⟨y, hy⟩ : ∃ y, x.toNat = y := ⟨_, rfl⟩
      rw [hy] at hxt
      simp only [hy] at hix
      have HY := Lib.hid hy
      clear hy
      have e1 : ((y : Int) == 34) = false := by simp; omega
      have e2 : ((y : Int) == 92) = false := by simp; omega
      have e1' : (y == 34) = false := by simp; omega
      have e2' : (y == 92) = false := by simp; omega
      clear hxt
      go_wp2_with (first
        | (at_builtin
           refine wpList_app rfl _ _ _ _ rfl w.heap.size 5 i0 _ 1 1 Tryz.underlying79 HI0.out hz0' hz1' hz2' rfl _ m (bv (34 :: escs (s.take i))) rfl (own_al ho.out _) _ 1 [.int .u8 _] rfl (src1 wr _) (by omega) (by unfold maxLen; omega) (by rw [World.size_alloc]; omega) ?_
           intro v5 W5 o5 f5 n5
           obtain ⟨A5, c5, rfl, -, -⟩ := own_slice o5
           have O5 := Lib.hid o5
           have F5 := Lib.hid f5
           skip
           clear o5 f5 n5))
      have K5 : Hid (Fr (fun _ => False) w W5) := Lib.hid ((hk.out.alloc _).trans F5.out (fun q hq he => by have := (ho.out.lt q he).1; omega))
      have O6 : Hid (W5.ownsRow w.heap.size 5 1 (.slice A5 (m + 1) c5) (m + 1) (bv (34 :: escs (s.take (i + 1))))) := Lib.hid (by
        have h := O5.out
        rw [show bv (34 :: escs (s.take i)) ++ [.int .u8 (y : Nat)] = bv (34 :: escs (s.take (i + 1))) from by
          rw [HES.out, HE1.out, ← HY.out, ← bv1, ← bv_append]
          rfl] at h
        exact h)
      have hm5 : Hid (m + 1 = 1 + (escs (s.take (i + 1))).length) := by
        refine Lib.hid ?_
        rw [HES.out, HE1.out, hm.out]
        simp
        omega
      clear O5 F5 hix
      go_wp2_with fail
      go_roundw
      case rel => exact ⟨i + 1, m + 1, A5, c5, by omega, by go_num, rfl, hm5.out, O6.out, K5.out⟩
      case measure => simp [intOf]; omega
end Go.Proofs.YtnkfkicabgajmaaGreatDoor
