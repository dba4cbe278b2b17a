/-
  CONTRACT of the law LexCuts.
-/
import Derived.Test.YtimopkmlcjdgfaaDoorLcs
import Derived.Test.YtimopkmlcjdgfaaDoorRal
namespace Go.Proofs.YtimopkmlcjdgfaaDoor
set_option linter.unusedSimpArgs false
set_option linter.unusedVariables false
open Go Go.RowKit Go.Shelf

theorem rdT_nil (w : World) : RdT w none [] := Rd.none_ _ _
set_option maxRecDepth 100000 in
set_option maxHeartbeats 4000000 in
theorem lexCuts_c (w : World) (s : List UInt8) (hs : s.length ≤ 140737488355328) (hL : LaidOk w) : Calls Tryd.prog 3 #[.string (strOf s)] w fun e w' => e = .returned (.bool true) ∧ Fr (fun _ => False) w w' := by
  have HL := Lib.hid hL
  have hsz := strOf_size s
  clear hL
  by_cases hbig : 20000 < s.length
  case pos =>
    have d1 : decide ((20000 : Int) < (s.length : Int)) = true := decide_eq_true (by omega)
    have d1' : decide ((s.length : Int) > 20000) = true := decide_eq_true (by omega)
    go_enter Tryd.func3, Tryd.ntmps3
    go_wp2_with (
      go_at_call 8
      refine (awake_c w HL.out).mono ?_
      rintro e W1 ⟨rfl, f1⟩
      have F1 := Lib.hid f1
      clear f1)
    go_ret
    exact ⟨rfl, F1.out⟩
  case neg =>
  have d1 : decide ((20000 : Int) < (s.length : Int)) = false := decide_eq_false (by omega)
  have d1' : decide ((s.length : Int) > 20000) = false := decide_eq_false (by omega)
  go_enter Tryd.func3, Tryd.ntmps3
  by_cases hlong : 4096 < s.length
  case pos =>
    go_upto_region 4 with (
      go_at_call 9
      refine (all_c w s (by omega) HL.out).mono ?_
      intro e W1 hq
      obtain ⟨rfl, f1⟩ := all_long hlong hq
      have F1 := Lib.hid f1
      clear hq f1)
    go_upto_region 5 with (
      go_at_call 10
      refine (rAll_c W1 s (by omega)).mono ?_
      intro e W2 hq
      obtain ⟨rfl, f2⟩ := all_long hlong hq
      have F2 := Lib.hid f2
      clear hq f2)
    have HL2 := Lib.hid ((HL.out.far F1.out).far F2.out)
    have SM := Lib.hid (lsame_c (c := 0) (c' := 0) W2 (rdT_nil W2) (rdT_nil W2) (by simp))
    simp only [List.length_nil] at SM
    go_wp2_with (first
      | (go_at_call 11
         refine SM.out.mono ?_
         rintro e W3 ⟨rfl, f3⟩
         have F3 := Lib.hid f3
         have HL3 := Lib.hid (HL2.out.far f3)
         clear f3)
      | (go_at_call 8
         refine (awake_c W3 HL3.out).mono ?_
         rintro e W9 ⟨rfl, f9⟩
         have F9 := Lib.hid f9
         clear f9))
    go_ret
    exact ⟨rfl, ((F1.out.trans F2.out (fun _ _ h => h)).trans F3.out (fun _ _ h => h)).trans F9.out (fun _ _ h => h)⟩
  case neg =>
  cases hA : allS s with
  | inr ix =>
    have HA := Lib.hid hA
    clear hA
    go_upto_region 4 with (
      go_at_call 9
      refine (all_c w s (by omega) HL.out).mono ?_
      intro e W1 hq
      obtain ⟨rfl, f1⟩ := all_no (by omega) HA.out hq
      have F1 := Lib.hid f1
      clear hq f1)
    go_upto_region 5 with (
      go_at_call 10
      refine (rAll_c W1 s (by omega)).mono ?_
      intro e W2 hq
      obtain ⟨rfl, f2⟩ := all_no (by omega) HA.out hq
      have F2 := Lib.hid f2
      clear hq f2)
    have HL2 := Lib.hid ((HL.out.far F1.out).far F2.out)
    have SM := Lib.hid (lsame_c (c := 0) (c' := 0) W2 (rdT_nil W2) (rdT_nil W2) (by simp))
    simp only [List.length_nil] at SM
    have hixx : ((ix : Int) == (ix : Int)) = true := by simp
    go_wp2_with (first
      | (go_at_call 11
         refine SM.out.mono ?_
         rintro e W3 ⟨rfl, f3⟩
         have F3 := Lib.hid f3
         have HL3 := Lib.hid (HL2.out.far f3)
         clear f3)
      | (go_at_call 8
         refine (awake_c W3 HL3.out).mono ?_
         rintro e W9 ⟨rfl, f9⟩
         have F9 := Lib.hid f9
         clear f9))
    go_ret
    exact ⟨rfl, ((F1.out.trans F2.out (fun _ _ h => h)).trans F3.out (fun _ _ h => h)).trans F9.out (fun _ _ h => h)⟩
  | inl l =>
    have HA := Lib.hid hA
    have hll := allS_le hA
    clear hA
    go_upto_region 4 with (
      go_at_call 9
      refine (all_c w s (by omega) HL.out).mono ?_
      intro e W1 hq
      obtain ⟨A1, c1, rfl, o1, f1, -⟩ := all_is (n := l.length) (by omega) HA.out rfl hq
      have O1 := Lib.hid o1
      have F1 := Lib.hid f1
      clear hq o1 f1)
    go_upto_region 5 with (
      go_at_call 10
      refine (rAll_c W1 s (by omega)).mono ?_
      intro e W2 hq
      obtain ⟨A2, c2, rfl, o2, f2, -⟩ := all_is (n := l.length) (by omega) HA.out rfl hq
      have O2 := Lib.hid o2
      have F2 := Lib.hid f2
      clear hq o2 f2)
    have HL2 := Lib.hid ((HL.out.far F1.out).far F2.out)
    have SM := Lib.hid (lsame_c (c := c1) (c' := c2) W2 ((RdT.of_own O1.out).far F2.out) (RdT.of_own O2.out) (by omega))
    go_wp2_with (first
      | (go_at_call 11
         refine SM.out.mono ?_
         rintro e W3 ⟨rfl, f3⟩
         have F3 := Lib.hid f3
         have HL3 := Lib.hid (HL2.out.far f3)
         clear f3)
      | (go_at_call 8
         refine (awake_c W3 HL3.out).mono ?_
         rintro e W9 ⟨rfl, f9⟩
         have F9 := Lib.hid f9
         clear f9))
    go_ret
    exact ⟨rfl, ((F1.out.trans F2.out (fun _ _ h => h)).trans F3.out (fun _ _ h => h)).trans F9.out (fun _ _ h => h)⟩
end Go.Proofs.YtimopkmlcjdgfaaDoor
