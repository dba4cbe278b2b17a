/-
  CONTRACTS of New of pull and push and of the references', and of the references' Same at what New makes.
-/
import Derived.Test.YtaenibbhpidjcaaGreatDoorNm
import Derived.Test.YtaenibbhpidjcaaGreatDoorSt
namespace Go.Proofs.YtaenibbhpidjcaaGreatDoor
set_option linter.unusedSimpArgs false
set_option linter.unusedVariables false
open Go Go.RowKit

/-- May such a session be? -/
def okS (u s : List UInt8) (m : Nat) : Bool := okN u && okN s && (decide (1 ≤ m) && decide (m ≤ 4611686018427387903))
def pv (u s : List UInt8) (m : Nat) : Value := .agg #[.string (strOf u), .string (strOf s), .int .u64 (m : Nat), .int .u64 0, .int .i64 0, .int .u64 0, .int .u64 0, .int .u64 0, .slice none 0 0, .slice none 0 0, .int .u64 0, .int .i64 0, .int .i64 0]
def qv (u s : List UInt8) (m : Nat) : Value := .agg #[.string (strOf u), .string (strOf s), .int .u64 (m : Nat), .int .u64 0, .int .i64 0, .int .u64 0, .int .u64 0, .int .u64 0, .slice none 0 0, .slice none 0 0, .int .u64 0, .int .i64 0, .int .i64 0, .int .i64 0]
/-- What New answers. -/
def pnew (u s : List UInt8) (m : Nat) : Value := if okS u s m then .tuple #[pv u s m, .int .i64 0] else .tuple #[pv [] [] 0, .int .i64 1]
def qnew (u s : List UInt8) (m : Nat) : Value := if okS u s m then .tuple #[qv u s m, .int .i64 0] else .tuple #[qv [] [] 0, .int .i64 1]
theorem okS_u {u s : List UInt8} {m : Nat} (h : okN u = false) : okS u s m = false := by unfold okS; rw [h]; rfl
theorem okS_s {u s : List UInt8} {m : Nat} (h : okN s = false) : okS u s m = false := by unfold okS; rw [h]; simp
theorem okS_lo {u s : List UInt8} {m : Nat} (h : m < 1) : okS u s m = false := by unfold okS; rw [decide_eq_false (by omega : ¬ 1 ≤ m)]; simp
theorem okS_hi {u s : List UInt8} {m : Nat} (h : 4611686018427387903 < m) : okS u s m = false := by unfold okS; rw [decide_eq_false (by omega : ¬ m ≤ 4611686018427387903)]; simp
theorem okS_ok {u s : List UInt8} {m : Nat} (h1 : okN u = true) (h2 : okN s = true) (h3 : 1 ≤ m) (h4 : m ≤ 4611686018427387903) : okS u s m = true := by unfold okS; rw [h1, h2, decide_eq_true h3, decide_eq_true h4]; rfl

set_option maxRecDepth 100000 in
set_option maxHeartbeats 1000000 in
theorem pNew_c (w : World) (u s : List UInt8) (m : Nat) (hu : u.length ≤ 140737488355328) (hs : s.length ≤ 140737488355328) (hm : m < 18446744073709551616) :
    Calls Tryz.prog 6 #[.string (strOf u), .string (strOf s), .int .u64 (m : Nat)] w fun e w' => e = .returned (pnew u s m) ∧ Fr (fun _ => False) w w' := by
  obtain ⟨bu, hbu⟩ : ∃ b, okN u = b := ⟨_, rfl⟩
  obtain ⟨bs, hbs⟩ : ∃ b, okN s = b := ⟨_, rfl⟩
  have HBu := Lib.hid hbu
  have HBs := Lib.hid hbs
  clear hbu hbs
  have Hu := Lib.hid hu
  have Hs := Lib.hid hs
  clear hu hs
  go_enter Tryz.func6, Tryz.ntmps6
  go_wp2_with fail
  obtain ⟨g, hg⟩ : ∃ g, w.heap.size = g := ⟨_, rfl⟩
  have HG := Lib.hid hg
  rw [hg]
  clear hg
  refine (mayName_c _ u Hu.out).mono ?_
  rintro e w1 ⟨rfl, f1⟩
  rw [HBu.out]
  have F1 : Hid (Fr (fun _ => False) w w1) := ((Fr.refl _ w).alloc _).trans f1 (fun _ _ h => h)
  have B1 := Lib.hid ((Blk.new w 28 _).fr f1 (fun h => h))
  rw [HG.out] at B1
  clear f1
  cases bu with
  | false =>
    go_wp2_with (refine wpList_store_blk rfl 28 _ _ rfl g _ rfl rfl B1.out rfl (by kernel_rfl) (by first | rfl | kernel_rfl) ?_; rintro W b f; have BW := Lib.hid b; have FW := Lib.hid f; clear b f)
    exact bodyPost_ret (results_two Tryz.results6 _ W g 28 _ _ rfl BW.out Tryz.underlying28 rfl (by kernel_rfl)) rfl ⟨by unfold pnew; rw [okS_u HBu.out]; rfl, F1.out.trans FW.out (fun k hk e => by have := HG.out; omega)⟩
  | true =>
    go_wp2_with fail
    refine (mayName_c _ s Hs.out).mono ?_
    rintro e w2 ⟨rfl, f2⟩
    rw [HBs.out]
    have F2 : Hid (Fr (fun _ => False) w w2) := F1.out.trans f2 (fun _ _ h => h)
    have B2 := Lib.hid (B1.out.fr f2 (fun h => h))
    clear f2 F1 B1
    have B1 := B2
    clear B2
    cases bs with
    | false =>
      go_wp2_with (refine wpList_store_blk rfl 28 _ _ rfl g _ rfl rfl B1.out rfl (by kernel_rfl) (by first | rfl | kernel_rfl) ?_; rintro W b f; have BW := Lib.hid b; have FW := Lib.hid f; clear b f)
      exact bodyPost_ret (results_two Tryz.results6 _ W g 28 _ _ rfl BW.out Tryz.underlying28 rfl (by kernel_rfl)) rfl ⟨by unfold pnew; rw [okS_s HBs.out]; rfl, F2.out.trans FW.out (fun k hk e => by have := HG.out; omega)⟩
    | true =>
      by_cases h1 : m < 1
      · have d1 : decide ((m : Int) < 1) = true := decide_eq_true (by omega)
        have d2 : decide (m < 1) = true := decide_eq_true h1
        go_wp2_with (refine wpList_store_blk rfl 28 _ _ rfl g _ rfl rfl B1.out rfl (by kernel_rfl) (by first | rfl | kernel_rfl) ?_; rintro W b f; have BW := Lib.hid b; have FW := Lib.hid f; clear b f)
        exact bodyPost_ret (results_two Tryz.results6 _ W g 28 _ _ rfl BW.out Tryz.underlying28 rfl (by kernel_rfl)) rfl ⟨by unfold pnew; rw [okS_lo h1]; rfl, F2.out.trans FW.out (fun k hk e => by have := HG.out; omega)⟩
      · have d1 : decide ((m : Int) < 1) = false := decide_eq_false (by omega)
        have d2 : decide (m < 1) = false := decide_eq_false h1
        by_cases h3 : 4611686018427387903 < m
        · have d3 : decide (4611686018427387903 < (m : Int)) = true := decide_eq_true (by omega)
          have d4 : decide (4611686018427387903 < m) = true := decide_eq_true h3
          go_wp2_with (refine wpList_store_blk rfl 28 _ _ rfl g _ rfl rfl B1.out rfl (by kernel_rfl) (by first | rfl | kernel_rfl) ?_; rintro W b f; have BW := Lib.hid b; have FW := Lib.hid f; clear b f)
          exact bodyPost_ret (results_two Tryz.results6 _ W g 28 _ _ rfl BW.out Tryz.underlying28 rfl (by kernel_rfl)) rfl ⟨by unfold pnew; rw [okS_hi h3]; rfl, F2.out.trans FW.out (fun k hk e => by have := HG.out; omega)⟩
        · have d3 : decide (4611686018427387903 < (m : Int)) = false := decide_eq_false (by omega)
          have d4 : decide (4611686018427387903 < m) = false := decide_eq_false h3
          go_wp2_with (refine wpList_store_blk rfl 28 _ _ rfl g _ rfl rfl B1.out rfl (by kernel_rfl) (by first | rfl | kernel_rfl) ?_; rintro W b f; have BW := Lib.hid b; have FW := Lib.hid f; clear b f)
          exact bodyPost_ret (results_two Tryz.results6 _ W g 28 _ _ rfl BW.out Tryz.underlying28 rfl (by kernel_rfl)) rfl ⟨by unfold pnew; rw [okS_ok HBu.out HBs.out (by omega) (by omega)]; rfl, F2.out.trans FW.out (fun k hk e => by have := HG.out; omega)⟩

set_option maxRecDepth 100000 in
set_option maxHeartbeats 1000000 in
theorem rNew_c (w : World) (u s : List UInt8) (m : Nat) (hu : u.length ≤ 140737488355328) (hs : s.length ≤ 140737488355328) (hm : m < 18446744073709551616) :
    Calls Tryz.prog 7 #[.string (strOf u), .string (strOf s), .int .u64 (m : Nat)] w fun e w' => e = .returned (pnew u s m) ∧ Fr (fun _ => False) w w' := by
  obtain ⟨bu, hbu⟩ : ∃ b, okN u = b := ⟨_, rfl⟩
  obtain ⟨bs, hbs⟩ : ∃ b, okN s = b := ⟨_, rfl⟩
  have HBu := Lib.hid hbu
  have HBs := Lib.hid hbs
  clear hbu hbs
  have Hu := Lib.hid hu
  have Hs := Lib.hid hs
  clear hu hs
  go_enter Tryz.func7, Tryz.ntmps7
  go_wp2_with fail
  obtain ⟨g, hg⟩ : ∃ g, w.heap.size = g := ⟨_, rfl⟩
  have HG := Lib.hid hg
  rw [hg]
  clear hg
  refine (rMayName_c _ u Hu.out).mono ?_
  rintro e w1 ⟨rfl, f1⟩
  rw [HBu.out]
  have F1 : Hid (Fr (fun _ => False) w w1) := ((Fr.refl _ w).alloc _).trans f1 (fun _ _ h => h)
  have B1 := Lib.hid ((Blk.new w 28 _).fr f1 (fun h => h))
  rw [HG.out] at B1
  clear f1
  cases bu with
  | false =>
    go_wp2_with (refine wpList_store_blk rfl 28 _ _ rfl g _ rfl rfl B1.out rfl (by kernel_rfl) (by first | rfl | kernel_rfl) ?_; rintro W b f; have BW := Lib.hid b; have FW := Lib.hid f; clear b f)
    exact bodyPost_ret (results_two Tryz.results7 _ W g 28 _ _ rfl BW.out Tryz.underlying28 rfl (by kernel_rfl)) rfl ⟨by unfold pnew; rw [okS_u HBu.out]; rfl, F1.out.trans FW.out (fun k hk e => by have := HG.out; omega)⟩
  | true =>
    go_wp2_with fail
    refine (rMayName_c _ s Hs.out).mono ?_
    rintro e w2 ⟨rfl, f2⟩
    rw [HBs.out]
    have F2 : Hid (Fr (fun _ => False) w w2) := F1.out.trans f2 (fun _ _ h => h)
    have B2 := Lib.hid (B1.out.fr f2 (fun h => h))
    clear f2 F1 B1
    have B1 := B2
    clear B2
    cases bs with
    | false =>
      go_wp2_with (refine wpList_store_blk rfl 28 _ _ rfl g _ rfl rfl B1.out rfl (by kernel_rfl) (by first | rfl | kernel_rfl) ?_; rintro W b f; have BW := Lib.hid b; have FW := Lib.hid f; clear b f)
      exact bodyPost_ret (results_two Tryz.results7 _ W g 28 _ _ rfl BW.out Tryz.underlying28 rfl (by kernel_rfl)) rfl ⟨by unfold pnew; rw [okS_s HBs.out]; rfl, F2.out.trans FW.out (fun k hk e => by have := HG.out; omega)⟩
    | true =>
      by_cases h1 : m < 1
      · have d1 : decide ((m : Int) < 1) = true := decide_eq_true (by omega)
        have d2 : decide (m < 1) = true := decide_eq_true h1
        go_wp2_with (refine wpList_store_blk rfl 28 _ _ rfl g _ rfl rfl B1.out rfl (by kernel_rfl) (by first | rfl | kernel_rfl) ?_; rintro W b f; have BW := Lib.hid b; have FW := Lib.hid f; clear b f)
        exact bodyPost_ret (results_two Tryz.results7 _ W g 28 _ _ rfl BW.out Tryz.underlying28 rfl (by kernel_rfl)) rfl ⟨by unfold pnew; rw [okS_lo h1]; rfl, F2.out.trans FW.out (fun k hk e => by have := HG.out; omega)⟩
      · have d1 : decide ((m : Int) < 1) = false := decide_eq_false (by omega)
        have d2 : decide (m < 1) = false := decide_eq_false h1
        by_cases h3 : 4611686018427387903 < m
        · have d3 : decide (4611686018427387903 < (m : Int)) = true := decide_eq_true (by omega)
          have d4 : decide (4611686018427387903 < m) = true := decide_eq_true h3
          go_wp2_with (refine wpList_store_blk rfl 28 _ _ rfl g _ rfl rfl B1.out rfl (by kernel_rfl) (by first | rfl | kernel_rfl) ?_; rintro W b f; have BW := Lib.hid b; have FW := Lib.hid f; clear b f)
          exact bodyPost_ret (results_two Tryz.results7 _ W g 28 _ _ rfl BW.out Tryz.underlying28 rfl (by kernel_rfl)) rfl ⟨by unfold pnew; rw [okS_hi h3]; rfl, F2.out.trans FW.out (fun k hk e => by have := HG.out; omega)⟩
        · have d3 : decide (4611686018427387903 < (m : Int)) = false := decide_eq_false (by omega)
          have d4 : decide (4611686018427387903 < m) = false := decide_eq_false h3
          go_wp2_with (refine wpList_store_blk rfl 28 _ _ rfl g _ rfl rfl B1.out rfl (by kernel_rfl) (by first | rfl | kernel_rfl) ?_; rintro W b f; have BW := Lib.hid b; have FW := Lib.hid f; clear b f)
          exact bodyPost_ret (results_two Tryz.results7 _ W g 28 _ _ rfl BW.out Tryz.underlying28 rfl (by kernel_rfl)) rfl ⟨by unfold pnew; rw [okS_ok HBu.out HBs.out (by omega) (by omega)]; rfl, F2.out.trans FW.out (fun k hk e => by have := HG.out; omega)⟩

set_option maxRecDepth 100000 in
set_option maxHeartbeats 1000000 in
theorem qNew_c (w : World) (u s : List UInt8) (m : Nat) (hu : u.length ≤ 140737488355328) (hs : s.length ≤ 140737488355328) (hm : m < 18446744073709551616) :
    Calls Tryz.prog 10 #[.string (strOf u), .string (strOf s), .int .u64 (m : Nat)] w fun e w' => e = .returned (qnew u s m) ∧ Fr (fun _ => False) w w' := by
  obtain ⟨bu, hbu⟩ : ∃ b, okN u = b := ⟨_, rfl⟩
  obtain ⟨bs, hbs⟩ : ∃ b, okN s = b := ⟨_, rfl⟩
  have HBu := Lib.hid hbu
  have HBs := Lib.hid hbs
  clear hbu hbs
  have Hu := Lib.hid hu
  have Hs := Lib.hid hs
  clear hu hs
  go_enter Tryz.func10, Tryz.ntmps10
  go_wp2_with fail
  obtain ⟨g, hg⟩ : ∃ g, w.heap.size = g := ⟨_, rfl⟩
  have HG := Lib.hid hg
  rw [hg]
  clear hg
  refine (mayName_c _ u Hu.out).mono ?_
  rintro e w1 ⟨rfl, f1⟩
  rw [HBu.out]
  have F1 : Hid (Fr (fun _ => False) w w1) := ((Fr.refl _ w).alloc _).trans f1 (fun _ _ h => h)
  have B1 := Lib.hid ((Blk.new w 34 _).fr f1 (fun h => h))
  rw [HG.out] at B1
  clear f1
  cases bu with
  | false =>
    go_wp2_with (refine wpList_store_blk rfl 34 _ _ rfl g _ rfl rfl B1.out rfl (by kernel_rfl) (by first | rfl | kernel_rfl) ?_; rintro W b f; have BW := Lib.hid b; have FW := Lib.hid f; clear b f)
    exact bodyPost_ret (results_two Tryz.results10 _ W g 34 _ _ rfl BW.out Tryz.underlying34 rfl (by kernel_rfl)) rfl ⟨by unfold qnew; rw [okS_u HBu.out]; rfl, F1.out.trans FW.out (fun k hk e => by have := HG.out; omega)⟩
  | true =>
    go_wp2_with fail
    refine (mayName_c _ s Hs.out).mono ?_
    rintro e w2 ⟨rfl, f2⟩
    rw [HBs.out]
    have F2 : Hid (Fr (fun _ => False) w w2) := F1.out.trans f2 (fun _ _ h => h)
    have B2 := Lib.hid (B1.out.fr f2 (fun h => h))
    clear f2 F1 B1
    have B1 := B2
    clear B2
    cases bs with
    | false =>
      go_wp2_with (refine wpList_store_blk rfl 34 _ _ rfl g _ rfl rfl B1.out rfl (by kernel_rfl) (by first | rfl | kernel_rfl) ?_; rintro W b f; have BW := Lib.hid b; have FW := Lib.hid f; clear b f)
      exact bodyPost_ret (results_two Tryz.results10 _ W g 34 _ _ rfl BW.out Tryz.underlying34 rfl (by kernel_rfl)) rfl ⟨by unfold qnew; rw [okS_s HBs.out]; rfl, F2.out.trans FW.out (fun k hk e => by have := HG.out; omega)⟩
    | true =>
      by_cases h1 : m < 1
      · have d1 : decide ((m : Int) < 1) = true := decide_eq_true (by omega)
        have d2 : decide (m < 1) = true := decide_eq_true h1
        go_wp2_with (refine wpList_store_blk rfl 34 _ _ rfl g _ rfl rfl B1.out rfl (by kernel_rfl) (by first | rfl | kernel_rfl) ?_; rintro W b f; have BW := Lib.hid b; have FW := Lib.hid f; clear b f)
        exact bodyPost_ret (results_two Tryz.results10 _ W g 34 _ _ rfl BW.out Tryz.underlying34 rfl (by kernel_rfl)) rfl ⟨by unfold qnew; rw [okS_lo h1]; rfl, F2.out.trans FW.out (fun k hk e => by have := HG.out; omega)⟩
      · have d1 : decide ((m : Int) < 1) = false := decide_eq_false (by omega)
        have d2 : decide (m < 1) = false := decide_eq_false h1
        by_cases h3 : 4611686018427387903 < m
        · have d3 : decide (4611686018427387903 < (m : Int)) = true := decide_eq_true (by omega)
          have d4 : decide (4611686018427387903 < m) = true := decide_eq_true h3
          go_wp2_with (refine wpList_store_blk rfl 34 _ _ rfl g _ rfl rfl B1.out rfl (by kernel_rfl) (by first | rfl | kernel_rfl) ?_; rintro W b f; have BW := Lib.hid b; have FW := Lib.hid f; clear b f)
          exact bodyPost_ret (results_two Tryz.results10 _ W g 34 _ _ rfl BW.out Tryz.underlying34 rfl (by kernel_rfl)) rfl ⟨by unfold qnew; rw [okS_hi h3]; rfl, F2.out.trans FW.out (fun k hk e => by have := HG.out; omega)⟩
        · have d3 : decide (4611686018427387903 < (m : Int)) = false := decide_eq_false (by omega)
          have d4 : decide (4611686018427387903 < m) = false := decide_eq_false h3
          go_wp2_with (refine wpList_store_blk rfl 34 _ _ rfl g _ rfl rfl B1.out rfl (by kernel_rfl) (by first | rfl | kernel_rfl) ?_; rintro W b f; have BW := Lib.hid b; have FW := Lib.hid f; clear b f)
          exact bodyPost_ret (results_two Tryz.results10 _ W g 34 _ _ rfl BW.out Tryz.underlying34 rfl (by kernel_rfl)) rfl ⟨by unfold qnew; rw [okS_ok HBu.out HBs.out (by omega) (by omega)]; rfl, F2.out.trans FW.out (fun k hk e => by have := HG.out; omega)⟩

set_option maxRecDepth 100000 in
set_option maxHeartbeats 1000000 in
theorem sNew_c (w : World) (u s : List UInt8) (m : Nat) (hu : u.length ≤ 140737488355328) (hs : s.length ≤ 140737488355328) (hm : m < 18446744073709551616) :
    Calls Tryz.prog 11 #[.string (strOf u), .string (strOf s), .int .u64 (m : Nat)] w fun e w' => e = .returned (qnew u s m) ∧ Fr (fun _ => False) w w' := by
  obtain ⟨bu, hbu⟩ : ∃ b, okN u = b := ⟨_, rfl⟩
  obtain ⟨bs, hbs⟩ : ∃ b, okN s = b := ⟨_, rfl⟩
  have HBu := Lib.hid hbu
  have HBs := Lib.hid hbs
  clear hbu hbs
  have Hu := Lib.hid hu
  have Hs := Lib.hid hs
  clear hu hs
  go_enter Tryz.func11, Tryz.ntmps11
  go_wp2_with fail
  obtain ⟨g, hg⟩ : ∃ g, w.heap.size = g := ⟨_, rfl⟩
  have HG := Lib.hid hg
  rw [hg]
  clear hg
  refine (rMayName_c _ u Hu.out).mono ?_
  rintro e w1 ⟨rfl, f1⟩
  rw [HBu.out]
  have F1 : Hid (Fr (fun _ => False) w w1) := ((Fr.refl _ w).alloc _).trans f1 (fun _ _ h => h)
  have B1 := Lib.hid ((Blk.new w 34 _).fr f1 (fun h => h))
  rw [HG.out] at B1
  clear f1
  cases bu with
  | false =>
    go_wp2_with (refine wpList_store_blk rfl 34 _ _ rfl g _ rfl rfl B1.out rfl (by kernel_rfl) (by first | rfl | kernel_rfl) ?_; rintro W b f; have BW := Lib.hid b; have FW := Lib.hid f; clear b f)
    exact bodyPost_ret (results_two Tryz.results11 _ W g 34 _ _ rfl BW.out Tryz.underlying34 rfl (by kernel_rfl)) rfl ⟨by unfold qnew; rw [okS_u HBu.out]; rfl, F1.out.trans FW.out (fun k hk e => by have := HG.out; omega)⟩
  | true =>
    go_wp2_with fail
    refine (rMayName_c _ s Hs.out).mono ?_
    rintro e w2 ⟨rfl, f2⟩
    rw [HBs.out]
    have F2 : Hid (Fr (fun _ => False) w w2) := F1.out.trans f2 (fun _ _ h => h)
    have B2 := Lib.hid (B1.out.fr f2 (fun h => h))
    clear f2 F1 B1
    have B1 := B2
    clear B2
    cases bs with
    | false =>
      go_wp2_with (refine wpList_store_blk rfl 34 _ _ rfl g _ rfl rfl B1.out rfl (by kernel_rfl) (by first | rfl | kernel_rfl) ?_; rintro W b f; have BW := Lib.hid b; have FW := Lib.hid f; clear b f)
      exact bodyPost_ret (results_two Tryz.results11 _ W g 34 _ _ rfl BW.out Tryz.underlying34 rfl (by kernel_rfl)) rfl ⟨by unfold qnew; rw [okS_s HBs.out]; rfl, F2.out.trans FW.out (fun k hk e => by have := HG.out; omega)⟩
    | true =>
      by_cases h1 : m < 1
      · have d1 : decide ((m : Int) < 1) = true := decide_eq_true (by omega)
        have d2 : decide (m < 1) = true := decide_eq_true h1
        go_wp2_with (refine wpList_store_blk rfl 34 _ _ rfl g _ rfl rfl B1.out rfl (by kernel_rfl) (by first | rfl | kernel_rfl) ?_; rintro W b f; have BW := Lib.hid b; have FW := Lib.hid f; clear b f)
        exact bodyPost_ret (results_two Tryz.results11 _ W g 34 _ _ rfl BW.out Tryz.underlying34 rfl (by kernel_rfl)) rfl ⟨by unfold qnew; rw [okS_lo h1]; rfl, F2.out.trans FW.out (fun k hk e => by have := HG.out; omega)⟩
      · have d1 : decide ((m : Int) < 1) = false := decide_eq_false (by omega)
        have d2 : decide (m < 1) = false := decide_eq_false h1
        by_cases h3 : 4611686018427387903 < m
        · have d3 : decide (4611686018427387903 < (m : Int)) = true := decide_eq_true (by omega)
          have d4 : decide (4611686018427387903 < m) = true := decide_eq_true h3
          go_wp2_with (refine wpList_store_blk rfl 34 _ _ rfl g _ rfl rfl B1.out rfl (by kernel_rfl) (by first | rfl | kernel_rfl) ?_; rintro W b f; have BW := Lib.hid b; have FW := Lib.hid f; clear b f)
          exact bodyPost_ret (results_two Tryz.results11 _ W g 34 _ _ rfl BW.out Tryz.underlying34 rfl (by kernel_rfl)) rfl ⟨by unfold qnew; rw [okS_hi h3]; rfl, F2.out.trans FW.out (fun k hk e => by have := HG.out; omega)⟩
        · have d3 : decide (4611686018427387903 < (m : Int)) = false := decide_eq_false (by omega)
          have d4 : decide (4611686018427387903 < m) = false := decide_eq_false h3
          go_wp2_with (refine wpList_store_blk rfl 34 _ _ rfl g _ rfl rfl B1.out rfl (by kernel_rfl) (by first | rfl | kernel_rfl) ?_; rintro W b f; have BW := Lib.hid b; have FW := Lib.hid f; clear b f)
          exact bodyPost_ret (results_two Tryz.results11 _ W g 34 _ _ rfl BW.out Tryz.underlying34 rfl (by kernel_rfl)) rfl ⟨by unfold qnew; rw [okS_ok HBu.out HBs.out (by omega) (by omega)]; rfl, F2.out.trans FW.out (fun k hk e => by have := HG.out; omega)⟩

end Go.Proofs.YtaenibbhpidjcaaGreatDoor
