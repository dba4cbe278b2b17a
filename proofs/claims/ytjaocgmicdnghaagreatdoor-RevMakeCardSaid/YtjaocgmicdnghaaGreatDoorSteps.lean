/-
  THE ITERATOR digest's steps: what it hands to whatever loop.
-/
import Derived.Test.YtjaocgmicdnghaaGreatDoorRot
import Derived.Test.YtjaocgmicdnghaaGreatDoorRange
import Derived.Shelf.Abstract
import Derived.Shelf.RegionOpen
import Derived.OwnWalkIn
import Derived.TacticsInMore
import Derived.LoopNIn
import Derived.LoopIn
namespace Go.Proofs.YtjaocgmicdnghaaGreatDoor
set_option linter.unusedSimpArgs false
set_option linter.unusedVariables false
open Go Go.RowKit Go.Shelf
attribute [local go_sem] Oper.semAt_some

/-- The row of a stirring, its first r elements. -/
def qv (i r : Nat) : Array Value := ((List.range 4).map fun k => Value.int .i64 ((if k < r then qd i k else 0 : Nat) : Int)).toArray
theorem qv_zero (i : Nat) : qv i 0 = #[.int .i64 0, .int .i64 0, .int .i64 0, .int .i64 0] := rfl
theorem qv_all (i : Nat) : qv i 4 = #[.int .i64 (qd i 0 : Nat), .int .i64 (qd i 1 : Nat), .int .i64 (qd i 2 : Nat), .int .i64 (qd i 3 : Nat)] := rfl
theorem qv_set (i r : Nat) (h : r < 4) : (qv i r).setIfInBounds r (.int .i64 (qd i r : Nat)) = qv i (r + 1) := by
  have hr : r = 0 ∨ r = 1 ∨ r = 2 ∨ r = 3 := by omega
  rcases hr with rfl | rfl | rfl | rfl <;> rfl
theorem qd_lt (i r : Nat) (h : r < 4) : qd i r < 16 := by unfold qd; omega

/-- What is handed over. -/
def qargs (i : Nat) : Array Value := #[.int .i64 (i : Int), .agg #[.int .i64 (qd i 0 : Nat), .int .i64 (qd i 1 : Nat), .int .i64 (qd i 2 : Nat), .int .i64 (qd i 3 : Nat)]]

set_option maxRecDepth 100000 in
set_option maxHeartbeats 4000000 in
theorem steps_c (n : Nat) (hn : 1 ≤ n) (l : Nat) (J : List Nat → World → Prop) (W : World)
    (hJ : ∀ pre A C, J pre A → Fr (fun _ => False) A C → J pre C)
    (hY : ∀ pre i W1, J pre W1 → pre.length = i → i < 8 → YieldAt Fence.wide (n - 1) Tryz.prog l (qargs i) W1 fun e W' => e = .returned (.bool true) ∧ J (pre ++ [i]) W')
    (hJ0 : J [] W) :
    CallsIn Fence.wide n Tryz.prog 92 #[.func (.yield l) #[] #[]] W fun e W' => (∃ v, e = .returned v) ∧ ∃ xs : List Nat, xs.length = 8 ∧ J xs W' := by
  have HY := Lib.hid hY
  have HJ := Lib.hid hJ
  have J0 := Lib.hid hJ0
  clear hY hJ hJ0
  refine callsIn_of_wp Tryz.func92 rfl trivial ?_ rfl
  simp only [Tryz.ntmps92, List.size_toArray, List.length_cons, List.length_nil, Nat.reduceAdd, Nat.reduceSub, Array.replicate_succ, Array.replicate_zero, List.push_toArray, List.append_toArray, List.nil_append, List.cons_append]
  gi_wp2_with fail
  gi_loopw [6] (fun u wr => ∃ pre : List Nat, ∃ i : Nat, i ≤ 8 ∧ u = .int .i64 (i : Int) ∧ Hid (pre.length = i) ∧ Hid (J pre wr)) (fun u wr => 8 - (intOf u).toNat)
  case atStart => exact ⟨[], 0, by omega, rfl, rfl, J0.out⟩
  case round =>
    obtain ⟨pre, i, hi, rfl, hl, hj⟩ := hrel
    obtain ⟨wo, rfl⟩ : ∃ wo : World, wo = wr := ⟨_, rfl⟩
    by_cases h8 : i < 8
    · obtain ⟨L, hL⟩ : ∃ L, i / 4 = L := ⟨_, rfl⟩
      have hLI : (i : Int) / 4 = (L : Int) := by omega
      have hL2 : L = 0 ∨ L = 1 := by omega
      have hqd : ∀ r, qd i r = 4 * r + (i + L * r) % 4 := fun r => by unfold qd; rw [hL]
      have HQ := Lib.hid hqd
      have HL := Lib.hid hL
      have HL2 := Lib.hid hL2
      clear hqd hL hL2
      have h8' : decide ((i : Int) < 8) = true := decide_eq_true (by omega)
      gi_wp2_with fail
      clear h8'
      have B0 : Hid (Blk (wo.alloc (.cells #[.int .i64 0, .int .i64 0, .int .i64 0, .int .i64 0] 115)) wo.heap.size 115 (qv i 0)) := Blk.new wo _ _
      have F0 := Lib.hid ((Fr.refl (fun _ => False) wo).alloc (.cells #[.int .i64 0, .int .i64 0, .int .i64 0, .int .i64 0] 115))
      gi_loopw [12] (fun u wq => ∃ r : Nat, r ≤ 4 ∧ u = .int .i64 (r : Int) ∧ Hid (Blk wq wo.heap.size 115 (qv i r)) ∧ Hid (Fr (fun _ => False) wo wq)) (fun u wq => 4 - (intOf u).toNat)
      case atStart => exact ⟨0, by omega, rfl, B0.out, F0.out⟩
      case round =>
        obtain ⟨r, hr, rfl, hb, hf⟩ := hrel
        by_cases h4 : r < 4
        · have h4' : decide ((r : Int) < 4) = true := decide_eq_true (by omega)
          obtain ⟨M, hM⟩ : ∃ M, L * r = M := ⟨_, rfl⟩
          have hM4 : M ≤ 3 := by rcases HL2.out with rfl | rfl <;> omega
          have hMI : (L : Int) * (r : Int) = (M : Int) := by rw [← hM]; simp
          have hMw : IntKind.i64.wrap ((L : Int) * (r : Int)) = (M : Int) := by rw [hMI]; exact IntWalk.i64_in _ (by omega)
          have fr := hb.out.frozen r
          have cr : (qv i r)[r]? = some (.int .i64 0) := by
            have hr : r = 0 ∨ r = 1 ∨ r = 2 ∨ r = 3 := by omega
            rcases hr with rfl | rfl | rfl | rfl <;> rfl
          have x0 := (hb.out.cell r).trans cr
          have HM := Lib.hid hM
          clear hM cr
          gi_wp2_with fail
          have eq : (4 : Int) * (r : Int) + ((i : Int) + (M : Int)) % 4 = (qd i r : Nat) := by rw [HQ.out, HM.out]; omega
          rw [eq]
          have hs := hb.out.set_ r (.int .i64 (qd i r : Nat))
          rw [qv_set i r h4] at hs
          exact ⟨⟨r + 1, by omega, by go_num, hs, hf.out.setCell (p := ⟨wo.heap.size, r, none⟩) (fun h => absurd h (Nat.lt_irrefl _)) _⟩, by simp [intOf]; omega⟩
        · obtain rfl : r = 4 := by omega
          have x0 := hb.out.cell 0
          have x1 := hb.out.cell 1
          have x2 := hb.out.cell 2
          have x3 := hb.out.cell 3
          rw [qv_all] at x0 x1 x2 x3
          simp only [List.getElem?_toArray, List.getElem?_cons_zero, List.getElem?_cons_succ] at x0 x1 x2 x3
          have J1 := Lib.hid (HJ.out _ _ _ hj.out hf.out)
          obtain ⟨fn, tmps, assign, body, hy, hR⟩ := HY.out pre i _ J1.out hl.out h8
          unfold qargs at hy
          have hR := Lib.hid hR
          gi_wp2_with fail
          refine hR.out.mono ?_
          rintro e w6 ⟨rfl, j6⟩
          have J6 := Lib.hid j6
          clear j6 hy x0 x1 x2 x3
          gi_wp2_with fail
          exact ⟨⟨pre ++ [i], i + 1, by omega, by go_num, by show (pre ++ [i]).length = _; rw [List.length_append, hl.out]; rfl, J6.out⟩, by simp [intOf]; omega⟩
    · have h8' : decide ((i : Int) < 8) = false := by simp; omega
      obtain rfl : i = 8 := by omega
      gi_wp2_with fail
      go_end0
      exact ⟨⟨_, rfl⟩, pre, hl.out, hj.out⟩
end Go.Proofs.YtjaocgmicdnghaaGreatDoor
