/-
  CONTRACTS of batch.Local: at one checkpoint, at none.
-/
import Derived.Test.YtaenibbhpidjcaaGreatDoorSt
import Derived.Test.YtaenibbhpidjcaaGreatDoorNm
import Derived.Deep.QuietTactic
import Derived.BigQuiet
namespace Go.Proofs.YtaenibbhpidjcaaGreatDoor
set_option linter.unusedSimpArgs false
set_option linter.unusedVariables false
open Go Go.RowKit

set_option maxRecDepth 100000 in
set_option maxHeartbeats 1000000 in
theorem index_nil (w : World) (f : Value) : Calls Tryz.prog 67 #[.slice none 0 0, f] w fun e w' => e = .returned (.int .i64 (-1)) ∧ w = w' := by
  go_enter Tryz.func67, Tryz.ntmps67
  go_wp2_with fail
  go_loopw [8] (fun u wr => u = .int .i64 0 ∧ w = wr) (fun _ _ => 0)
  case atStart => exact ⟨rfl, rfl⟩
  case round =>
    obtain ⟨rfl, rfl⟩ := hrel
    go_wp2_with fail
    go_ret
    exact ⟨rfl, rfl⟩
set_option maxRecDepth 100000 in
set_option maxHeartbeats 1000000 in
theorem local1_c (w : World) (b : Nat) (s : ByteArray) (n : Int) (hb : w.cell? ⟨b, 0, none⟩ = some (.string s)) (hlt : b < w.heap.size) :
    Calls Tryz.prog 68 #[.agg #[.string s, .int .u64 n], .pointer (some ⟨b, 0, none⟩)] w fun e w' => e = .returned (.bool true) ∧ Fr (fun _ => False) w w' := by
  have q1 : (s.toList == s.toList) = true := by simp
  go_enter Tryz.func68, Tryz.ntmps68
  go_wp2_with fail
  go_ret
  exact ⟨rfl, (Fr.refl _ w).alloc _⟩
set_option maxRecDepth 100000 in
set_option maxHeartbeats 1000000 in
theorem index_one (w : World) (L b : Nat) (s : ByteArray) (n : Int) (h0 : w.cell? ⟨L, 0, none⟩ = some (.string s)) (h1 : w.cell? ⟨L, 1, none⟩ = some (.int .u64 n)) (hb : w.cell? ⟨b, 0, none⟩ = some (.string s)) (hlt : b < w.heap.size) :
    Calls Tryz.prog 67 #[.slice (some ⟨L, 0, none⟩) 1 1, .func (.func 68) #[] #[.pointer (some ⟨b, 0, none⟩)]] w fun e w' => e = .returned (.int .i64 0) ∧ Fr (fun _ => False) w w' := by
  go_enter Tryz.func67, Tryz.ntmps67
  go_wp2_with fail
  go_loopw [8] (fun u wr => u = .int .i64 0 ∧ w = wr) (fun _ _ => 0)
  case atStart => exact ⟨rfl, rfl⟩
  case round =>
    obtain ⟨rfl, rfl⟩ := hrel
    go_wp2_with fail
    refine (local1_c _ b s n hb hlt).mono ?_
    rintro e w1 ⟨rfl, f1⟩
    go_wp2_with fail
    go_ret
    exact ⟨rfl, f1⟩
set_option maxRecDepth 100000 in
set_option maxHeartbeats 1000000 in
theorem local_nil (w : World) (seq : Int) (s : ByteArray) :
    Calls Tryz.prog 54 #[.agg #[.int .u64 seq, .slice none 0 0, .slice none 0 0, .slice none 0 0], .string s] w fun e w' => e = .returned (.int .u64 0) ∧ Fr (fun _ => False) w w' := by
  go_enter Tryz.func54, Tryz.ntmps54
  go_wp2_with fail
  refine (index_nil _ _).mono ?_
  rintro e w1 ⟨rfl, rfl⟩
  go_wp2_with fail
  go_ret
  exact ⟨rfl, ((Fr.refl _ w).alloc _).alloc _⟩
set_option maxRecDepth 100000 in
set_option maxHeartbeats 1000000 in
theorem local_one (w : World) (seq : Int) (s : ByteArray) (L : Nat) (n : Int) (hL : Blk w L 54 #[.string s, .int .u64 n]) :
    Calls Tryz.prog 54 #[.agg #[.int .u64 seq, .slice none 0 0, .slice (some ⟨L, 0, none⟩) 1 1, .slice none 0 0], .string s] w fun e w' => e = .returned (.int .u64 n) ∧ Fr (fun _ => False) w w' := by
  have HL := Lib.hid hL
  clear hL
  go_enter Tryz.func54, Tryz.ntmps54
  go_wp2_with fail
  have b1 := (HL.out.alloc (.cells #[.int .u64 seq, .slice none 0 0, .slice (some ⟨L, 0, none⟩) 1 1, .slice none 0 0] 59)).alloc (.cells #[.string s] 9)
  have b2 := Blk.new1 w (.cells #[.int .u64 seq, .slice none 0 0, .slice (some ⟨L, 0, none⟩) 1 1, .slice none 0 0] 59) 9 #[.string s]
  have b3 := (Blk.new w 59 #[.int .u64 seq, .slice none 0 0, .slice (some ⟨L, 0, none⟩) 1 1, .slice none 0 0]).alloc (.cells #[.string s] 9)
  refine (index_one _ L (w.heap.size + 1) s n (b1.cell 0) (b1.cell 1) (b2.cell 0) b2.lt).mono ?_
  rintro e w1 ⟨rfl, f1⟩
  have k1 := keepB b1 f1
  have k3 := keepB b3 f1
  have x1 : w1.cell? ⟨L, 1, none⟩ = some (.int .u64 n) := k1.cell 1
  have x2 : w1.cell? ⟨w.heap.size, 2, none⟩ = some (.slice (some ⟨L, 0, none⟩) 1 1) := k3.cell 2
  have FF : Hid (Fr (fun _ => False) w w1) := (((Fr.refl _ w).alloc _).alloc _).trans f1 (fun _ _ h => h)
  clear k1 k3 b1 b2 b3 f1
  go_wp2_with fail
  go_ret
  exact ⟨rfl, FF.out⟩
end Go.Proofs.YtaenibbhpidjcaaGreatDoor
