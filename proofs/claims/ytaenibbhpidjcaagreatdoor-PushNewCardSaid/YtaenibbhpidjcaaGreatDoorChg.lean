/-
  CONTRACT of doc.Changes at the empty state.
-/
import Derived.Test.YtaenibbhpidjcaaGreatDoorAbv
import Derived.Test.YtaenibbhpidjcaaGreatDoorRange
import Derived.TacticsInMore
import Derived.LoopNIn
import Derived.LoopIn
import Derived.Shelf.Abstract
namespace Go.Proofs.YtaenibbhpidjcaaGreatDoor
set_option linter.unusedSimpArgs false
set_option linter.unusedVariables false
open Go Go.RowKit

set_option maxRecDepth 100000 in
set_option maxHeartbeats 1000000 in
theorem valDo1_nil (w : World) (f : Value) (b : Nat) (hB : Blk w b 56 #[.slice none 0 0]) : Calls Tryz.prog 150 #[f, .pointer (some ⟨b, 0, none⟩)] w fun e w' => e = .returned (.tuple #[]) ∧ w' = w := by
  have c0 : w.cell? ⟨b, 0, none⟩ = some (.slice none 0 0) := hB.cell 0
  clear hB
  go_enter Tryz.func150, Tryz.ntmps150
  go_wp2_with fail
  go_loopw [7] (fun u wr => u = .int .i64 0 ∧ wr = w) (fun _ _ => 0)
  case atStart => exact ⟨rfl, rfl⟩
  case round =>
    obtain ⟨rfl, rfl⟩ := hrel
    go_wp2_with fail
    go_end0
    exact ⟨rfl, rfl⟩
set_option maxRecDepth 100000 in
set_option maxHeartbeats 2000000 in
theorem changes_nil (w : World) : Calls Tryz.prog 74 #[.agg #[.int .u64 0, .slice none 0 0, .slice none 0 0, .slice none 0 0], .int .u64 0, .int .i64 8] w fun e w' => e = .returned (.slice none 0 0) ∧ Fr (fun _ => False) w w' := by
  refine (callsIn_wide (n := 9)).1 ?_
  refine callsIn_of_wp_marks Tryz.func74 rfl trivial ?_ rfl
  simp only [Tryz.ntmps74, List.size_toArray, List.length_cons, List.length_nil, Nat.reduceAdd, Nat.reduceSub, Array.replicate_succ, Array.replicate_zero, List.push_toArray, List.append_toArray, List.nil_append, List.cons_append]
  gi_wp2_with fail
  refine ⟨trivial, ?_⟩
  refine (callsIn_wide.2 (mayState_nil _)).mono ?_
  rintro e w1 ⟨rfl, f1⟩
  have B1 := keepB ((Blk.new w 59 #[.int .u64 0, .slice none 0 0, .slice none 0 0, .slice none 0 0]).alloc (.cells #[.int .i64 8] 3)) f1
  have F1 : Hid (Fr (fun _ => False) w w1) := (((Fr.refl _ w).alloc _).alloc _).trans f1 (fun _ _ h => h)
  have hlt := B1.lt
  have c0 : w1.cell? ⟨w.heap.size, 0, none⟩ = some (.int .u64 0) := B1.cell 0
  have c1 : w1.cell? ⟨w.heap.size, 1, none⟩ = some (.slice none 0 0) := B1.cell 1
  have c2 : w1.cell? ⟨w.heap.size, 2, none⟩ = some (.slice none 0 0) := B1.cell 2
  have c3 : w1.cell? ⟨w.heap.size, 3, none⟩ = some (.slice none 0 0) := B1.cell 3
  clear B1 f1
  gi_wp2_with fail
  refine ⟨trivial, ?_⟩
  refine (callsIn_wide.2 (above_nil _)).mono ?_
  rintro e w2 ⟨b, rfl, hb, f2⟩
  have V2 := Lib.hid hb
  have O2 := Lib.hid (keepB (Blk.new w1 24 #[.slice none 0 0]) f2)
  have F2 : Hid (Fr (fun _ => False) w w2) := (F1.out.alloc _).trans f2 (fun _ _ h => h)
  clear f2 hb c0 c1 c2 c3 hlt F1
  obtain ⟨ob, hob⟩ : ∃ a, w1.heap.size = a := ⟨_, rfl⟩
  rw [hob] at O2 ⊢
  clear hob
  gi_wp2_with fail
  refine wpIn_range_joint (α := Unit) (gf := 150) (lb := #[.pointer (some ⟨b, 0, none⟩)]) rfl (enters_of Tryz.func150 (by kernel_rfl) rfl) (fun _ _ => #[undef]) (fun _ _ => rfl) (fun _ _ => False) (fun xs => xs = []) (fun _ => False) 0 (fun _ h => h.elim) (fun _ W => Fr (fun k => w2.heap.size ≤ k) w2 W) (fun _ A C h hf => h.trans hf (fun k _ hk => hk.1)) (Fr.refl _ w2) ?it ?round ?done
  case it =>
    intro W1 hs1 hf1
    intro J hJ _ h0
    refine (callsIn_wide.2 (valDo1_nil W1 _ b (keepB V2.out hf1))).mono ?_
    rintro e W' ⟨rfl, rfl⟩
    exact ⟨⟨_, rfl⟩, [], rfl, h0⟩
  case round => exact fun _ _ _ _ _ h => h.elim
  case done =>
    intro D xs W' hD hfin hi hd
    have O3 := O2.out.fr hi (by have := O2.out.lt; omega)
    have HF : Hid (Fr (fun _ => False) w W') := F2.out.trans hi (fun k hk e => by have := F2.out.size; have e' : w2.heap.size ≤ k := e; omega)
    have c0 : W'.cell? ⟨ob, 0, none⟩ = some (.slice none 0 0) := O3.cell 0
    have HD := Lib.hid hd
    have HDS : Hid (w.heap.size ≤ D) := by have := F2.out.size; show _ ≤ _; omega
    clear hi hd hfin hD O3
    gi_wp2_with fail
    trace_state
    refine ⟨by simp, .inl ⟨_, _, rfl, run_takeDeferred HD.out, ?_⟩⟩
    have fp : Fr (fun k => k = D) W' (W'.putObj D (.deferred none)) := (Fr.refl (fun k => k = D) W').putObj (fun _ => rfl) _
    refine ⟨.slice none 0 0, by simp [results, Tryz.results74, go_sem], rfl, HF.out.trans fp (fun i hi e => by have e' : i = D := e; have := HDS.out; omega)⟩
end Go.Proofs.YtaenibbhpidjcaaGreatDoor
