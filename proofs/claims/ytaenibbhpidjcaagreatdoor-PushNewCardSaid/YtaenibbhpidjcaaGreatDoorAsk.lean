/-
  CONTRACTS of pull's ask, at two phases, and of changed.
-/
import Derived.Test.YtaenibbhpidjcaaGreatDoorSend
namespace Go.Proofs.YtaenibbhpidjcaaGreatDoor
set_option linter.unusedSimpArgs false
set_option linter.unusedVariables false
open Go Go.RowKit

set_option maxRecDepth 100000 in
set_option maxHeartbeats 1000000 in
theorem ask1_c (w : World) (x : Nat) (u s : ByteArray) (inc ph since life to_ asked done why now seq : Int) (LA : Option Addr) (ln lc : Nat) (hB : Blk w x 75 #[.string u, .string s, .int .u64 inc, .int .u64 0, .int .i64 ph, .int .u64 since, .int .u64 life, .int .u64 to_, .slice none 0 0, .slice none 0 0, .int .u64 asked, .int .i64 done, .int .i64 why, .int .u64 now, .int .u64 seq, .slice none 0 0, .slice LA ln lc, .slice none 0 0, .slice none 0 0, .slice none 0 0]) :
    Calls Tryz.prog 22 #[.pointer (some ⟨x, 0, none⟩), .int .i64 1] w fun e w' => e = .returned (.tuple #[]) ∧ ∃ q c, Blk w' x 75 #[.string u, .string s, .int .u64 inc, .int .u64 1, .int .i64 1, .int .u64 since, .int .u64 life, .int .u64 to_, .slice none 0 0, .slice none 0 0, .int .u64 now, .int .i64 done, .int .i64 why, .int .u64 now, .int .u64 seq, .slice none 0 0, .slice LA ln lc, .slice none 0 0, .slice none 0 0, .slice (some ⟨q, 0, none⟩) 1 c] ∧ Rd w' (some ⟨q, 0, none⟩) 37 ((askA u 0 inc 1 1 s 0 0 0 0)).toList ∧ w.heap.size ≤ q ∧ Fr (fun k => k = x) w w' := by
  have HB := Lib.hid hB
  have c3 : w.cell? ⟨x, 3, none⟩ = some (.int .u64 0) := hB.cell 3
  have c4 : w.cell? ⟨x, 4, none⟩ = some (.int .i64 ph) := hB.cell 4
  have r3 := hB.frozen 3
  have r4 := hB.frozen 4
  clear hB
  go_enter Tryz.func22, Tryz.ntmps22
  go_wp2_with fail
  clear c3 c4 r3 r4
  have B1 : Hid (Blk ((w.setCell ⟨x, 4, none⟩ (.int .i64 1)).setCell ⟨x, 3, none⟩ (.int .u64 1)) x 75 #[.string u, .string s, .int .u64 inc, .int .u64 1, .int .i64 1, .int .u64 since, .int .u64 life, .int .u64 to_, .slice none 0 0, .slice none 0 0, .int .u64 asked, .int .i64 done, .int .i64 why, .int .u64 now, .int .u64 seq, .slice none 0 0, .slice LA ln lc, .slice none 0 0, .slice none 0 0, .slice none 0 0]) := (HB.out.set_ 4 (.int .i64 1)).set_ 3 (.int .u64 1)
  have F1 : Hid (Fr (fun k => k = x) w ((w.setCell ⟨x, 4, none⟩ (.int .i64 1)).setCell ⟨x, 3, none⟩ (.int .u64 1))) := ((Fr.refl (fun k => k = x) w).setCell (p := ⟨x, 4, none⟩) (fun _ => rfl) _).setCell (p := ⟨x, 3, none⟩) (fun _ => rfl) _
  refine (send_c _ x u s inc 1 1 since life to_ asked done why now seq LA ln lc s 0 0 B1.out (fun W hW => quest1_c W x u s inc 1 since life to_ now done why now seq LA ln lc hW)).mono ?_
  rintro e w2 ⟨rfl, q, c, b2, r2, l2, f2⟩
  have B2 := Lib.hid b2
  have R2 := Lib.hid r2
  have F2 : Hid (Fr (fun k => k = x) w w2) := F1.out.trans f2 (fun _ _ h => h)
  have L2 : Hid (w.heap.size ≤ q) := Nat.le_trans F1.out.size l2
  clear b2 r2 l2 f2 HB F1 B1
  go_wp2_with fail
  go_end0
  exact ⟨rfl, q, c, B2.out, R2.out, L2.out, F2.out⟩

set_option maxRecDepth 100000 in
set_option maxHeartbeats 1000000 in
theorem ask2_c (w : World) (x : Nat) (u s : ByteArray) (inc ph since life to_ asked done why now seq : Int) (LA : Option Addr) (ln lc : Nat) (hB : Blk w x 75 #[.string u, .string s, .int .u64 inc, .int .u64 1, .int .i64 ph, .int .u64 since, .int .u64 life, .int .u64 to_, .slice none 0 0, .slice none 0 0, .int .u64 asked, .int .i64 done, .int .i64 why, .int .u64 now, .int .u64 seq, .slice none 0 0, .slice LA ln lc, .slice none 0 0, .slice none 0 0, .slice none 0 0]) :
    Calls Tryz.prog 22 #[.pointer (some ⟨x, 0, none⟩), .int .i64 2] w fun e w' => e = .returned (.tuple #[]) ∧ ∃ q c, Blk w' x 75 #[.string u, .string s, .int .u64 inc, .int .u64 2, .int .i64 2, .int .u64 since, .int .u64 life, .int .u64 to_, .slice none 0 0, .slice none 0 0, .int .u64 now, .int .i64 done, .int .i64 why, .int .u64 now, .int .u64 seq, .slice none 0 0, .slice LA ln lc, .slice none 0 0, .slice none 0 0, .slice (some ⟨q, 0, none⟩) 1 c] ∧ Rd w' (some ⟨q, 0, none⟩) 37 ((askA u 0 inc 2 2 ⟨#[]⟩ since 8 0 0)).toList ∧ w.heap.size ≤ q ∧ Fr (fun k => k = x) w w' := by
  have HB := Lib.hid hB
  have c3 : w.cell? ⟨x, 3, none⟩ = some (.int .u64 1) := hB.cell 3
  have c4 : w.cell? ⟨x, 4, none⟩ = some (.int .i64 ph) := hB.cell 4
  have r3 := hB.frozen 3
  have r4 := hB.frozen 4
  clear hB
  go_enter Tryz.func22, Tryz.ntmps22
  go_wp2_with fail
  clear c3 c4 r3 r4
  have B1 : Hid (Blk ((w.setCell ⟨x, 4, none⟩ (.int .i64 2)).setCell ⟨x, 3, none⟩ (.int .u64 2)) x 75 #[.string u, .string s, .int .u64 inc, .int .u64 2, .int .i64 2, .int .u64 since, .int .u64 life, .int .u64 to_, .slice none 0 0, .slice none 0 0, .int .u64 asked, .int .i64 done, .int .i64 why, .int .u64 now, .int .u64 seq, .slice none 0 0, .slice LA ln lc, .slice none 0 0, .slice none 0 0, .slice none 0 0]) := (HB.out.set_ 4 (.int .i64 2)).set_ 3 (.int .u64 2)
  have F1 : Hid (Fr (fun k => k = x) w ((w.setCell ⟨x, 4, none⟩ (.int .i64 2)).setCell ⟨x, 3, none⟩ (.int .u64 2))) := ((Fr.refl (fun k => k = x) w).setCell (p := ⟨x, 4, none⟩) (fun _ => rfl) _).setCell (p := ⟨x, 3, none⟩) (fun _ => rfl) _
  refine (send_c _ x u s inc 2 2 since life to_ asked done why now seq LA ln lc ⟨#[]⟩ since 8 B1.out (fun W hW => quest2_c W x u s inc 2 since life to_ now done why now seq LA ln lc hW)).mono ?_
  rintro e w2 ⟨rfl, q, c, b2, r2, l2, f2⟩
  have B2 := Lib.hid b2
  have R2 := Lib.hid r2
  have F2 : Hid (Fr (fun k => k = x) w w2) := F1.out.trans f2 (fun _ _ h => h)
  have L2 : Hid (w.heap.size ≤ q) := Nat.le_trans F1.out.size l2
  clear b2 r2 l2 f2 HB F1 B1
  go_wp2_with fail
  go_end0
  exact ⟨rfl, q, c, B2.out, R2.out, L2.out, F2.out⟩

set_option maxRecDepth 100000 in
set_option maxHeartbeats 1000000 in
theorem changed_c (w : World) (x : Nat) (u s : ByteArray) (inc ph since life to_ asked done why now seq : Int) (LA : Option Addr) (ln lc : Nat) (n : Int) (hB : Blk w x 75 #[.string u, .string s, .int .u64 inc, .int .u64 n, .int .i64 ph, .int .u64 since, .int .u64 life, .int .u64 to_, .slice none 0 0, .slice none 0 0, .int .u64 asked, .int .i64 done, .int .i64 why, .int .u64 now, .int .u64 seq, .slice none 0 0, .slice LA ln lc, .slice none 0 0, .slice none 0 0, .slice none 0 0]) :
    Calls Tryz.prog 37 #[.pointer (some ⟨x, 0, none⟩), .agg #[.int .i64 0, .int .u64 1, .int .u64 2, .int .i64 2, .int .i64 0, .int .u64 0, .int .u64 0, .slice none 0 0, .slice none 0 0, .string ⟨#[]⟩, .slice none 0 0, .int .i64 0, .int .i64 0, .int .i64 0, .string ⟨#[]⟩, .slice none 0 0, .slice none 0 0, .int .i64 0]] w fun e w' => e = .returned (.tuple #[]) ∧ Blk w' x 75 #[.string u, .string s, .int .u64 inc, .int .u64 n, .int .i64 0, .int .u64 since, .int .u64 life, .int .u64 to_, .slice none 0 0, .slice none 0 0, .int .u64 asked, .int .i64 1, .int .i64 why, .int .u64 now, .int .u64 seq, .slice none 0 0, .slice LA ln lc, .slice none 0 0, .slice none 0 0, .slice none 0 0] ∧ Fr (fun k => k = x) w w' := by
  have HB := Lib.hid hB
  have c11 : w.cell? ⟨x, 11, none⟩ = some (.int .i64 done) := hB.cell 11
  have c4 : w.cell? ⟨x, 4, none⟩ = some (.int .i64 ph) := hB.cell 4
  have r11 := hB.frozen 11
  have r4 := hB.frozen 4
  have hlt := hB.lt
  clear hB
  go_enter Tryz.func37, Tryz.ntmps37
  go_wp2_with fail
  refine bodyPost_ret (v := .tuple #[]) ?_ rfl ?_
  · simp [results, Tryz.results37]
  · exact ⟨rfl, ((HB.out.set_ 4 (.int .i64 0)).set_ 11 (.int .i64 1)).alloc _, (((Fr.refl (fun k => k = x) w).setCell (p := ⟨x, 4, none⟩) (fun _ => rfl) _).setCell (p := ⟨x, 11, none⟩) (fun _ => rfl) _).alloc _⟩

end Go.Proofs.YtaenibbhpidjcaaGreatDoor
