/-
  CONTRACTS of find and At on a net that New made.
-/
import Derived.Test.YtpgklhbbjbdejaaPut
namespace Go.Proofs.Ytpgklhbbjbdejaa
set_option linter.unusedSimpArgs false
set_option linter.unusedVariables false
open Go Go.RowKit Go.Maps

abbrev zM : Value := .agg #[.int .i64 0, .int .i64 0, .slice none 0 0]
theorem zM_zero (W : World) : (zeroValue 51).run Try.prog W = .ok zM W := by kernel_rfl
theorem look_c {w : World} {mb n : Nat} {D : DataW Value} (hO : MapI w mb n D) (id : Nat) (hid : id < 18446744073709551616) {mv : Value} (b : Bool)
    (hv : D.atKey (.int .u64 (id : Nat)) (.held zM) = .held mv) (hb : Maps.has D (.int .u64 (id : Nat)) = b) :
    (Instr.lookup 42 (.map (some mb)) (.int .u64 (id : Nat)) true).run Try.prog w = .ok (.tuple #[mv, .bool b]) w := by
  obtain ⟨v, ps, h1, h2⟩ := World.ownsMap.look_ok hO K64 Try.underlying42 (zM_zero w) (zd := .held zM) (zp := []) rfl (key64 hid)
  rw [hv] at h2
  unfold RH at h2
  injection h2 with h2
  injection h2 with h2 _
  injection h2 with h2
  subst h2
  rw [← hb]
  exact h1

set_option maxRecDepth 100000 in
set_option maxHeartbeats 1000000 in
theorem find_yes (w : World) (g mb n : Nat) (reps last : Int) (lk : Nat → Int) (D : DataW Value) (id : Nat) (fv tv : Int) (A : Option Addr) (m c : Nat)
    (hB : Blk w g 46 (netC reps last (some mb) lk)) (hO : MapI w mb n D) (hid : id < 18446744073709551616)
    (hv : D.atKey (.int .u64 (id : Nat)) (.held zM) = .held (.agg #[.int .i64 fv, .int .i64 tv, .slice A m c])) (hh : Maps.has D (.int .u64 (id : Nat)) = true) :
    Calls Try.prog 33 #[.pointer (some ⟨g, 0, none⟩), .int .u64 (id : Nat)] w fun e w' => e = .returned (.tuple #[.agg #[.int .i64 fv, .int .i64 tv, .slice A m c], .int .i64 0]) ∧ Fr (fun _ => False) w w' := by
  have HB := Lib.hid hB
  have HO := Lib.hid hO
  have LK : Hid (∀ W, MapI W mb n D → (Instr.lookup 42 (.map (some mb)) (.int .u64 (id : Nat)) true).run Try.prog W = .ok (.tuple #[.agg #[.int .i64 fv, .int .i64 tv, .slice A m c], .bool true]) W) := fun W h => look_c h id hid true hv hh
  clear hB hO hv hh
  go_enter Try.func33, Try.ntmps33
  go_wp2_with fail
  refine abs_calls (fun W => Hid (Blk W g 46 (netC reps last (some mb) lk)) ∧ Hid (Blk W w.heap.size 51 #[.int .i64 0, .int .i64 0, .slice none 0 0]) ∧ Hid (MapI W mb n D) ∧ Hid (Fr (fun _ => False) w W)) ⟨HB.out.alloc _, Blk.new _ _ _, HO.out.fr ((Fr.refl (fun _ => False) w).alloc _) (fun h => h), (Fr.refl _ w).alloc _⟩ ?_
  rintro w1 ⟨B1, Z1, O1, F1⟩
  refine (made_yes w1 _ _ _ _ _ B1.out).mono ?_
  rintro e w2 ⟨rfl, hw⟩
  rw [hw]
  clear hw w2
  have c2 : w1.cell? ⟨g, 2, none⟩ = some (.map (some mb)) := B1.out.cell 2
  have hl := LK.out w1 O1.out
  go_wp2_with (refine wpList_store_blk rfl 51 _ _ rfl w.heap.size _ rfl rfl (Z1.out.alloc _) rfl tMsg_size (by first | rfl | kernel_rfl) ?_
               rintro W b f
               have BW := Lib.hid b
               have FW : Hid (Fr (fun _ => False) w W) := (F1.out.alloc _).trans f (fun k hk e => by have e' : k = w.heap.size := e; omega)
               clear b f)
  exact bodyPost_ret (results_two Try.results33 _ W w.heap.size 51 _ _ rfl BW.out Try.underlying51 rfl tMsg_size) rfl ⟨rfl, FW.out⟩

set_option maxRecDepth 100000 in
set_option maxHeartbeats 1000000 in
theorem find_none (w : World) (g mb n : Nat) (reps last : Int) (lk : Nat → Int) (D : DataW Value) (id : Nat)
    (hB : Blk w g 46 (netC reps last (some mb) lk)) (hO : MapI w mb n D) (hid : id < 18446744073709551616)
    (hv : D.atKey (.int .u64 (id : Nat)) (.held zM) = .held zM) (hh : Maps.has D (.int .u64 (id : Nat)) = false) :
    Calls Try.prog 33 #[.pointer (some ⟨g, 0, none⟩), .int .u64 (id : Nat)] w fun e w' => e = .returned (.tuple #[.agg #[.int .i64 0, .int .i64 0, .slice none 0 0], .int .i64 4]) ∧ Fr (fun _ => False) w w' := by
  have HB := Lib.hid hB
  have HO := Lib.hid hO
  have LK : Hid (∀ W, MapI W mb n D → (Instr.lookup 42 (.map (some mb)) (.int .u64 (id : Nat)) true).run Try.prog W = .ok (.tuple #[.agg #[.int .i64 0, .int .i64 0, .slice none 0 0], .bool false]) W) := fun W h => look_c h id hid false hv hh
  clear hB hO hv hh
  go_enter Try.func33, Try.ntmps33
  go_wp2_with fail
  refine abs_calls (fun W => Hid (Blk W g 46 (netC reps last (some mb) lk)) ∧ Hid (Blk W w.heap.size 51 #[.int .i64 0, .int .i64 0, .slice none 0 0]) ∧ Hid (MapI W mb n D) ∧ Hid (Fr (fun _ => False) w W)) ⟨HB.out.alloc _, Blk.new _ _ _, HO.out.fr ((Fr.refl (fun _ => False) w).alloc _) (fun h => h), (Fr.refl _ w).alloc _⟩ ?_
  rintro w1 ⟨B1, Z1, O1, F1⟩
  refine (made_yes w1 _ _ _ _ _ B1.out).mono ?_
  rintro e w2 ⟨rfl, hw⟩
  rw [hw]
  clear hw w2
  have c2 : w1.cell? ⟨g, 2, none⟩ = some (.map (some mb)) := B1.out.cell 2
  have hl := LK.out w1 O1.out
  go_wp2_with (refine wpList_store_blk rfl 51 _ _ rfl w.heap.size _ rfl rfl (Z1.out.alloc _) rfl tMsg_size (by first | rfl | kernel_rfl) ?_
               rintro W b f
               have BW := Lib.hid b
               have FW : Hid (Fr (fun _ => False) w W) := (F1.out.alloc _).trans f (fun k hk e => by have e' : k = w.heap.size := e; omega)
               clear b f)
  exact bodyPost_ret (results_two Try.results33 _ W w.heap.size 51 _ _ rfl BW.out Try.underlying51 rfl tMsg_size) rfl ⟨rfl, FW.out⟩

set_option maxRecDepth 100000 in
set_option maxHeartbeats 1000000 in
theorem at_of (w : World) (x id : Value) (fv tv e0 : Int) (A : Option Addr) (m c : Nat) (bs : List UInt8) (hr : Rd w A m (bv bs)) (hm : m ≤ 140737488355328)
    (hf : ∀ W, Fr (fun _ => False) w W → Calls Try.prog 33 #[x, id] W fun e w' => e = .returned (.tuple #[.agg #[.int .i64 fv, .int .i64 tv, .slice A m c], .int .i64 e0]) ∧ Fr (fun _ => False) W w') :
    Calls Try.prog 18 #[x, id] w fun e w' => ∃ v, e = .returned (.tuple #[.agg #[.int .i64 fv, .int .i64 tv, v], .int .i64 e0]) ∧ w'.ownsRow w.heap.size 5 1 v m (bv bs) ∧ Fr (fun _ => False) w w' := by
  have HR := Lib.hid hr
  have HF := Lib.hid hf
  clear hr hf
  go_enter Try.func18, Try.ntmps18
  go_wp2_with fail
  refine (HF.out _ ((Fr.refl _ w).alloc _)).mono ?_
  rintro e w1 ⟨rfl, f1⟩
  have Z1 := Lib.hid (keepB (Blk.new w 51 #[.int .i64 0, .int .i64 0, .slice none 0 0]) f1)
  have F1 : Hid (Fr (fun _ => False) w w1) := ((Fr.refl _ w).alloc _).trans f1 (fun _ _ h => h)
  clear f1
  go_wp2_with fail
  refine abs_calls (fun W => Hid (Blk W w.heap.size 51 #[.int .i64 0, .int .i64 0, .slice none 0 0]) ∧ Hid (Blk W w1.heap.size 51 #[.int .i64 fv, .int .i64 tv, .slice A m c]) ∧ Hid (Fr (fun _ => False) w W)) ⟨Z1.out.alloc _, Blk.new _ _ _, F1.out.alloc _⟩ ?_
  rintro w2 ⟨Z2, M2, F2⟩
  have HBX : Hid (w.heap.size < w1.heap.size) := Z1.out.lt
  obtain ⟨bx, hbx⟩ : ∃ b, w1.heap.size = b := ⟨_, rfl⟩
  rw [hbx] at M2 HBX ⊢
  clear hbx Z1 F1
  refine (clone_c w2 A m c bs (HR.out.far F2.out) hm).mono ?_
  rintro e w3 ⟨v, rfl, o3, f3⟩
  obtain ⟨A9, c9, rfl, h91, h92⟩ := own_slice o3
  have Z3 := Lib.hid (keepB Z2.out f3)
  have M3 := Lib.hid (keepB M2.out f3)
  have V3 := Lib.hid (own_base (base' := w.heap.size) o3 (fun k hk => by have := (World.ownsRow.lt o3 k hk).1; have := F2.out.size; omega))
  have VB : Hid (∀ k, (Value.slice A9 m c9).ownBlock = some k → w2.heap.size ≤ k) := fun k hk => (World.ownsRow.lt o3 k hk).1
  have F3 : Hid (Fr (fun _ => False) w w3) := F2.out.trans f3 (fun _ _ h => h)
  have HLT : Hid (w.heap.size < w2.heap.size ∧ bx < w2.heap.size) := ⟨Z2.out.lt, M2.out.lt⟩
  clear o3 f3 M2 Z2 F2
  have k2 : w3.cell? ⟨bx, 2, none⟩ = some (.slice A m c) := M3.out.cell 2
  have z2 := M3.out.frozen 2
  go_wp2_with (first
    | (refine wpList_load_all rfl 51 _ rfl bx rfl (M3.out.set_ 2 (.slice A9 m c9)) _ Try.underlying51 rfl tMsg_size ?_)
    | (refine wpList_store_blk rfl 51 _ _ rfl w.heap.size _ rfl rfl (Z3.out.far (p := ⟨bx, 2, none⟩) (Nat.ne_of_lt HBX.out) _) rfl tMsg_size (by first | rfl | kernel_rfl) ?_
       rintro W b f
       have BW := Lib.hid b
       have FW : Hid (Fr (fun _ => False) w W) := (F3.out.setCell (p := ⟨bx, 2, none⟩) (fun h => by have := HBX.out; exact absurd h (by show ¬ bx < _; omega)) _).trans f (fun k hk e => by have e' : k = w.heap.size := e; omega)
       have VW := Lib.hid (own_fr (own_fr V3.out ((Fr.refl (fun k => k = bx) w3).setCell (p := ⟨bx, 2, none⟩) (fun _ => rfl) (.slice A9 m c9)) (fun k hk e => by have e' : k = bx := e; have := VB.out k hk; have := HLT.out; omega)) f (fun k hk e => by have e' : k = w.heap.size := e; have := VB.out k hk; have := HLT.out; omega))
       clear b f))
  exact bodyPost_ret (results_two Try.results18 _ W w.heap.size 51 _ _ rfl BW.out Try.underlying51 rfl tMsg_size) rfl ⟨_, rfl, VW.out, FW.out⟩
end Go.Proofs.Ytpgklhbbjbdejaa
