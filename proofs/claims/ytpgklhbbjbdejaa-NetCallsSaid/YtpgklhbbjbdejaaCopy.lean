/-
  CONTRACTS of maps.Clone and of Copy.
-/
import Derived.Test.YtpgklhbbjbdejaaGv
import Derived.Shelf.SlMaps.Clone
namespace Go.Proofs.Ytpgklhbbjbdejaa
set_option linter.unusedSimpArgs false
set_option linter.unusedVariables false
open Go Go.RowKit Go.Maps

set_option maxRecDepth 100000 in
set_option maxHeartbeats 2000000 in
theorem mClone_c (b : Nat) (es : Array MapEntry) (clock : Nat) (w : World) (hb : w.heap[b]? = some (.map es clock)) :
    Calls Try.prog 30 #[.map (some b)] w fun e w' => e = .returned (.map (some w.heap.size)) ∧ w' = w.alloc (.map es clock) := by
  have hq := fun w => run_eql_map_nil_sl (P := Try.prog) w 42 _ _ (some b) Try.underlying42
  go_enter Try.func30, Try.ntmps30
  go_wp2
  rw [run_callFunc_extern Try.func37 (by kernel_rfl) (by kernel_rfl) (by kernel_rfl) (e := Extern.MapsClone.clone) (by kernel_rfl), run_maps_clone_sl w 42 hb]
  simp only [Result.andThen]
  rw [Oper.upon_value]
  go_wp2
  rw [run_typeAssert_map_sl _ 42 20 _ _ _ Try.underlying42]
  simp only [Result.andThen]
  rw [Oper.upon_value]
  go_wp2
  go_ret
  exact ⟨rfl, rfl⟩
theorem netC_one (reps last : Int) (m : Option Nat) (lk : Nat → Int) : (netC reps last m lk).all (·.oneCell') = true := by
  simp [netC, Value.oneCell']
theorem netC_map (reps last : Int) (m m2 : Option Nat) (lk : Nat → Int) : (netC reps last m lk).setIfInBounds 2 (.map m2) = netC reps last m2 lk := by
  simp [netC]
theorem mapi_copy {w : World} {mb n : Nat} {D : DataW Value} (h : MapI w mb n D) :
    Calls Try.prog 30 #[.map (some mb)] w fun e w' => e = .returned (.map (some w.heap.size)) ∧ MapI w' w.heap.size n D ∧ Fr (fun _ => False) w w' ∧ w.heap.size < w'.heap.size := by
  obtain ⟨es, clock, hb, F, hs, hD⟩ := h
  refine (mClone_c mb es clock w hb).mono ?_
  rintro e w' ⟨rfl, rfl⟩
  exact ⟨rfl, ⟨es, clock, (MapKept.heap_alloc w _).1, F, hs, hD⟩, (Fr.refl _ w).alloc _, by rw [World.size_alloc]; omega⟩
set_option maxRecDepth 100000 in
set_option maxHeartbeats 2000000 in
theorem copy_c {W : World} {g mb r i : Nat} {T : List Ms} (h : NetV W g mb r T i) :
    Calls Try.prog 14 #[.pointer (some ⟨g, 0, none⟩)] W fun e w' => ∃ gc mbc, e = .returned (.pointer (some ⟨gc, 0, none⟩)) ∧ NetV w' gc mbc r T i ∧ Fr (fun _ => False) W w' ∧ W.heap.size ≤ gc ∧ W.heap.size ≤ mbc := by
  obtain ⟨lk, D, n, hB, hO, hn, hlk, hs, hE, h0, hgt, hw⟩ := h.ex
  have HB := Lib.hid hB
  have HO := Lib.hid hO
  have HE := Lib.hid h
  have HC := Lib.hid (And.intro hn (And.intro hlk (And.intro hs (And.intro hE (And.intro h0 (And.intro hgt hw))))))
  have c2 : W.cell? ⟨g, 2, none⟩ = some (.map (some mb)) := hB.cell 2
  clear hB hO hn hlk hs hE h0 hgt hw h
  go_enter Try.func14, Try.ntmps14
  go_wp2_with fail
  refine (made_yes W _ _ _ _ _ HB.out).mono ?_
  rintro e w2 ⟨rfl, hw⟩
  rw [hw]
  clear hw w2
  go_wp2_with (first
    | (refine wpList_load_all rfl 46 _ rfl g rfl HB.out _ Try.underlying46 rfl (by rw [netC_size]; kernel_rfl) ?_)
    | (refine wpList_store_blk rfl 46 _ _ rfl W.heap.size _ rfl rfl (Blk.new W _ _) (by rw [netC_size]; rfl) (by rw [netC_size]; kernel_rfl) (netC_one _ _ _ _) ?_
       rintro W3 b3 f3
       have B3 := Lib.hid b3
       have F3 : Hid (Fr (fun _ => False) W W3) := (((Fr.refl (fun _ => False) W).alloc _).trans f3 (fun q hq e => by have e' : q = W.heap.size := e; omega))
       have c3 : W3.cell? ⟨g, 2, none⟩ = some (.map (some mb)) := (HB.out.fr F3.out (fun h => h)).cell 2
       clear b3 f3 c2))
  refine (mapi_copy (MapI.fr HO.out F3.out (fun h => h))).mono ?_
  rintro e w5 ⟨rfl, O5, f5, hlt⟩
  have B5 := Lib.hid (keepB B3.out f5)
  have HO5 := Lib.hid O5
  have F5 : Hid (Fr (fun _ => False) W w5) := F3.out.trans f5 (fun _ _ h => h)
  have HSZ : Hid (W.heap.size ≤ W3.heap.size) := F3.out.size
  clear O5 f5 hlt c3
  have k2 : w5.cell? ⟨W.heap.size, 2, none⟩ = some (.map (some mb)) := B5.out.cell 2
  have z2 := B5.out.frozen 2
  go_wp2_with fail
  go_ret
  have hbk := B5.out.set_ 2 (.map (some W3.heap.size))
  rw [netC_map] at hbk
  have hfs : Fr (fun k => k = W.heap.size) w5 (w5.setCell ⟨W.heap.size, 2, none⟩ (.map (some W3.heap.size))) := (Fr.refl (fun k => k = W.heap.size) w5).setCell (p := ⟨W.heap.size, 2, none⟩) (fun _ => rfl) _
  obtain ⟨hn, hlk, hs, hE, h0, hgt, hw⟩ := HC.out
  have hE5 := hE.frv F5.out (fun _ e => e.elim)
  refine ⟨_, W3.heap.size, rfl, ⟨⟨lk, D, n, hbk, MapI.fr HO5.out hfs (fun e => map_ne B5.out HO5.out e.symm), hn, hlk, hs, hE5.frv hfs (fun k e => by have e' : k = W.heap.size := e; subst e'; exact .inl ⟨_, _, B5.out, by decide⟩), h0, hgt, hw⟩, HE.out.le⟩, F5.out.trans hfs (fun q hq e => by have e' : q = W.heap.size := e; omega), Nat.le_refl _, HSZ.out⟩
end Go.Proofs.Ytpgklhbbjbdejaa
