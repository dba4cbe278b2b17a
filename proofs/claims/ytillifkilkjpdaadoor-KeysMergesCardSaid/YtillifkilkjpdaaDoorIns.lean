/-
  CONTRACT of slices.Insert over entries.
-/
import Derived.Test.YtillifkilkjpdaaDoorIx
import Derived.Test.YtillifkilkjpdaaDoorSl
import Derived.Lib.Overlaps
import Derived.Test.YtillifkilkjpdaaDoorPar4
namespace Go.Proofs.YtillifkilkjpdaaDoor
set_option linter.unusedSimpArgs false
set_option linter.unusedVariables false
open Go Go.RowKit

theorem entry_info : (Tryd.prog.info? 68).map (fun i => (i.zero, i.size, i.bytes)) = some (some (.agg #[.string ⟨#[]⟩, .int .i64 0]), 2, 24) := by kernel_rfl

/-- A slice of entries of the call's own. -/
abbrev OwE (w : World) (B : Nat) (v : Value) (m : Ents) : Prop := w.ownsRow B 68 2 v m.length (ec m)

set_option maxRecDepth 100000 in
set_option maxHeartbeats 1000000 in
/-- There is room, i < n: in place. -/
theorem insert_shift (w : World) (g c n i vb : Nat) (m : Ents) (e : List UInt8 × Int) (cur : Array Value) (hB : Blk w g 68 cur) (hm : m.length = n) (hc : cur.size = c * 2) (hxs : cur.toList.take (n * 2) = ec m) (hi : i < n) (hr : n + 1 ≤ c) (hcm : c ≤ maxLen)
    (hV : Blk w vb 68 #[.string (strOf e.1), .int .i64 e.2]) (hne : vb ≠ g) :
    Calls Tryd.prog 31 #[.slice (some ⟨g, 0, none⟩) n c, .int .i64 i, .slice (some ⟨vb, 0, none⟩) 1 1] w fun en w' => en = .returned (.slice (some ⟨g, 0, none⟩) (n + 1) c) ∧ Fr (fun k => k = g) w w' ∧
      ∃ cur', Blk w' g 68 cur' ∧ cur'.size = c * 2 ∧ cur'.toList.take ((n + 1) * 2) = ec (m.take i ++ e :: m.drop i) := by
  have H1 := Lib.hid hB
  have H2 := Lib.hid hV
  have H3 := Lib.hid hxs
  have H4 := Lib.hid hc
  have H5 := Lib.hid hm
  have H6 := Lib.hid hne
  have hcm2 : c ≤ 9223372036854775807 := by unfold maxLen at hcm; omega
  have f1 : decide ((i : Int) = (n : Int)) = false := decide_eq_false (by omega)
  have f2 : ¬ (c = i + 1) := by omega
  have f3 : ¬ (c = i) := by omega
  have f4 : i ≤ n := by omega
  clear hB hV hxs hc hm hne hcm
  have hsz : (Tryd.prog.info? 68).map (·.size) = some 2 := by kernel_rfl
  obtain ⟨i0, hi0, hz0, hz1, hz2⟩ := info_parts entry_info
  have hov : (callFunc 48 #[.slice (some ⟨vb, 0, none⟩) 1 1, .slice (some ⟨g, (i + 1) * 2, none⟩) (n - i) (c - (i + 1))]).run Tryd.prog w = .ok (.value (.bool false)) w := by
    rw [run_callFunc_extern Tryd.func48 (by kernel_rfl) (by kernel_rfl) (by kernel_rfl) (e := Extern.SlicesOverlaps.overlaps #[59, 59] #[4]) (by kernel_rfl),
      Lib.run_overlaps_apart w 59 4 68 Tryd.underlying59 2 (fun w => by simp [sizeOf, typeInfo, hi0, hz1]) ⟨vb, 0, none⟩ ⟨g, (i + 1) * 2, none⟩ 1 1 (n - i) (c - (i + 1)) H6.out 68 68 2 (c * 2)
        (by have := H2.out; unfold Blk at this; simp [World.shape?, this]) (by have := H1.out; unfold Blk at this; simp [World.shape?, this, H4.out]) (by omega) (H2.out.frozen 0) (H2.out.frozen 2)]
    rfl
  have hed : (ec (m.drop i)).length = (n - i) * 2 := by rw [ec_length, List.length_drop, H5.out]
  obtain ⟨W1, r1, B1, F1⟩ := run_copyN (P := Tryd.prog) w.drew 59 59 3 68 2 g ((i + 1) * 2) (n - i) (c - (i + 1)) ⟨g, i * 2, none⟩ (n + 1 - i) (c - i) (n - i) (ec (m.drop i)) 68 cur Tryd.underlying59 hsz (by simp only [Nat.min_def]; split <;> omega) hed
    (fun j v hj => by
      have hj2 : j < (n - i) * 2 := by rw [← hed]; exact (List.getElem?_eq_some_iff.1 hj).1
      rw [Addr.add_lit]
      rw [ec_drop, List.getElem?_drop, ← H3.out, List.getElem?_take, if_pos (by omega)] at hj
      rw [H1.out.drew.cell, ← Array.getElem?_toList]
      exact hj) H1.out.drew (by rw [hed, H4.out]; omega) (ec_one _)
  obtain ⟨c1, hc1⟩ : ∃ c1, (cur.toList.take ((i + 1) * 2) ++ ec (m.drop i) ++ cur.toList.drop ((i + 1) * 2 + (ec (m.drop i)).length)).toArray = c1 := ⟨_, rfl⟩
  rw [hc1] at B1
  have hs1 : c1.size = c * 2 := by
    rw [← hc1]
    simp only [List.size_toArray, List.length_append, List.length_take, List.length_drop, hed, Array.length_toList, H4.out]
    omega
  have V1 := H2.out.drew.fr F1 (fun h => H6.out h)
  obtain ⟨W2, r2, B2, F2⟩ := run_copyN (P := Tryd.prog) W1 59 59 3 68 2 g (i * 2) (n + 1 - i) (c - i) ⟨vb, 0, none⟩ 1 1 1 (ec [e]) 68 c1 Tryd.underlying59 hsz (by simp only [Nat.min_def]; split <;> omega) (ec_length _)
    (fun j v hj => by
      rw [Addr.add_lit, V1.cell, ← Array.getElem?_toList]
      rw [Nat.zero_add]
      exact hj) B1 (by rw [ec_length, hs1]; simp only [List.length_singleton]; omega) (ec_one _)
  have hfin : (c1.toList.take (i * 2) ++ ec [e] ++ c1.toList.drop (i * 2 + (ec [e]).length)).take ((n + 1) * 2) = ec (m.take i ++ e :: m.drop i) := by
    have l2 : (ec [e]).length = 2 := rfl
    rw [← hc1, ec_append, ec_take, l2]
    have e1 : (cur.toList.take ((i + 1) * 2) ++ ec (m.drop i) ++ cur.toList.drop ((i + 1) * 2 + (ec (m.drop i)).length)).take (i * 2) = (ec m).take (i * 2) := by
      rw [← H3.out, List.append_assoc, List.take_append_of_le_length (by rw [List.length_take, Array.length_toList, H4.out]; omega), List.take_take, List.take_take, Nat.min_eq_left (by omega), Nat.min_eq_left (by omega)]
    have e2 : (cur.toList.take ((i + 1) * 2) ++ ec (m.drop i) ++ cur.toList.drop ((i + 1) * 2 + (ec (m.drop i)).length)).drop (i * 2 + 2) = ec (m.drop i) ++ cur.toList.drop ((i + 1) * 2 + (ec (m.drop i)).length) := by
      rw [List.append_assoc]
      exact List.drop_left' (by rw [List.length_take, Array.length_toList, H4.out]; omega)
    rw [e1, e2]
    have l1 : ((ec m).take (i * 2)).length = i * 2 := by rw [List.length_take, ec_length, H5.out]; omega
    rw [← List.append_assoc, List.take_append_of_le_length (by simp only [List.length_append, l1, l2, hed]; omega), List.take_of_length_le (by simp only [List.length_append, l1, l2, hed]; omega)]
    simp [ec]
  have hs2 : (c1.toList.take (i * 2) ++ ec [e] ++ c1.toList.drop (i * 2 + (ec [e]).length)).toArray.size = c * 2 := by
    rw [ec_length]
    simp only [List.size_toArray, List.length_append, List.length_take, List.length_drop, ec_length, Array.length_toList, hs1, List.length_singleton]
    omega
  have HFI := Lib.hid hfin
  have HB2 := Lib.hid B2
  have HS2 := Lib.hid hs2
  have HF1 := Lib.hid (((Fr.refl (fun k => k = g) w).drew.trans F1 (fun _ _ h => h)).trans F2 (fun _ _ h => h))
  have R1 := Lib.hid r1
  have R2 := Lib.hid r2
  clear B1 B2 F1 F2 V1 hfin hs2 hs1 hc1 r1 r2 hed hi0 hz0 hz1 hz2 hsz
  go_enter Tryd.func31, Tryd.ntmps31
  go_wp2_with (simp only [hov])
  refine (wpIn_wide (n := 9)).1 ?_
  refine wpIn_region_quietHead (k := 8) (by kernel_rfl) (by kernel_rfl) ?_
  iterate 8
    refine quietWalk_cons (a' := ?_) (v := ?_) ?_ ?_ ?_
    rotate_left 2
    · intro K hK
      gi_step
      exact hK
    · exact rfl
  refine quietWalk_nil ?_
  change wpAnyIn _ _ _ _ _ _ 1 _ _ _
  refine wpAnyIn_ready (rs := [8]) (by kernel_rfl) (by simp) ?_
  refine AllReadyIn.cons rfl (fun K hK => ?_) AllReadyIn.nil
  refine stepIn_copy rfl _ _ _ _ rfl _ _ rfl rfl R1.out ?_
  refine hK _ _ ?_
  clear hK K
  change wpAnyIn _ _ _ _ _ _ 0 _ _ _
  refine wpAnyIn_done (by kernel_rfl) ?_ _
  show Exit.then _ _ _ _ W1
  go_wp2_with (rw [R2.out])

  go_ret
  exact ⟨rfl, HF1.out, _, HB2.out, HS2.out, HFI.out⟩
end Go.Proofs.YtillifkilkjpdaaDoor
