/-
  CONTRACT of slices.Insert of one element at []string. Written by gen_ins.py.
-/
import Derived.Test.YtnkfkicabgajmaaGreatDoorSl
import Derived.Test.YtnkfkicabgajmaaGreatDoorGVal
import Derived.Test.YtnkfkicabgajmaaGreatDoorChecked
import Derived.Lib.Overlaps
import Derived.Deep.RegionHeld3
namespace Go.Proofs.YtnkfkicabgajmaaGreatDoor
set_option linter.unusedSimpArgs false
set_option linter.unusedVariables false
open Go Go.RowKit

theorem str_info1 : (Tryz.prog.info? 9).map (fun i => (i.zero, i.size, i.bytes)) = some (some (.string ⟨#[]⟩), 1, 16) := by kernel_rfl
set_option maxRecDepth 100000 in
set_option maxHeartbeats 1000000 in
/-- There is room, i < n: in place. -/
theorem insS_shift (w : World) (g c n i vb : Nat) (xs es : List Value) (cur : Array Value) (hB : Blk w g 9 cur) (hm : xs.length = n * 1) (he : es.length = 1) (h1s : ∀ u ∈ xs, u.oneCell' = true) (h1e : ∀ u ∈ es, u.oneCell' = true)
    (hc : cur.size = c * 1) (hxs : cur.toList.take (n * 1) = xs) (hi : i < n) (hr : n + 1 ≤ c) (hcm : c ≤ maxLen)
    (hV : Blk w vb 9 es.toArray) (hne : vb ≠ g) :
    Calls Tryz.prog 35 #[.slice (some ⟨g, 0, none⟩) n c, .int .i64 i, .slice (some ⟨vb, 0, none⟩) 1 1] w fun en w' => en = .returned (.slice (some ⟨g, 0, none⟩) (n + 1) c) ∧ Fr (fun k => k = g) w w' ∧
      ∃ cur', Blk w' g 9 cur' ∧ cur'.size = c * 1 ∧ cur'.toList.take ((n + 1) * 1) = xs.take (i * 1) ++ es ++ xs.drop (i * 1) := by
  have H1 := Lib.hid hB
  have H2 := Lib.hid hV
  have H3 := Lib.hid hxs
  have H4 := Lib.hid hc
  have H5 := Lib.hid hm
  have H6 := Lib.hid hne
  have H7 := Lib.hid he
  have H8 := Lib.hid h1s
  have H9 := Lib.hid h1e
  have hcm2 : c ≤ 9223372036854775807 := by unfold maxLen at hcm; omega
  have f1 : decide ((i : Int) = (n : Int)) = false := decide_eq_false (by omega)
  have f2 : ¬ (c = i + 1) := by omega
  have f3 : ¬ (c = i) := by omega
  have f4 : i ≤ n := by omega
  clear hB hV hxs hc hm hne hcm he h1s h1e
  have hsz : (Tryz.prog.info? 9).map (·.size) = some 1 := by kernel_rfl
  obtain ⟨i0, hi0, hz0, hz1, hz2⟩ := info_parts str_info1
  have hov : (callFunc 60 #[.slice (some ⟨vb, 0, none⟩) 1 1, .slice (some ⟨g, (i + 1), none⟩) (n - i) (c - (i + 1))]).run Tryz.prog w = .ok (.value (.bool false)) w := by
    rw [run_callFunc_extern Tryz.func60 (by kernel_rfl) (by kernel_rfl) (by kernel_rfl) (e := Extern.SlicesOverlaps.overlaps #[23, 23] #[4]) (by kernel_rfl),
      Lib.run_overlaps_apart w 23 4 9 Tryz.underlying23 1 (fun w => by simp [sizeOf, typeInfo, hi0, hz1]) ⟨vb, 0, none⟩ ⟨g, (i + 1), none⟩ 1 1 (n - i) (c - (i + 1)) H6.out 9 9 1 (c * 1)
        (by have := H2.out; unfold Blk at this; simp [World.shape?, this, H7.out]) (by have := H1.out; unfold Blk at this; simp [World.shape?, this, H4.out]) (by omega) (H2.out.frozen 0) (H2.out.frozen 1)]
    rfl
  have hed : (xs.drop (i * 1)).length = (n - i) * 1 := by rw [List.length_drop, H5.out]; omega
  have h1d : ∀ u ∈ xs.drop (i * 1), u.oneCell' = true := fun u hu => H8.out u (List.mem_of_mem_drop hu)
  obtain ⟨W1, r1, B1, F1⟩ := run_copyN (P := Tryz.prog) w.drew 23 23 3 9 1 g ((i + 1)) (n - i) (c - (i + 1)) ⟨g, i, none⟩ (n + 1 - i) (c - i) (n - i) (xs.drop (i * 1)) 9 cur Tryz.underlying23 hsz (by simp only [Nat.min_def]; split <;> omega) hed
    (fun j v hj => by
      have hj2 : j < (n - i) * 1 := by rw [← hed]; exact (List.getElem?_eq_some_iff.1 hj).1
      rw [Addr.add_lit]
      rw [List.getElem?_drop, ← H3.out, List.getElem?_take, if_pos (by omega)] at hj
      rw [H1.out.drew.cell, ← Array.getElem?_toList]
      simpa using hj) H1.out.drew (by rw [hed, H4.out]; omega) h1d
  obtain ⟨c1, hc1⟩ : ∃ c1, (cur.toList.take ((i + 1)) ++ xs.drop (i * 1) ++ cur.toList.drop ((i + 1) + (xs.drop (i * 1)).length)).toArray = c1 := ⟨_, rfl⟩
  rw [hc1] at B1
  have hs1 : c1.size = c * 1 := by
    rw [← hc1]
    simp only [List.size_toArray, List.length_append, List.length_take, List.length_drop, Array.length_toList, H4.out, H5.out]
    omega
  have V1 := H2.out.drew.fr F1 (fun h => H6.out h)
  obtain ⟨W2, r2, B2, F2⟩ := run_copyN (P := Tryz.prog) W1 23 23 3 9 1 g (i) (n + 1 - i) (c - i) ⟨vb, 0, none⟩ 1 1 1 es 9 c1 Tryz.underlying23 hsz (by simp only [Nat.min_def]; split <;> omega) (by rw [H7.out])
    (fun j v hj => by
      rw [Addr.add_lit, V1.cell, ← Array.getElem?_toList]
      rw [Nat.zero_add]
      exact hj) B1 (by rw [H7.out, hs1]; omega) H9.out
  have hfin : (c1.toList.take (i) ++ es ++ c1.toList.drop (i + es.length)).take ((n + 1) * 1) = xs.take (i * 1) ++ es ++ xs.drop (i * 1) := by
    have l2 : es.length = 1 := H7.out
    rw [← hc1, l2]
    have e1 : (cur.toList.take ((i + 1)) ++ xs.drop (i * 1) ++ cur.toList.drop ((i + 1) + (xs.drop (i * 1)).length)).take (i) = xs.take (i * 1) := by
      rw [← H3.out, List.append_assoc, List.take_append_of_le_length (by rw [List.length_take, Array.length_toList, H4.out]; omega), List.take_take, List.take_take, Nat.min_eq_left (by omega), Nat.min_eq_left (by omega)]
      all_goals first | rfl | simp
    have e2 : (cur.toList.take ((i + 1)) ++ xs.drop (i * 1) ++ cur.toList.drop ((i + 1) + (xs.drop (i * 1)).length)).drop (i + 1) = xs.drop (i * 1) ++ cur.toList.drop ((i + 1) + (xs.drop (i * 1)).length) := by
      rw [List.append_assoc]
      exact List.drop_left' (by rw [List.length_take, Array.length_toList, H4.out]; omega)
    rw [e1, e2]
    have l1 : (xs.take (i * 1)).length = i * 1 := by rw [List.length_take, H5.out]; omega
    rw [← List.append_assoc, List.take_append_of_le_length (by simp only [List.length_append, l1, l2, hed]; omega), List.take_of_length_le (by simp only [List.length_append, l1, l2, hed]; omega)]
  have hs2 : (c1.toList.take (i) ++ es ++ c1.toList.drop (i + es.length)).toArray.size = c * 1 := by
    rw [H7.out]
    simp only [List.size_toArray, List.length_append, List.length_take, List.length_drop, H7.out, Array.length_toList, hs1]
    omega
  have HFI := Lib.hid hfin
  have HB2 := Lib.hid B2
  have HS2 := Lib.hid hs2
  have HF1 := Lib.hid (((Fr.refl (fun k => k = g) w).drew.trans F1 (fun _ _ h => h)).trans F2 (fun _ _ h => h))
  have R1 := Lib.hid r1
  have R2 := Lib.hid r2
  clear B1 B2 F1 F2 V1 hfin hs2 hs1 hc1 r1 r2 hed hi0 hz0 hz1 hz2 hsz h1d
  go_enter Tryz.func35, Tryz.ntmps35
  go_wp2_with (simp only [hov])
  refine (wpIn_wide (n := 9)).1 ?_
  refine wpIn_region_quietHead (k := 8) (by kernel_rfl) (by kernel_rfl) ?_
  iterate 8
    refine quietWalk_cons (a' := ?_) (v := ?_) ?_ ?_ ?_
    rotate_left 2
    · intro K hK
      gi_step
      exact hK
    · exact rfl
  refine quietWalk_nil ?_
  change wpAnyIn _ _ _ _ _ _ 1 _ _ _
  refine wpAnyIn_ready (rs := [8]) (by kernel_rfl) (by simp) ?_
  refine AllReadyIn.cons rfl (fun K hK => ?_) AllReadyIn.nil
  refine stepIn_copy rfl _ _ _ _ rfl _ _ rfl rfl R1.out ?_
  refine hK _ _ ?_
  clear hK K
  change wpAnyIn _ _ _ _ _ _ 0 _ _ _
  refine wpAnyIn_done (by kernel_rfl) ?_ _
  show Exit.then _ _ _ _ W1
  go_wp2_with (rw [R2.out])
  go_ret
  exact ⟨rfl, HF1.out, _, HB2.out, HS2.out, HFI.out⟩
set_option maxRecDepth 100000 in
set_option maxHeartbeats 1000000 in
/-- There is no room, i < n: a new row. -/
theorem insS_grow (w : World) (g c n i vb : Nat) (xs es : List Value) (cur : Array Value) (hB : Blk w g 9 cur) (hm : xs.length = n * 1) (he : es.length = 1) (h1s : ∀ u ∈ xs, u.oneCell' = true) (h1e : ∀ u ∈ es, u.oneCell' = true)
    (hc : cur.size = c * 1) (hxs : cur.toList.take (n * 1) = xs) (hi : i < n) (hr : c < n + 1) (hnc : n ≤ c) (hbig : (n + 1) * 16 ≤ 140737488355328)
    (hV : Blk w vb 9 es.toArray) :
    Calls Tryz.prog 35 #[.slice (some ⟨g, 0, none⟩) n c, .int .i64 i, .slice (some ⟨vb, 0, none⟩) 1 1] w fun en w' => ∃ G, en = .returned (.slice (some ⟨w.heap.size, 0, none⟩) (n + 1) G) ∧ n + 1 ≤ G ∧ G ≤ maxLen ∧ Fr (fun _ => False) w w' ∧
      ∃ cur', Blk w' w.heap.size 9 cur' ∧ cur'.size = G * 1 ∧ cur'.toList.take ((n + 1) * 1) = xs.take (i * 1) ++ es ++ xs.drop (i * 1) := by
  have H1 := Lib.hid hB
  have H2 := Lib.hid hV
  have H3 := Lib.hid hxs
  have H4 := Lib.hid hc
  have H5 := Lib.hid hm
  have H7 := Lib.hid he
  have H8 := Lib.hid h1s
  have H9 := Lib.hid h1e
  have hcm2 : c ≤ 9223372036854775807 := by omega
  have f1 : decide ((i : Int) = (n : Int)) = false := decide_eq_false (by omega)
  have f2 : decide ((c : Int) < (n : Int) + 1) = true := decide_eq_true (by omega)
  have f3 : ¬ (c = i) := by omega
  have f4 : i ≤ n := by omega
  have hgw := hB.lt
  have hvw := hV.lt
  clear hB hV hxs hc hm he h1s h1e
  have hsz : (Tryz.prog.info? 9).map (·.size) = some 1 := by kernel_rfl
  obtain ⟨i0, hi0, hz0, hz1, hz2⟩ := info_parts str_info1
  have ht1 : (xs.take (i * 1)).length = i * 1 := by rw [List.length_take, H5.out]; omega
  have hed : (xs.drop (i * 1)).length = (n - i) * 1 := by rw [List.length_drop, H5.out]; omega
  have h1d : ∀ u ∈ xs.drop (i * 1), u.oneCell' = true := fun u hu => H8.out u (List.mem_of_mem_drop hu)
  have hold : (Builtin.firstCells i0.size i (.slice (some ⟨g, 0, none⟩) i c)).run Tryz.prog w.drew = .ok (xs.take (i * 1)).toArray w.drew := by
    rw [hz1]
    refine run_firstCells_some w.drew 1 i ⟨g, 0, none⟩ i c (xs.take (i * 1)) ht1 (fun j v hj => ?_)
    have hj2 : j < i * 1 := by rw [← ht1]; exact (List.getElem?_eq_some_iff.1 hj).1
    rw [Addr.add_lit, H1.out.drew.cell, ← Array.getElem?_toList, Nat.zero_add]
    rw [List.getElem?_take, if_pos hj2, ← H3.out, List.getElem?_take, if_pos (by omega)] at hj
    exact hj
  have hik : i + (n + 1 - i) = n + 1 := by omega
  have r0 := Lib.run_append_grow_zeros (P := Tryz.prog) w 23 3 23 9 i0 _ .i64 .i64 Tryz.underlying23 Tryz.underlying3 hi0 hz0 (some ⟨g, 0, none⟩) i c (xs.take (i * 1)) hold (n + 1 - i) (by omega) (by rw [hz1]; decide) (by omega) (by omega) (by rw [hz2]; omega) (by rw [hz2, hik]; exact growslice_fits hr hbig)
  rw [hik] at r0
  have hG1 : n + 1 ≤ grownCap w (n + 1) c 9 := grownCap_ge w _ _ _
  have hG2 : grownCap w (n + 1) c 9 ≤ maxLen := grownCap_le_maxLen w (n + 1) c 9 (by unfold maxLen; omega)
  obtain ⟨G, hG⟩ : ∃ G, grownCap w (n + 1) c 9 = G := ⟨_, rfl⟩
  rw [hG] at r0 hG1 hG2
  obtain ⟨ROW, hROW⟩ : ∃ ROW : Array Value, (xs.take (i * 1)).toArray ++ Builtin.zeroCells (Value.string ⟨#[]⟩).cells (n + 1 - i) ++ Builtin.zeroCells (Value.string ⟨#[]⟩).cells (G - (n + 1)) = ROW := ⟨_, rfl⟩
  rw [hROW] at r0
  have hs0 : ROW.size = G * 1 := by
    rw [← hROW]
    simp only [Array.size_append, List.size_toArray, size_zeroCells, ht1, show (Value.string ⟨#[]⟩).cells.size = 1 from by kernel_rfl]
    omega
  have htk : ROW.toList.take (i * 1) = xs.take (i * 1) := by
    rw [← hROW]
    simp only [Array.toList_append, List.append_assoc]
    exact List.take_left' ht1
  have B0 := Blk.new w.drew 9 ROW
  have F0 := ((Fr.refl (fun _ => False) w).drew).alloc (.cells ROW 9)
  obtain ⟨W0, hW0⟩ : ∃ W0, w.drew.alloc (.cells ROW 9) = W0 := ⟨_, rfl⟩
  rw [hW0] at r0 B0 F0
  have B0' : Blk W0 w.heap.size 9 ROW := B0
  have V0 := H2.out.fr F0 (fun h => h)
  obtain ⟨W1, r1, B1, F1⟩ := run_copyN (P := Tryz.prog) W0 23 23 3 9 1 w.heap.size (i) (n + 1 - i) (G - i) ⟨vb, 0, none⟩ 1 1 1 es 9 ROW Tryz.underlying23 hsz (by simp only [Nat.min_def]; split <;> omega) (by rw [H7.out])
    (fun j v hj => by
      rw [Addr.add_lit, V0.cell, ← Array.getElem?_toList, Nat.zero_add]
      exact hj) B0' (by rw [H7.out, hs0]; omega) H9.out
  obtain ⟨c1, hc1⟩ : ∃ c1, (ROW.toList.take (i) ++ es ++ ROW.toList.drop (i + es.length)).toArray = c1 := ⟨_, rfl⟩
  rw [hc1] at B1
  have l2 : es.length = 1 := H7.out
  have hs1 : c1.size = G * 1 := by
    rw [← hc1]
    simp only [List.size_toArray, List.length_append, List.length_take, List.length_drop, l2, Array.length_toList, hs0]
    omega
  have G1 : Blk W1.drew g 9 cur := ((H1.out.fr F0 (fun h => h)).fr F1 (by omega)).drew
  obtain ⟨W2, r2, B2, F2⟩ := run_copyN (P := Tryz.prog) W1.drew 23 23 3 9 1 w.heap.size ((i + 1)) (n - i) (G - (i + 1)) ⟨g, i, none⟩ (n - i) (c - i) (n - i) (xs.drop (i * 1)) 9 c1 Tryz.underlying23 hsz (Nat.min_self _) hed
    (fun j v hj => by
      have hj2 : j < (n - i) * 1 := by rw [← hed]; exact (List.getElem?_eq_some_iff.1 hj).1
      rw [Addr.add_lit]
      rw [List.getElem?_drop, ← H3.out, List.getElem?_take, if_pos (by omega)] at hj
      rw [G1.cell, ← Array.getElem?_toList]
      simpa using hj) B1.drew (by rw [hed, hs1]; omega) h1d
  have hfin : (c1.toList.take ((i + 1)) ++ xs.drop (i * 1) ++ c1.toList.drop ((i + 1) + (xs.drop (i * 1)).length)).take ((n + 1) * 1) = xs.take (i * 1) ++ es ++ xs.drop (i * 1) := by
    have e1 : c1.toList.take ((i + 1)) = xs.take (i * 1) ++ es := by
      rw [← hc1, show ROW.toList.take (i) = xs.take (i * 1) by simpa using htk]
      exact List.take_left' (by rw [List.length_append, ht1, l2]; omega)
    rw [e1, List.take_append_of_le_length (by simp only [List.length_append, ht1, l2, hed]; omega), List.take_of_length_le (by simp only [List.length_append, ht1, l2, hed]; omega)]
  have hs2 : (c1.toList.take ((i + 1)) ++ xs.drop (i * 1) ++ c1.toList.drop ((i + 1) + (xs.drop (i * 1)).length)).toArray.size = G * 1 := by
    simp only [List.size_toArray, List.length_append, List.length_take, List.length_drop, Array.length_toList, hs1, H5.out]
    omega
  have HFI := Lib.hid hfin
  have HB2 := Lib.hid B2
  have HS2 := Lib.hid hs2
  have HF1 : Hid (Fr (fun _ => False) w W2) := ((F0.trans F1 (fun k hk e => absurd e (by omega))).drew).trans F2 (fun k hk e => absurd e (by omega))
  have HG1 := Lib.hid hG1
  have HG2 := Lib.hid hG2
  have g1 : G ≤ 9223372036854775807 := by unfold maxLen at hG2; omega
  have g2 : ¬ (G = i) := by omega
  have g3 : ¬ (G = i + 1) := by omega
  have hkk : (n : Int) + 1 - (i : Int) = ((n + 1 - i : Nat) : Int) := by omega
  have R0 := Lib.hid r0
  have R1 := Lib.hid r1
  have R2 := Lib.hid r2
  clear r0 r1 r2 hW0 B0 B0' F0 V0 B1 F1 G1 B2 F2 hs0 hs1 hs2 hfin htk hROW hc1 hold hi0 hz0 hz1 hz2 hed ht1 hsz hG hG2 l2 h1d
  go_enter Tryz.func35, Tryz.ntmps35
  go_wp2_with (first | (at_builtin; refine wpList_appR rfl _ _ _ _ rfl _ _ rfl rfl R0.out ?_) | rw [R1.out])
  refine (wpIn_wide (n := 9)).1 ?_
  refine wpIn_region_quietHead (k := 8) (by kernel_rfl) (by kernel_rfl) ?_
  iterate 8
    refine quietWalk_cons (a' := ?_) (v := ?_) ?_ ?_ ?_
    rotate_left 2
    · intro K hK
      gi_step
      exact hK
    · exact rfl
  refine quietWalk_nil ?_
  change wpAnyIn _ _ _ _ _ _ 1 _ _ _
  refine wpAnyIn_ready (rs := [8]) (by kernel_rfl) (by simp) ?_
  refine AllReadyIn.cons rfl (fun K hK => ?_) AllReadyIn.nil
  refine stepIn_copy rfl _ _ _ _ rfl _ _ rfl rfl R2.out ?_
  refine hK _ _ ?_
  clear hK K
  change wpAnyIn _ _ _ _ _ _ 0 _ _ _
  refine wpAnyIn_done (by kernel_rfl) ?_ _
  show Exit.then _ _ _ _ W2
  go_wp2_with fail
  go_ret
  exact ⟨G, rfl, HG1.out, HG2.out, HF1.out, _, HB2.out, HS2.out, HFI.out⟩
set_option maxRecDepth 100000 in
set_option maxHeartbeats 1000000 in
/-- At the end. -/
theorem insS_end (w : World) (B n vb : Nat) (v : Value) (xs es : List Value) (hO : w.ownsRow B 9 1 v n xs) (he : es.length = 1) (h1e : ∀ u ∈ es, u.oneCell' = true) (hbw : B ≤ w.heap.size) (hbig : (n + 1) * 16 ≤ 140737488355328)
    (hV : Blk w vb 9 es.toArray) :
    Calls Tryz.prog 35 #[v, .int .i64 n, .slice (some ⟨vb, 0, none⟩) 1 1] w fun en w' => ∃ v', en = .returned v' ∧ w'.ownsRow B 9 1 v' (n + 1) (xs ++ es) ∧ Fr (fun k => v.ownBlock = some k) w w' ∧ (v'.ownBlock = v.ownBlock ∨ v'.ownBlock = some w.heap.size) := by
  obtain ⟨i0, hi0, hz0, hz1, hz2⟩ := info_parts str_info1
  obtain ⟨A, c, rfl, hnc, hcm⟩ := own_slice hO
  have HO := Lib.hid hO
  have HS : Hid (Src Tryz.prog 1 23 (.slice (some ⟨vb, 0, none⟩) 1 1) 1 es w) := Src.ofSlice w Tryz.underlying23 ⟨vb, 0, none⟩ 1 1 es (by rw [he]) (fun j u hj => by
      rw [Addr.add_lit, hV.cell, ← Array.getElem?_toList, Nat.zero_add]
      exact hj) h1e
  have hcm2 : c ≤ 9223372036854775807 := by unfold maxLen at hcm; omega
  have HI := Lib.hid hi0
  clear hi0 hO hV hcm he h1e
  go_enter Tryz.func35, Tryz.ntmps35
  go_wp2_with (first
    | (at_builtin
       refine wpList_app rfl _ _ _ _ rfl B 9 i0 _ 1 16 Tryz.underlying23 HI.out hz0 hz1 hz2 (by kernel_rfl) _ n _ rfl HO.out _ 1 _ rfl HS.out (by omega) (by unfold maxLen; omega) hbw ?_
       intro v9 w9 hown9 hf9 hn9
       have H9 := Lib.hid hown9
       have F9 := Lib.hid hf9
       have N9 := Lib.hid hn9
       clear hown9 hf9 hn9))
  all_goals
    go_ret
    exact ⟨v9, rfl, H9.out, (by cases A <;> exact F9.out), (by cases A <;> exact N9.out)⟩
/-- slices.Insert of one. -/
theorem insS_c (w : World) (B i n vb : Nat) (v : Value) (xs es : List Value) (hO : w.ownsRow B 9 1 v n xs) (he : es.length = 1) (h1s : ∀ u ∈ xs, u.oneCell' = true) (h1e : ∀ u ∈ es, u.oneCell' = true) (hi : i ≤ n) (hbw : B ≤ w.heap.size) (hbig : (n + 1) * 16 ≤ 140737488355328)
    (hV : Blk w vb 9 es.toArray) (hne : v.ownBlock ≠ some vb) :
    Calls Tryz.prog 35 #[v, .int .i64 i, .slice (some ⟨vb, 0, none⟩) 1 1] w fun en w' => ∃ v', en = .returned v' ∧ w'.ownsRow B 9 1 v' (n + 1) (xs.take (i * 1) ++ es ++ xs.drop (i * 1)) ∧ Fr (fun k => v.ownBlock = some k) w w' ∧ (v'.ownBlock = v.ownBlock ∨ v'.ownBlock = some w.heap.size) := by
  have hxl := hO.1
  rcases Nat.lt_or_ge i n with hlt | hge
  · rcases hO.2 with ⟨rfl, h0⟩ | ⟨g, c, cur, rfl, hbg, hg, hnc, hcm, hcs, htake⟩
    · omega
    have hl : (xs.take (i * 1) ++ es ++ xs.drop (i * 1)).length = (n + 1) * 1 := by
      simp only [List.length_append, List.length_take, List.length_drop, he, hxl]
      omega
    rcases Nat.lt_or_ge c (n + 1) with hr | hr
    · refine (insS_grow w g c n i vb xs es cur hg hxl he h1s h1e hcs htake hlt hr hnc hbig hV).mono ?_
      rintro en w' ⟨G, rfl, h1, h2, h3, cur', h4, h5, h6⟩
      exact ⟨_, rfl, ⟨hl, .inr ⟨_, _, cur', rfl, hbw, h4, h1, h2, h5, h6⟩⟩, h3.mono (fun _ _ h => h.elim), .inr rfl⟩
    · refine (insS_shift w g c n i vb xs es cur hg hxl he h1s h1e hcs htake hlt hr hcm hV (fun h => hne (by rw [h]; rfl))).mono ?_
      rintro en w' ⟨rfl, h3, cur', h4, h5, h6⟩
      exact ⟨_, rfl, ⟨hl, .inr ⟨_, _, cur', rfl, hbg, h4, hr, hcm, h5, h6⟩⟩, h3.mono (fun k _ h => by rw [h]; rfl), .inl rfl⟩
  · have : i = n := by omega
    subst this
    rw [List.take_of_length_le (by omega), List.drop_of_length_le (by omega), List.append_nil]
    exact insS_end w B i vb v xs es hO he h1e hbw hbig hV
end Go.Proofs.YtnkfkicabgajmaaGreatDoor
