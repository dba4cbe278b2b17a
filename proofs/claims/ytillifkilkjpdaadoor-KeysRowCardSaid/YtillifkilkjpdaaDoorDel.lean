/-
  CONTRACT of slices.Delete of one entry. Written by gen_del.py.
-/
import Derived.Test.YtillifkilkjpdaaDoorIns2
namespace Go.Proofs.YtillifkilkjpdaaDoor
set_option linter.unusedSimpArgs false
set_option linter.unusedVariables false
open Go Go.RowKit

set_option maxRecDepth 100000 in
set_option maxHeartbeats 1000000 in
/-- There is room behind what goes. -/
theorem delete_mid (w : World) (g c n i : Nat) (m : Ents) (cur : Array Value) (hB : Blk w g 68 cur) (hm : m.length = n) (hc : cur.size = c * 2) (hxs : cur.toList.take (n * 2) = ec m) (hi : i < n) (hnc : n ≤ c) (hcj : ¬ (c = i + 1)) (hcm : c ≤ maxLen) :
    Calls Tryd.prog 32 #[.slice (some ⟨g, 0, none⟩) n c, .int .i64 i, .int .i64 (i + 1 : Nat)] w fun en w' => en = .returned (.slice (some ⟨g, 0, none⟩) (n - 1) c) ∧ Fr (fun k => k = g) w w' ∧
      ∃ cur', Blk w' g 68 cur' ∧ cur'.size = c * 2 ∧ cur'.toList.take ((n - 1) * 2) = ec (m.take i ++ m.drop (i + 1)) := by
  have H1 := Lib.hid hB
  have H3 := Lib.hid hxs
  have H4 := Lib.hid hc
  have H5 := Lib.hid hm
  have HCM := Lib.hid hcm
  have hcm2 : c ≤ 9223372036854775807 := by unfold maxLen at hcm; omega
  have f1 : i ≤ n := by omega
  have f2 : ¬ (c = i) := by omega
  have f3 : i + 1 ≤ n := by omega
  have f4 : ¬ (n = i) := by omega
  have f5 : i ≤ i + 1 := by omega
  have f6 : ¬ ((i : Int) = (i : Int) + 1) := by omega
  have f7 : i + (n - (i + 1)) = n - 1 := by omega
  have f8 : ¬ (c = n - 1) := by omega
  have f9 : n - (n - 1) = 1 := by omega
  have f10 : n - 1 ≤ n := by omega
  have f11 : n - 1 ≤ c := by omega
  have f12 : i ≤ c := by omega
  have f13 : n - 1 ≤ 9223372036854775807 := by omega
  clear hB hxs hc hm hcm
  obtain ⟨i0, hi0, hz0, hz1, hz2⟩ := info_parts entry_info
  have hed : (ec (m.drop (i + 1))).length = (n - (i + 1)) * 2 := by rw [ec_length, List.length_drop, H5.out]
  have hsrc : Src Tryd.prog 2 59 (.slice (some ⟨g, (i + 1) * 2, none⟩) (n - (i + 1)) (c - (i + 1))) (n - (i + 1)) (ec (m.drop (i + 1))) w.drew := Src.ofSlice w.drew Tryd.underlying59 ⟨g, (i + 1) * 2, none⟩ (n - (i + 1)) (c - (i + 1)) (ec (m.drop (i + 1))) hed (fun j u hj => by
      have hj2 : j < (n - (i + 1)) * 2 := by rw [← hed]; exact (List.getElem?_eq_some_iff.1 hj).1
      rw [Addr.add_lit]
      rw [ec_drop, List.getElem?_drop, ← H3.out, List.getElem?_take, if_pos (by omega)] at hj
      rw [H1.out.drew.cell, ← Array.getElem?_toList]
      exact hj) (ec_one _)
  obtain ⟨W1, r1, B1, F1⟩ := run_app_room (P := Tryd.prog) (ty := 59) w.drew 59 59 68 i0 g i c (n - (i + 1)) 2 _ (ec (m.drop (i + 1))) cur 68 Tryd.underlying59 hi0 hz1 hsrc (by omega) H1.out.drew hed (by rw [hed, H4.out]; omega)
  rw [f7] at r1
  obtain ⟨c1, hc1⟩ : ∃ c1, (cur.toList.take (i * 2) ++ ec (m.drop (i + 1)) ++ cur.toList.drop (i * 2 + (ec (m.drop (i + 1))).length)).toArray = c1 := ⟨_, rfl⟩
  rw [hc1] at B1
  have hs1 : c1.size = c * 2 := by
    rw [← hc1]
    simp only [List.size_toArray, List.length_append, List.length_take, List.length_drop, hed, Array.length_toList, H4.out]
    omega
  have hzl : (Builtin.zeroCells (Value.agg #[.string ⟨#[]⟩, .int .i64 0]).cells 1).size = 2 := by kernel_rfl
  obtain ⟨W2, r2, B2, F2⟩ := run_clearN (P := Tryd.prog) W1 59 0 68 _ i0 g ((n - 1) * 2) 1 (c - (n - 1)) 68 c1 Tryd.underlying59 hi0 hz0 B1 (by rw [hzl, hs1]; omega) (by rw [show (Builtin.zeroCells (Value.agg #[.string ⟨#[]⟩, .int .i64 0]).cells 1).toList = ec [([], 0)] from by kernel_rfl]; exact ec_one _) (by decide)
  have hzl2 : (Builtin.zeroCells (Value.agg #[.string ⟨#[]⟩, .int .i64 0]).cells 1).toList.length = 2 := by rw [Array.length_toList, hzl]
  have hfin : (c1.toList.take ((n - 1) * 2) ++ (Builtin.zeroCells (Value.agg #[.string ⟨#[]⟩, .int .i64 0]).cells 1).toList ++ c1.toList.drop ((n - 1) * 2 + (Builtin.zeroCells (Value.agg #[.string ⟨#[]⟩, .int .i64 0]).cells 1).toList.length)).take ((n - 1) * 2) = ec (m.take i ++ m.drop (i + 1)) := by
    have l1 : (c1.toList.take ((n - 1) * 2)).length = (n - 1) * 2 := by rw [List.length_take, Array.length_toList, hs1]; omega
    rw [List.append_assoc, List.take_append_of_le_length (by rw [l1]; exact Nat.le_refl _), List.take_of_length_le (by rw [l1]; exact Nat.le_refl _), ← hc1]
    have e1 : cur.toList.take (i * 2) = ec (m.take i) := by
      rw [ec_take, ← H3.out, List.take_take, Nat.min_eq_left (by omega)]
    rw [e1, ec_append]
    have l2 : (ec (m.take i)).length = i * 2 := by rw [ec_length, List.length_take, H5.out, Nat.min_eq_left f1]
    exact List.take_left' (by rw [List.length_append, l2, hed]; omega)
  have hs2 : (c1.toList.take ((n - 1) * 2) ++ (Builtin.zeroCells (Value.agg #[.string ⟨#[]⟩, .int .i64 0]).cells 1).toList ++ c1.toList.drop ((n - 1) * 2 + (Builtin.zeroCells (Value.agg #[.string ⟨#[]⟩, .int .i64 0]).cells 1).toList.length)).toArray.size = c * 2 := by
    simp only [List.size_toArray, List.length_append, List.length_take, List.length_drop, hzl2, Array.length_toList, hs1]
    omega
  have HFI := Lib.hid hfin
  have HB2 := Lib.hid B2
  have HS2 := Lib.hid hs2
  have HF1 := Lib.hid (((Fr.refl (fun k => k = g) w).drew.trans F1 (fun _ _ h => h)).trans F2 (fun _ _ h => h))
  have R1 := Lib.hid r1
  have R2 := Lib.hid r2
  clear B1 B2 F1 F2 hfin hs2 hs1 hc1 r1 r2 hed hi0 hz0 hz1 hz2 hsrc hzl hzl2
  go_enter Tryd.func32, Tryd.ntmps32
  go_wp2_with fail
  refine (wpIn_wide (n := 9)).1 ?_
  refine wpIn_region_quietHead (k := 6) (by kernel_rfl) (by kernel_rfl) ?_
  iterate 6
    refine quietWalk_cons (a' := ?_) (v := ?_) ?_ ?_ ?_
    rotate_left 2
    · intro K hK
      gi_step
      exact hK
    · exact rfl
  refine quietWalk_nil ?_
  change wpAnyIn _ _ _ _ _ _ 2 _ _ _
  refine wpAnyIn_ready (rs := [6]) (by kernel_rfl) (by simp) ?_
  refine AllReadyIn.cons rfl (fun K hK => ?_) AllReadyIn.nil
  refine stepIn_append rfl _ _ _ _ rfl _ _ rfl rfl R1.out ?_
  refine hK _ _ ?_
  clear hK K
  change wpAnyIn _ _ _ _ _ _ 1 _ _ _
  refine wpAnyIn_ready (rs := [7]) (by kernel_rfl) (by simp) ?_
  refine AllReadyIn.cons rfl (fun K hK => ?_) AllReadyIn.nil
  go_simp
  refine hK _ _ ?_
  clear hK K
  change wpAnyIn _ _ _ _ _ _ 0 _ _ _
  refine wpAnyIn_done (by kernel_rfl) ?_ _
  show Exit.then _ _ _ _ W1
  go_wp2_with (first | rw [R2.out])
  go_ret
  exact ⟨rfl, HF1.out, _, HB2.out, HS2.out, HFI.out⟩

set_option maxRecDepth 100000 in
set_option maxHeartbeats 1000000 in
/-- The last one, of a full slice. -/
theorem delete_last (w : World) (g i : Nat) (m : Ents) (cur : Array Value) (hB : Blk w g 68 cur) (hm : m.length = (i + 1)) (hc : cur.size = (i + 1) * 2) (hxs : cur.toList.take ((i + 1) * 2) = ec m) (hcm : (i + 1) ≤ maxLen) :
    Calls Tryd.prog 32 #[.slice (some ⟨g, 0, none⟩) (i + 1) (i + 1), .int .i64 i, .int .i64 (i + 1 : Nat)] w fun en w' => en = .returned (.slice (some ⟨g, 0, none⟩) (i) (i + 1)) ∧ Fr (fun k => k = g) w w' ∧
      ∃ cur', Blk w' g 68 cur' ∧ cur'.size = (i + 1) * 2 ∧ cur'.toList.take ((i) * 2) = ec (m.take i ++ m.drop (i + 1)) := by
  have H1 := Lib.hid hB
  have H3 := Lib.hid hxs
  have H4 := Lib.hid hc
  have H5 := Lib.hid hm
  have HCM := Lib.hid hcm
  have hcm2 : (i + 1) ≤ 9223372036854775807 := by unfold maxLen at hcm; omega
  have f1 : i ≤ (i + 1) := by omega
  have f2 : ¬ ((i + 1) = i) := by omega
  have f3 : i + 1 ≤ (i + 1) := by omega
  have f4 : ¬ ((i + 1) = i) := by omega
  have f5 : i ≤ i + 1 := by omega
  have f6 : ¬ ((i : Int) = (i : Int) + 1) := by omega
  have f7 : i + (0) = i := by omega
  have f8 : ¬ ((i + 1) = i) := by omega
  have f9 : (i + 1) - (i) = 1 := by omega
  have f10 : i ≤ (i + 1) := by omega
  have f11 : i ≤ (i + 1) := by omega
  have f12 : i ≤ (i + 1) := by omega
  have f13 : i ≤ 9223372036854775807 := by omega
  clear hB hxs hc hm hcm
  obtain ⟨i0, hi0, hz0, hz1, hz2⟩ := info_parts entry_info
  have hed : (ec (m.drop (i + 1))).length = (0) * 2 := by rw [ec_length, List.length_drop, H5.out, Nat.sub_self]
  have hsrc : Src Tryd.prog 2 59 (.slice (some ⟨g, 0, none⟩) (0) (0)) (0) (ec (m.drop (i + 1))) w.drew := Src.ofSlice w.drew Tryd.underlying59 ⟨g, 0, none⟩ (0) (0) (ec (m.drop (i + 1))) hed (fun j u hj => by
      have hj2 : j < (0) * 2 := by rw [← hed]; exact (List.getElem?_eq_some_iff.1 hj).1
      exfalso; omega) (ec_one _)
  obtain ⟨W1, r1, B1, F1⟩ := run_app_room (P := Tryd.prog) (ty := 59) w.drew 59 59 68 i0 g i (i + 1) (0) 2 _ (ec (m.drop (i + 1))) cur 68 Tryd.underlying59 hi0 hz1 hsrc (by omega) H1.out.drew hed (by rw [hed, H4.out]; omega)
  rw [f7] at r1
  obtain ⟨c1, hc1⟩ : ∃ c1, (cur.toList.take (i * 2) ++ ec (m.drop (i + 1)) ++ cur.toList.drop (i * 2 + (ec (m.drop (i + 1))).length)).toArray = c1 := ⟨_, rfl⟩
  rw [hc1] at B1
  have hs1 : c1.size = (i + 1) * 2 := by
    rw [← hc1]
    simp only [List.size_toArray, List.length_append, List.length_take, List.length_drop, hed, Array.length_toList, H4.out]
    omega
  have hzl : (Builtin.zeroCells (Value.agg #[.string ⟨#[]⟩, .int .i64 0]).cells 1).size = 2 := by kernel_rfl
  obtain ⟨W2, r2, B2, F2⟩ := run_clearN (P := Tryd.prog) W1 59 0 68 _ i0 g ((i) * 2) 1 (1) 68 c1 Tryd.underlying59 hi0 hz0 B1 (by rw [hzl, hs1]; omega) (by rw [show (Builtin.zeroCells (Value.agg #[.string ⟨#[]⟩, .int .i64 0]).cells 1).toList = ec [([], 0)] from by kernel_rfl]; exact ec_one _) (by decide)
  have hzl2 : (Builtin.zeroCells (Value.agg #[.string ⟨#[]⟩, .int .i64 0]).cells 1).toList.length = 2 := by rw [Array.length_toList, hzl]
  have hfin : (c1.toList.take ((i) * 2) ++ (Builtin.zeroCells (Value.agg #[.string ⟨#[]⟩, .int .i64 0]).cells 1).toList ++ c1.toList.drop ((i) * 2 + (Builtin.zeroCells (Value.agg #[.string ⟨#[]⟩, .int .i64 0]).cells 1).toList.length)).take ((i) * 2) = ec (m.take i ++ m.drop (i + 1)) := by
    have l1 : (c1.toList.take ((i) * 2)).length = (i) * 2 := by rw [List.length_take, Array.length_toList, hs1]; omega
    rw [List.append_assoc, List.take_append_of_le_length (by rw [l1]; exact Nat.le_refl _), List.take_of_length_le (by rw [l1]; exact Nat.le_refl _), ← hc1]
    have e1 : cur.toList.take (i * 2) = ec (m.take i) := by
      rw [ec_take, ← H3.out, List.take_take, Nat.min_eq_left (by omega)]
    rw [e1, ec_append]
    have l2 : (ec (m.take i)).length = i * 2 := by rw [ec_length, List.length_take, H5.out, Nat.min_eq_left f1]
    exact List.take_left' (by rw [List.length_append, l2, hed]; omega)
  have hs2 : (c1.toList.take ((i) * 2) ++ (Builtin.zeroCells (Value.agg #[.string ⟨#[]⟩, .int .i64 0]).cells 1).toList ++ c1.toList.drop ((i) * 2 + (Builtin.zeroCells (Value.agg #[.string ⟨#[]⟩, .int .i64 0]).cells 1).toList.length)).toArray.size = (i + 1) * 2 := by
    simp only [List.size_toArray, List.length_append, List.length_take, List.length_drop, hzl2, Array.length_toList, hs1]
    omega
  have HFI := Lib.hid hfin
  have HB2 := Lib.hid B2
  have HS2 := Lib.hid hs2
  have HF1 := Lib.hid (((Fr.refl (fun k => k = g) w).drew.trans F1 (fun _ _ h => h)).trans F2 (fun _ _ h => h))
  have R1 := Lib.hid r1
  have R2 := Lib.hid r2
  clear B1 B2 F1 F2 hfin hs2 hs1 hc1 r1 r2 hed hi0 hz0 hz1 hz2 hsrc hzl hzl2
  go_enter Tryd.func32, Tryd.ntmps32
  go_wp2_with fail
  refine (wpIn_wide (n := 9)).1 ?_
  refine wpIn_region_quietHead (k := 6) (by kernel_rfl) (by kernel_rfl) ?_
  iterate 6
    refine quietWalk_cons (a' := ?_) (v := ?_) ?_ ?_ ?_
    rotate_left 2
    · intro K hK
      gi_step
      exact hK
    · exact rfl
  refine quietWalk_nil ?_
  change wpAnyIn _ _ _ _ _ _ 2 _ _ _
  refine wpAnyIn_ready (rs := [6]) (by kernel_rfl) (by simp) ?_
  refine AllReadyIn.cons rfl (fun K hK => ?_) AllReadyIn.nil
  refine stepIn_append rfl _ _ _ _ rfl _ _ rfl rfl R1.out ?_
  refine hK _ _ ?_
  clear hK K
  change wpAnyIn _ _ _ _ _ _ 1 _ _ _
  refine wpAnyIn_ready (rs := [7]) (by kernel_rfl) (by simp) ?_
  refine AllReadyIn.cons rfl (fun K hK => ?_) AllReadyIn.nil
  go_simp
  refine hK _ _ ?_
  clear hK K
  change wpAnyIn _ _ _ _ _ _ 0 _ _ _
  refine wpAnyIn_done (by kernel_rfl) ?_ _
  show Exit.then _ _ _ _ W1
  go_wp2_with (first | rw [R2.out])
  go_ret
  exact ⟨rfl, HF1.out, _, HB2.out, HS2.out, HFI.out⟩

/-- slices.Delete of one entry. -/
theorem delete_c (w : World) (B i : Nat) (v : Value) (m : Ents) (hO : OwE w B v m) (hi : i < m.length) :
    Calls Tryd.prog 32 #[v, .int .i64 i, .int .i64 (i + 1 : Nat)] w fun en w' => ∃ v', en = .returned v' ∧ OwE w' B v' (m.take i ++ m.drop (i + 1)) ∧ Fr (fun k => v.ownBlock = some k) w w' ∧ v'.ownBlock = v.ownBlock := by
  obtain ⟨g, c, cur, rfl, hbg, hg, hnc, hcm, hcs, htake⟩ := own_blk hO (by omega)
  have hl : (m.take i ++ m.drop (i + 1)).length = m.length - 1 := by
    simp only [List.length_append, List.length_take, List.length_drop]
    omega
  by_cases hcj : c = i + 1
  · have hml : m.length = i + 1 := by omega
    rw [hml] at htake ⊢
    subst hcj
    refine (delete_last w g i m cur hg hml hcs htake hcm).mono ?_
    rintro en w' ⟨rfl, h3, cur', h4, h5, h6⟩
    exact ⟨_, rfl, blk_own hbg h4 (by rw [hl, hml]; rfl) (by omega) hcm h5 h6, h3.mono (fun k _ h => by rw [h]; rfl), rfl⟩
  · refine (delete_mid w g c m.length i m cur hg rfl hcs htake hi hnc hcj hcm).mono ?_
    rintro en w' ⟨rfl, h3, cur', h4, h5, h6⟩
    exact ⟨_, rfl, blk_own hbg h4 hl (by omega) hcm h5 h6, h3.mono (fun k _ h => by rw [h]; rfl), rfl⟩
end Go.Proofs.YtillifkilkjpdaaDoor
