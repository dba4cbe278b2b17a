/-
  CONTRACT of slices.Insert over entries: the other roads; all of them.
-/
import Derived.Test.YtillifkilkjpdaaDoorIns
namespace Go.Proofs.YtillifkilkjpdaaDoor
set_option linter.unusedSimpArgs false
set_option linter.unusedVariables false
open Go Go.RowKit

set_option maxRecDepth 100000 in
set_option maxHeartbeats 1000000 in
/-- There is no room, i < n: a new row. -/
theorem insert_grow (w : World) (g c n i vb : Nat) (m : Ents) (e : List UInt8 × Int) (cur : Array Value) (hB : Blk w g 68 cur) (hm : m.length = n) (hc : cur.size = c * 2) (hxs : cur.toList.take (n * 2) = ec m) (hi : i < n) (hr : c < n + 1) (hnc : n ≤ c) (hbig : (n + 1) * 24 ≤ 140737488355328)
    (hV : Blk w vb 68 #[.string (strOf e.1), .int .i64 e.2]) :
    Calls Tryd.prog 31 #[.slice (some ⟨g, 0, none⟩) n c, .int .i64 i, .slice (some ⟨vb, 0, none⟩) 1 1] w fun en w' => ∃ G, en = .returned (.slice (some ⟨w.heap.size, 0, none⟩) (n + 1) G) ∧ n + 1 ≤ G ∧ G ≤ maxLen ∧ Fr (fun _ => False) w w' ∧
      ∃ cur', Blk w' w.heap.size 68 cur' ∧ cur'.size = G * 2 ∧ cur'.toList.take ((n + 1) * 2) = ec (m.take i ++ e :: m.drop i) := by
  have H1 := Lib.hid hB
  have H2 := Lib.hid hV
  have H3 := Lib.hid hxs
  have H4 := Lib.hid hc
  have H5 := Lib.hid hm
  have hcm2 : c ≤ 9223372036854775807 := by omega
  have f1 : decide ((i : Int) = (n : Int)) = false := decide_eq_false (by omega)
  have f2 : decide ((c : Int) < (n : Int) + 1) = true := decide_eq_true (by omega)
  have f3 : ¬ (c = i) := by omega
  have f4 : i ≤ n := by omega
  have hgw := hB.lt
  have hvw := hV.lt
  clear hB hV hxs hc hm
  have hsz : (Tryd.prog.info? 68).map (·.size) = some 2 := by kernel_rfl
  obtain ⟨i0, hi0, hz0, hz1, hz2⟩ := info_parts entry_info
  have ht1 : (ec (m.take i)).length = i * 2 := by rw [ec_length, List.length_take, H5.out, Nat.min_eq_left f4]
  have hed : (ec (m.drop i)).length = (n - i) * 2 := by rw [ec_length, List.length_drop, H5.out]
  have hold : (Builtin.firstCells i0.size i (.slice (some ⟨g, 0, none⟩) i c)).run Tryd.prog w.drew = .ok (ec (m.take i)).toArray w.drew := by
    rw [hz1]
    refine run_firstCells_some w.drew 2 i ⟨g, 0, none⟩ i c (ec (m.take i)) ht1 (fun j v hj => ?_)
    have hj2 : j < i * 2 := by rw [← ht1]; exact (List.getElem?_eq_some_iff.1 hj).1
    rw [Addr.add_lit, H1.out.drew.cell, ← Array.getElem?_toList, Nat.zero_add]
    rw [ec_take, List.getElem?_take, if_pos hj2, ← H3.out, List.getElem?_take, if_pos (by omega)] at hj
    exact hj
  have hik : i + (n + 1 - i) = n + 1 := by omega
  have r0 := Lib.run_append_grow_zeros (P := Tryd.prog) w 59 3 59 68 i0 _ .i64 .i64 Tryd.underlying59 Tryd.underlying3 hi0 hz0 (some ⟨g, 0, none⟩) i c (ec (m.take i)) hold (n + 1 - i) (by omega) (by rw [hz1]; decide) (by omega) (by omega) (by rw [hz2]; omega) (by rw [hz2, hik]; exact growslice_fits hr hbig)
  rw [hik] at r0
  have hG1 : n + 1 ≤ grownCap w (n + 1) c 68 := grownCap_ge w _ _ _
  have hG2 : grownCap w (n + 1) c 68 ≤ maxLen := grownCap_le_maxLen w (n + 1) c 68 (by unfold maxLen; omega)
  obtain ⟨G, hG⟩ : ∃ G, grownCap w (n + 1) c 68 = G := ⟨_, rfl⟩
  rw [hG] at r0 hG1 hG2
  obtain ⟨ROW, hROW⟩ : ∃ ROW : Array Value, (ec (m.take i)).toArray ++ Builtin.zeroCells (Value.agg #[.string ⟨#[]⟩, .int .i64 0]).cells (n + 1 - i) ++ Builtin.zeroCells (Value.agg #[.string ⟨#[]⟩, .int .i64 0]).cells (G - (n + 1)) = ROW := ⟨_, rfl⟩
  rw [hROW] at r0
  have hs0 : ROW.size = G * 2 := by
    rw [← hROW]
    simp only [Array.size_append, List.size_toArray, size_zeroCells, ht1, show (Value.agg #[.string ⟨#[]⟩, .int .i64 0]).cells.size = 2 from by kernel_rfl]
    omega
  have htk : ROW.toList.take (i * 2) = ec (m.take i) := by
    rw [← hROW]
    simp only [Array.toList_append, List.append_assoc]
    exact List.take_left' ht1
  have B0 := Blk.new w.drew 68 ROW
  have F0 := ((Fr.refl (fun _ => False) w).drew).alloc (.cells ROW 68)
  obtain ⟨W0, hW0⟩ : ∃ W0, w.drew.alloc (.cells ROW 68) = W0 := ⟨_, rfl⟩
  rw [hW0] at r0 B0 F0
  have B0' : Blk W0 w.heap.size 68 ROW := B0
  have V0 := H2.out.fr F0 (fun h => h)
  obtain ⟨W1, r1, B1, F1⟩ := run_copyN (P := Tryd.prog) W0 59 59 3 68 2 w.heap.size (i * 2) (n + 1 - i) (G - i) ⟨vb, 0, none⟩ 1 1 1 (ec [e]) 68 ROW Tryd.underlying59 hsz (by simp only [Nat.min_def]; split <;> omega) (ec_length _)
    (fun j v hj => by
      rw [Addr.add_lit, V0.cell, ← Array.getElem?_toList, Nat.zero_add]
      exact hj) B0' (by rw [ec_length, hs0]; simp only [List.length_singleton]; omega) (ec_one _)
  obtain ⟨c1, hc1⟩ : ∃ c1, (ROW.toList.take (i * 2) ++ ec [e] ++ ROW.toList.drop (i * 2 + (ec [e]).length)).toArray = c1 := ⟨_, rfl⟩
  rw [hc1] at B1
  have l2 : (ec [e]).length = 2 := rfl
  have hs1 : c1.size = G * 2 := by
    rw [← hc1]
    simp only [List.size_toArray, List.length_append, List.length_take, List.length_drop, l2, Array.length_toList, hs0]
    omega
  have G1 : Blk W1.drew g 68 cur := ((H1.out.fr F0 (fun h => h)).fr F1 (by omega)).drew
  obtain ⟨W2, r2, B2, F2⟩ := run_copyN (P := Tryd.prog) W1.drew 59 59 3 68 2 w.heap.size ((i + 1) * 2) (n - i) (G - (i + 1)) ⟨g, i * 2, none⟩ (n - i) (c - i) (n - i) (ec (m.drop i)) 68 c1 Tryd.underlying59 hsz (Nat.min_self _) hed
    (fun j v hj => by
      have hj2 : j < (n - i) * 2 := by rw [← hed]; exact (List.getElem?_eq_some_iff.1 hj).1
      rw [Addr.add_lit]
      rw [ec_drop, List.getElem?_drop, ← H3.out, List.getElem?_take, if_pos (by omega)] at hj
      rw [G1.cell, ← Array.getElem?_toList]
      exact hj) B1.drew (by rw [hed, hs1]; omega) (ec_one _)
  have hfin : (c1.toList.take ((i + 1) * 2) ++ ec (m.drop i) ++ c1.toList.drop ((i + 1) * 2 + (ec (m.drop i)).length)).take ((n + 1) * 2) = ec (m.take i ++ e :: m.drop i) := by
    have e1 : c1.toList.take ((i + 1) * 2) = ec (m.take i) ++ ec [e] := by
      rw [← hc1, htk]
      exact List.take_left' (by rw [List.length_append, ht1, l2]; omega)
    rw [e1, List.take_append_of_le_length (by simp only [List.length_append, ht1, l2, hed]; omega), List.take_of_length_le (by simp only [List.length_append, ht1, l2, hed]; omega)]
    simp [ec]
  have hs2 : (c1.toList.take ((i + 1) * 2) ++ ec (m.drop i) ++ c1.toList.drop ((i + 1) * 2 + (ec (m.drop i)).length)).toArray.size = G * 2 := by
    simp only [List.size_toArray, List.length_append, List.length_take, List.length_drop, hed, Array.length_toList, hs1]
    omega
  have HFI := Lib.hid hfin
  have HB2 := Lib.hid B2
  have HS2 := Lib.hid hs2
  have HF1 : Hid (Fr (fun _ => False) w W2) := ((F0.trans F1 (fun k hk e => absurd e (by omega))).drew).trans F2 (fun k hk e => absurd e (by omega))
  have HG1 := Lib.hid hG1
  have HG2 := Lib.hid hG2
  have g1 : G ≤ 9223372036854775807 := by unfold maxLen at hG2; omega
  have g2 : ¬ (G = i) := by omega
  have g3 : ¬ (G = i + 1) := by omega
  have hkk : (n : Int) + 1 - (i : Int) = ((n + 1 - i : Nat) : Int) := by omega
  have R0 := Lib.hid r0
  have R1 := Lib.hid r1
  have R2 := Lib.hid r2
  clear r0 r1 r2 hW0 B0 B0' F0 V0 B1 F1 G1 B2 F2 hs0 hs1 hs2 hfin htk hROW hc1 hold hi0 hz0 hz1 hz2 hed ht1 hsz hG hG2 l2
  go_enter Tryd.func31, Tryd.ntmps31
  go_wp2_with (first | (at_builtin; refine wpList_appR rfl _ _ _ _ rfl _ _ rfl rfl R0.out ?_) | rw [R1.out])
  refine (wpIn_wide (n := 9)).1 ?_
  refine wpIn_region_quietHead (k := 8) (by kernel_rfl) (by kernel_rfl) ?_
  iterate 8
    refine quietWalk_cons (a' := ?_) (v := ?_) ?_ ?_ ?_
    rotate_left 2
    · intro K hK
      gi_step
      exact hK
    · exact rfl
  refine quietWalk_nil ?_
  change wpAnyIn _ _ _ _ _ _ 1 _ _ _
  refine wpAnyIn_ready (rs := [8]) (by kernel_rfl) (by simp) ?_
  refine AllReadyIn.cons rfl (fun K hK => ?_) AllReadyIn.nil
  refine stepIn_copy rfl _ _ _ _ rfl _ _ rfl rfl R2.out ?_
  refine hK _ _ ?_
  clear hK K
  change wpAnyIn _ _ _ _ _ _ 0 _ _ _
  refine wpAnyIn_done (by kernel_rfl) ?_ _
  show Exit.then _ _ _ _ W2
  go_wp2_with fail
  go_ret
  exact ⟨G, rfl, HG1.out, HG2.out, HF1.out, _, HB2.out, HS2.out, HFI.out⟩

set_option maxRecDepth 100000 in
set_option maxHeartbeats 1000000 in
/-- At the end. -/
theorem insert_end (w : World) (B n vb : Nat) (v : Value) (m : Ents) (e : List UInt8 × Int) (hO : OwE w B v m) (hm : m.length = n) (hbw : B ≤ w.heap.size) (hbig : (n + 1) * 24 ≤ 140737488355328)
    (hV : Blk w vb 68 #[.string (strOf e.1), .int .i64 e.2]) :
    Calls Tryd.prog 31 #[v, .int .i64 n, .slice (some ⟨vb, 0, none⟩) 1 1] w fun en w' => ∃ v', en = .returned v' ∧ OwE w' B v' (m ++ [e]) ∧ Fr (fun k => v.ownBlock = some k) w w' ∧ (v'.ownBlock = v.ownBlock ∨ v'.ownBlock = some w.heap.size) := by
  obtain ⟨i0, hi0, hz0, hz1, hz2⟩ := info_parts entry_info
  obtain ⟨A, c, rfl, hnc, hcm⟩ := own_slice hO
  rw [hm] at hnc
  unfold OwE at hO
  rw [hm] at hO ⊢
  have HO := Lib.hid hO
  have HM := Lib.hid hm
  have HS : Hid (Src Tryd.prog 2 59 (.slice (some ⟨vb, 0, none⟩) 1 1) 1 (ec [e]) w) := Src.ofSlice w Tryd.underlying59 ⟨vb, 0, none⟩ 1 1 (ec [e]) (ec_length _) (fun j u hj => by
      rw [Addr.add_lit, hV.cell, ← Array.getElem?_toList, Nat.zero_add]
      exact hj) (ec_one _)
  have hcm2 : c ≤ 9223372036854775807 := by unfold maxLen at hcm; omega
  have HI := Lib.hid hi0
  clear hi0 hO hV hm hcm
  go_enter Tryd.func31, Tryd.ntmps31
  go_wp2_with (first
    | (at_builtin
       refine wpList_app rfl _ _ _ _ rfl B 68 i0 _ 2 24 Tryd.underlying59 HI.out hz0 hz1 hz2 (by kernel_rfl) _ n _ rfl HO.out _ 1 _ rfl HS.out (by omega) (by unfold maxLen; omega) hbw ?_
       intro v9 w9 hown9 hf9 hn9
       have H9 := Lib.hid hown9
       have F9 := Lib.hid hf9
       have N9 := Lib.hid hn9
       clear hown9 hf9 hn9))
  all_goals
    go_ret
    refine ⟨v9, rfl, ?_, (by cases A <;> exact F9.out), (by cases A <;> exact N9.out)⟩
    have h9 := H9.out
    show w9.ownsRow B 68 2 v9 (m ++ [e]).length (ec (m ++ [e]))
    rw [ec_append, List.length_append, HM.out]
    exact h9

theorem own_blk {w : World} {B : Nat} {v : Value} {m : Ents} (h : OwE w B v m) (hn : 0 < m.length) : ∃ g c cur, v = .slice (some ⟨g, 0, none⟩) m.length c ∧ B ≤ g ∧ Blk w g 68 cur ∧ m.length ≤ c ∧ c ≤ maxLen ∧ cur.size = c * 2 ∧ cur.toList.take (m.length * 2) = ec m := by
  rcases h.2 with ⟨rfl, h0⟩ | ⟨g, cap, cur, rfl, hbg, hg, hnc, hcm, hcs, htake⟩
  · omega
  · exact ⟨g, cap, cur, rfl, hbg, hg, hnc, hcm, hcs, htake⟩
theorem blk_own {w : World} {B g c n : Nat} {m : Ents} {cur : Array Value} (hb : B ≤ g) (h : Blk w g 68 cur) (hn : m.length = n) (hnc : n ≤ c) (hcm : c ≤ maxLen) (hcs : cur.size = c * 2) (ht : cur.toList.take (n * 2) = ec m) : OwE w B (.slice (some ⟨g, 0, none⟩) n c) m := by
  subst hn
  exact ⟨ec_length m, .inr ⟨g, c, cur, rfl, hb, h, hnc, hcm, hcs, ht⟩⟩

/-- slices.Insert of one entry. -/
theorem insert_c (w : World) (B i vb : Nat) (v : Value) (m : Ents) (e : List UInt8 × Int) (hO : OwE w B v m) (hi : i ≤ m.length) (hbw : B ≤ w.heap.size) (hbig : (m.length + 1) * 24 ≤ 140737488355328)
    (hV : Blk w vb 68 #[.string (strOf e.1), .int .i64 e.2]) (hne : v.ownBlock ≠ some vb) :
    Calls Tryd.prog 31 #[v, .int .i64 i, .slice (some ⟨vb, 0, none⟩) 1 1] w fun en w' => ∃ v', en = .returned v' ∧ OwE w' B v' (m.take i ++ e :: m.drop i) ∧ Fr (fun k => v.ownBlock = some k) w w' ∧ (v'.ownBlock = v.ownBlock ∨ v'.ownBlock = some w.heap.size) := by
  rcases Nat.lt_or_ge i m.length with hlt | hge
  · obtain ⟨g, c, cur, rfl, hbg, hg, hnc, hcm, hcs, htake⟩ := own_blk hO (by omega)
    have hl : (m.take i ++ e :: m.drop i).length = m.length + 1 := by
      simp only [List.length_append, List.length_take, List.length_cons, List.length_drop]
      omega
    rcases Nat.lt_or_ge c (m.length + 1) with hr | hr
    · refine (insert_grow w g c m.length i vb m e cur hg rfl hcs htake hlt hr hnc hbig hV).mono ?_
      rintro en w' ⟨G, rfl, h1, h2, h3, cur', h4, h5, h6⟩
      exact ⟨_, rfl, blk_own hbw h4 hl h1 h2 h5 h6, h3.mono (fun _ _ h => h.elim), .inr rfl⟩
    · refine (insert_shift w g c m.length i vb m e cur hg rfl hcs htake hlt hr hcm hV (fun h => hne (by rw [h]; rfl))).mono ?_
      rintro en w' ⟨rfl, h3, cur', h4, h5, h6⟩
      exact ⟨_, rfl, blk_own hbg h4 hl hr hcm h5 h6, h3.mono (fun k _ h => by rw [h]; rfl), .inl rfl⟩
  · have : i = m.length := by omega
    subst this
    rw [List.take_length, List.drop_length]
    exact insert_end w B m.length vb v m e hO rfl hbw hbig hV
end Go.Proofs.YtillifkilkjpdaaDoor
