/-
  CONTRACT of digest's mix.
-/
import Derived.Test.YtjaocgmicdnghaaGreatDoorSteps
import Derived.Test.YtjaocgmicdnghaaGreatDoorStir
import Derived.Test.YtjaocgmicdnghaaGreatDoorWords
import Derived.Test.YtjaocgmicdnghaaGreatDoorTabs
import Derived.Test.YtjaocgmicdnghaaGreatDoorPar
import Derived.Deep.QuietTactic
import Derived.BigQuiet
namespace Go.Proofs.YtjaocgmicdnghaaGreatDoor
set_option linter.unusedSimpArgs false
set_option linter.unusedVariables false
open Go Go.RowKit Go.Shelf
attribute [local go_sem] Oper.semAt_some

/-- The vector while it is laid. -/
def vi (H : List Nat) (i : Nat) : List Nat := (List.range 16).map fun j => if j < i then at_ H j else if 8 ≤ j ∧ j < 8 + i then at_ ivs (j - 8) else 0
theorem vi_len (H : List Nat) (i : Nat) : (vi H i).length = 16 := by simp [vi]
theorem vi_zero (H : List Nat) : vi H 0 = List.replicate 16 0 := by
  apply List.ext_getElem
  · simp [vi]
  · intro j h1 h2
    simp only [vi, List.getElem_map, List.getElem_range, List.getElem_replicate]
    rw [if_neg (by omega), if_neg (by omega)]
theorem vi_step (H : List Nat) (i : Nat) (hi : i < 8) : ((vi H i).set i (at_ H i)).set (i + 8) (at_ ivs i) = vi H (i + 1) := by
  apply List.ext_getElem
  · simp [vi]
  · intro j h1 h2
    rw [List.getElem_set, List.getElem_set]
    simp only [vi, List.getElem_map, List.getElem_range]
    by_cases h : i + 8 = j
    · subst h
      rw [if_pos rfl, if_neg (by omega), if_pos (by omega), Nat.add_sub_cancel]
    · rw [if_neg h]
      by_cases h3 : i = j
      · subst h3
        rw [if_pos rfl, if_pos (by omega)]
      · rw [if_neg h3]
        by_cases h4 : j < i
        · rw [if_pos h4, if_pos (by omega)]
        · rw [if_neg h4, if_neg (show ¬ j < i + 1 by omega)]
          by_cases h5 : 8 ≤ j ∧ j < 8 + i
          · rw [if_pos h5, if_pos (by omega)]
          · rw [if_neg h5, if_neg (by omega)]
theorem vi_all (H : List Nat) (hH : H.length = 8) : vi H 8 = H ++ ivs := by
  apply List.ext_getElem
  · simp [vi, hH, ivs]
  · intro j h1 h2
    simp only [vi, List.getElem_map, List.getElem_range]
    rw [vi_len] at h1
    by_cases h : j < 8
    · rw [if_pos h, List.getElem_append_left (by omega)]
      unfold at_
      rw [List.getElem?_eq_getElem (by omega)]
      rfl
    · rw [if_neg h, if_pos (by omega), List.getElem_append_right (by omega)]
      unfold at_
      rw [List.getElem?_eq_getElem (by show _ < 8; omega)]
      simp only [Option.getD_some, hH]
theorem ws_vi {H : List Nat} (h : Ws 8 H) (i : Nat) : Ws 16 (vi H i) := ⟨vi_len H i, fun x hx => by
  obtain ⟨j, -, rfl⟩ := List.mem_map.1 hx
  split
  · exact at_lt h j
  · split
    · exact at_lt ws_ivs _
    · omega⟩

/-- The state while it is closed. -/
def hx (H V : List Nat) (i : Nat) : List Nat := (List.range 8).map fun j => if j < i then at_ H j ^^^ (at_ V j ^^^ at_ V (j + 8)) else at_ H j
theorem hx_len (H V : List Nat) (i : Nat) : (hx H V i).length = 8 := by simp [hx]
theorem hx_zero (H V : List Nat) (h : H.length = 8) : hx H V 0 = H := by
  apply List.ext_getElem
  · simp [hx, h]
  · intro j h1 h2
    simp only [hx, List.getElem_map, List.getElem_range]
    rw [if_neg (by omega)]
    unfold at_
    rw [List.getElem?_eq_getElem h2]
    rfl
theorem hx_at (H V : List Nat) (i : Nat) (hi : i < 8) : at_ (hx H V i) i = at_ H i := by
  unfold hx
  rw [at_, List.getElem?_map, List.getElem?_range hi]
  show (if i < i then _ else _) = _
  rw [if_neg (by omega)]
theorem hx_step (H V : List Nat) (i : Nat) (hi : i < 8) : (hx H V i).set i (at_ H i ^^^ (at_ V i ^^^ at_ V (i + 8))) = hx H V (i + 1) := by
  apply List.ext_getElem
  · simp [hx]
  · intro j h1 h2
    rw [List.getElem_set]
    simp only [hx, List.getElem_map, List.getElem_range]
    by_cases h : i = j
    · subst h; rw [if_pos rfl, if_pos (by omega)]
    · rw [if_neg h]
      by_cases h3 : j < i
      · rw [if_pos h3, if_pos (by omega)]
      · rw [if_neg h3, if_neg (by omega)]
theorem hx_all (H V : List Nat) : hx H V 8 = (List.range 8).map fun i => at_ H i ^^^ (at_ V i ^^^ at_ V (i + 8)) := by
  unfold hx
  apply List.map_congr_left
  intro j hj
  rw [if_pos (List.mem_range.1 hj)]
/-- The marks of loops over iterators, the newest first. -/
def Marks (n0 : Nat) (w : World) : List Deferred → Prop
  | [] => True
  | d :: ds => (∃ D, d = { target := .collected D, args := #[] } ∧ n0 ≤ D ∧ w.heap[D]? = some (.deferred (some [])) ∧ ∀ d' ∈ ds, ∀ D', d' = { target := .collected D', args := #[] } → D' < D) ∧ Marks n0 w ds
theorem Marks.fr {n0 : Nat} {w w' : World} {fp : Nat → Prop} (hf : Fr fp w w') (h0 : ∀ k, n0 ≤ k → ¬ fp k) : ∀ ds, Marks n0 w ds → Marks n0 w' ds
  | [], _ => trivial
  | d :: ds, ⟨⟨D, h1, h2, h3, h4⟩, h5⟩ => ⟨⟨D, h1, h2, (hf.block D (Array.getElem?_eq_some_iff.1 h3).1 (h0 D h2)).trans h3, h4⟩, Marks.fr hf h0 ds h5⟩
theorem Marks.fr2 {n0 : Nat} {w w' : World} {fp : Nat → Prop} (hf : Fr fp w w') : ∀ ds, (∀ d ∈ ds, ∀ D, d = { target := .collected D, args := #[] } → n0 ≤ D → ¬ fp D) → Marks n0 w ds → Marks n0 w' ds
  | [], _, _ => trivial
  | d :: ds, h0, ⟨⟨D, h1, h2, h3, h4⟩, h5⟩ => ⟨⟨D, h1, h2, (hf.block D (Array.getElem?_eq_some_iff.1 h3).1 (h0 d List.mem_cons_self D h1 h2)).trans h3, h4⟩, Marks.fr2 hf ds (fun d' hd => h0 d' (List.mem_cons_of_mem _ hd)) h5⟩
theorem Marks.lt {n0 : Nat} {w : World} : ∀ ds, Marks n0 w ds → ∀ d' ∈ ds, ∀ D', d' = { target := .collected D', args := #[] } → D' < w.heap.size
  | d :: ds, ⟨⟨D, h1, h2, h3, h4⟩, h5⟩, d', hd, D', e => by
    rcases List.mem_cons.1 hd with rfl | hd
    · rw [e] at h1
      injection h1 with h1 _
      injection h1 with h1
      subst h1
      exact (Array.getElem?_eq_some_iff.1 h3).1
    · exact Marks.lt ds h5 d' hd D' e
theorem Marks.take {n0 D : Nat} {w : World} (o : Obj) : ∀ ds, Marks n0 w ds → (∀ d' ∈ ds, ∀ D', d' = { target := .collected D', args := #[] } → D' < D) → Marks n0 (w.putObj D o) ds
  | [], _, _ => trivial
  | d :: ds, ⟨⟨D2, h1, h2, h3, h4⟩, h5⟩, hl => ⟨⟨D2, h1, h2, (World.putObj_heap_other (by have := hl d List.mem_cons_self D2 h1; omega)).trans h3, h4⟩, Marks.take o ds h5 (fun d' hd => hl d' (List.mem_cons_of_mem _ hd))⟩
theorem leaves_marks {F : Fence} {n n0 : Nat} {P : Program} {fn : Func} {tmps : Array Value} {R : Ending → World → Prop} : ∀ (ds : List Deferred) (w : World), Marks n0 w ds → (∀ w', Fr (fun k => n0 ≤ k) w w' → LeavesIn F n P fn tmps R [] .returning w') → LeavesInM F n P fn tmps R ds .returning w
  | [], w, _, h => h w (Fr.refl _ w)
  | d :: ds, w, ⟨⟨D, h1, h2, h3, h4⟩, h5⟩, h => by
    subst h1
    refine ⟨by simp, .inl ⟨D, _, rfl, run_takeDeferred h3, ?_⟩⟩
    have fp : Fr (fun k => n0 ≤ k) w (w.putObj D (.deferred none)) := (Fr.refl (fun k => n0 ≤ k) w).putObj (fun _ => h2) _
    exact leaves_marks ds _ (Marks.take _ ds h5 h4) (fun w' hf => h w' (fp.trans hf (fun _ _ h => h)))

/-- A frame of 94 places, written out. -/
theorem frame94 (T : Array Value) (h : T.size = 94) : ∃ x : Nat → Value, (∀ i, x i = T.getD i undef) ∧ T = #[x 0, x 1, x 2, x 3, x 4, x 5, x 6, x 7, x 8, x 9, x 10, x 11, x 12, x 13, x 14, x 15, x 16, x 17, x 18, x 19, x 20, x 21, x 22, x 23, x 24, x 25, x 26, x 27, x 28, x 29, x 30, x 31, x 32, x 33, x 34, x 35, x 36, x 37, x 38, x 39, x 40, x 41, x 42, x 43, x 44, x 45, x 46, x 47, x 48, x 49, x 50, x 51, x 52, x 53, x 54, x 55, x 56, x 57, x 58, x 59, x 60, x 61, x 62, x 63, x 64, x 65, x 66, x 67, x 68, x 69, x 70, x 71, x 72, x 73, x 74, x 75, x 76, x 77, x 78, x 79, x 80, x 81, x 82, x 83, x 84, x 85, x 86, x 87, x 88, x 89, x 90, x 91, x 92, x 93] := by
  refine ⟨fun i => T.getD i undef, fun _ => rfl, ?_⟩
  apply Array.ext_getElem?
  intro i
  by_cases hi : i < 94
  · have e : T[i]? = some (T.getD i undef) := by rw [Array.getD_eq_getD_getElem?, Array.getElem?_eq_getElem (by omega)]; rfl
    rw [e]
    have : ∀ y : Nat → Value, some (y i) = (#[y 0, y 1, y 2, y 3, y 4, y 5, y 6, y 7, y 8, y 9, y 10, y 11, y 12, y 13, y 14, y 15, y 16, y 17, y 18, y 19, y 20, y 21, y 22, y 23, y 24, y 25, y 26, y 27, y 28, y 29, y 30, y 31, y 32, y 33, y 34, y 35, y 36, y 37, y 38, y 39, y 40, y 41, y 42, y 43, y 44, y 45, y 46, y 47, y 48, y 49, y 50, y 51, y 52, y 53, y 54, y 55, y 56, y 57, y 58, y 59, y 60, y 61, y 62, y 63, y 64, y 65, y 66, y 67, y 68, y 69, y 70, y 71, y 72, y 73, y 74, y 75, y 76, y 77, y 78, y 79, y 80, y 81, y 82, y 83, y 84, y 85, y 86, y 87, y 88, y 89, y 90, y 91, y 92, y 93] : Array Value)[i]? := fun y => by
      have hl : (#[y 0, y 1, y 2, y 3, y 4, y 5, y 6, y 7, y 8, y 9, y 10, y 11, y 12, y 13, y 14, y 15, y 16, y 17, y 18, y 19, y 20, y 21, y 22, y 23, y 24, y 25, y 26, y 27, y 28, y 29, y 30, y 31, y 32, y 33, y 34, y 35, y 36, y 37, y 38, y 39, y 40, y 41, y 42, y 43, y 44, y 45, y 46, y 47, y 48, y 49, y 50, y 51, y 52, y 53, y 54, y 55, y 56, y 57, y 58, y 59, y 60, y 61, y 62, y 63, y 64, y 65, y 66, y 67, y 68, y 69, y 70, y 71, y 72, y 73, y 74, y 75, y 76, y 77, y 78, y 79, y 80, y 81, y 82, y 83, y 84, y 85, y 86, y 87, y 88, y 89, y 90, y 91, y 92, y 93] : Array Value) = ((List.range 94).map y).toArray := rfl
      rw [hl]
      simp [hi]
    exact this (fun i => T.getD i undef)
  · rw [Array.getElem?_eq_none (by omega), Array.getElem?_eq_none (by show 94 ≤ i; omega)]
/-- What the rounds keep. -/
def MixI (H : List Nat) (A : Option Addr) (c n g0 g1 gm : Nat) (w2 : World) (m V : List Nat) (a : Act) (wq : World) : Prop :=
  ∃ (r : Nat) (ds : List Deferred) (T : Array Value), T.size = 94 ∧ T.getD 0 undef = .agg (uv H) ∧ T.getD 4 undef = .pointer (some ⟨g0, 0, none⟩) ∧ T.getD 8 undef = .pointer (some ⟨g1, 0, none⟩) ∧ T.getD 9 undef = .pointer (some ⟨gm, 0, none⟩) ∧
    T.getD 10 undef = .pointer (some ⟨w2.heap.size, 0, none⟩) ∧ T.getD 51 undef = .int .i64 (r : Int) ∧ r ≤ 10 ∧ Hid (Blk wq w2.heap.size 111 (uv (rnds m V r))) ∧ Hid (Fr (fun _ => False) w2 wq) ∧ Hid (Marks (w2.heap.size + 1) wq ds) ∧ a = { tmps := T, defers := ds }
def mixMu (a : Act) (_ : World) : Nat := 10 - (intOf (a.tmps.getD 51 undef)).toNat

set_option maxRecDepth 100000 in
set_option maxHeartbeats 1000000 in
theorem mix_c (w : World) (H : List Nat) (A : Option Addr) (c : Nat) (b : List UInt8) (n : Nat) (last : Bool) (hH : Ws 8 H) (hA : Rd w A 64 (bv b)) (hn : n < 18446744073709551616) (hT : Tabs w) :
    Calls Tryz.prog 73 #[.agg (uv H), .slice A 64 c, .int .u64 (n : Int), .bool last] w fun e w' => e = .returned (.agg (uv (mixL H (wds b) n last))) ∧ Fr (fun _ => False) w w' := by
  have HA := Lib.hid hA
  have HH := Lib.hid hH
  have HN := Lib.hid hn
  have HT := Lib.hid hT
  clear hA hH hn hT
  refine (callsIn_wide (n := 9)).1 ?_
  refine callsIn_of_wp_marks Tryz.func73 rfl trivial ?_ rfl
  simp only [Tryz.ntmps73, List.size_toArray, List.length_cons, List.length_nil, Nat.reduceAdd, Nat.reduceSub, Array.replicate_succ, Array.replicate_zero, List.push_toArray, List.append_toArray, List.nil_append, List.cons_append]
  refine wpIn_wide.2 ?_
  have b1 := Blk.new w 77 (uv H)
  have f0 := ((Fr.refl (fun _ => False) w).alloc (.cells (uv H) 77)).alloc (.cells #[.int .u32 0, .int .u32 0, .int .u32 0, .int .u32 0, .int .u32 0, .int .u32 0, .int .u32 0, .int .u32 0] 77)
  have b2 := Blk.new (w.alloc (.cells (uv H) 77)) 77 #[.int .u32 0, .int .u32 0, .int .u32 0, .int .u32 0, .int .u32 0, .int .u32 0, .int .u32 0, .int .u32 0]
  rw [World.size_alloc] at b2
  have B1 := Lib.hid (b1.alloc (.cells #[.int .u32 0, .int .u32 0, .int .u32 0, .int .u32 0, .int .u32 0, .int .u32 0, .int .u32 0, .int .u32 0] 77))
  have B2 := Lib.hid b2
  have F0 := Lib.hid f0
  clear b1 f0 b2
  go_wp2_with fail
  refine (words_c _ A c b (HA.out.far F0.out)).mono ?_
  rintro e w1 ⟨rfl, f1⟩
  have F1 := Lib.hid (F0.out.trans f1 (fun _ _ h => h))
  have C1 := Lib.hid (B1.out.fr f1 (fun h => h))
  have C2 := Lib.hid (B2.out.fr f1 (fun h => h))
  clear f1 F0 B1 B2
  have hone := uv_one (wds b)
  have HONE := Lib.hid hone
  have hsz : (Tryz.prog.info? 111).map (·.size) = some (uv (wds b)).size := by rw [uv_size, (ws_wds b).1]; kernel_rfl
  have HSZ := Lib.hid hsz
  clear hone hsz
  have b3 := Blk.new w1 111 #[.int .u32 0, .int .u32 0, .int .u32 0, .int .u32 0, .int .u32 0, .int .u32 0, .int .u32 0, .int .u32 0, .int .u32 0, .int .u32 0, .int .u32 0, .int .u32 0, .int .u32 0, .int .u32 0, .int .u32 0, .int .u32 0]
  have F2 := (Fr.refl (fun _ => False) w1).alloc (.cells #[.int .u32 0, .int .u32 0, .int .u32 0, .int .u32 0, .int .u32 0, .int .u32 0, .int .u32 0, .int .u32 0, .int .u32 0, .int .u32 0, .int .u32 0, .int .u32 0, .int .u32 0, .int .u32 0, .int .u32 0, .int .u32 0] 111)
  have hth : (w1.alloc (.cells #[.int .u32 0, .int .u32 0, .int .u32 0, .int .u32 0, .int .u32 0, .int .u32 0, .int .u32 0, .int .u32 0, .int .u32 0, .int .u32 0, .int .u32 0, .int .u32 0, .int .u32 0, .int .u32 0, .int .u32 0, .int .u32 0] 111)).there w1.heap.size 0 (uv (wds b)).size := by
    have := b3.there
    rw [uv_size, (ws_wds b).1]
    exact this
  have HTH := Lib.hid hth
  have C3 := Lib.hid (b3.setAll (ds := uv (wds b)) (by rw [uv_size, (ws_wds b).1]; rfl))
  have F3 := Fr.setCells (g := w1.heap.size) (fun h => absurd h (Nat.lt_irrefl _)) (uv (wds b)).toList 0 _ F2
  have F4 := Lib.hid (F1.out.trans F3 (fun _ _ h => h))
  have D1 := Lib.hid (C1.out.fr F3 (fun h => h))
  have D2 := Lib.hid (C2.out.fr F3 (fun h => h))
  clear hth b3 F2 F3 F1 C1 C2
  go_wp2_with (refine wpList_store_mid rfl 111 _ _ rfl w1.heap.size 0 (uv (wds b)) rfl rfl ?_ HSZ.out HONE.out ?_; · exact HTH.out)
  generalize (w1.alloc (.cells #[.int .u32 0, .int .u32 0, .int .u32 0, .int .u32 0, .int .u32 0, .int .u32 0, .int .u32 0, .int .u32 0, .int .u32 0, .int .u32 0, .int .u32 0, .int .u32 0, .int .u32 0, .int .u32 0, .int .u32 0, .int .u32 0] 111)).setCells w1.heap.size 0 (uv (wds b)).toList = w2 at *
  have V0 : Hid (Blk (w2.alloc (.cells #[.int .u32 0, .int .u32 0, .int .u32 0, .int .u32 0, .int .u32 0, .int .u32 0, .int .u32 0, .int .u32 0, .int .u32 0, .int .u32 0, .int .u32 0, .int .u32 0, .int .u32 0, .int .u32 0, .int .u32 0, .int .u32 0] 111)) w2.heap.size 111 (uv (vi H 0))) := by
    rw [vi_zero]
    exact Blk.new w2 _ _
  have G0 := Lib.hid ((Fr.refl (fun _ => False) w2).alloc (.cells #[.int .u32 0, .int .u32 0, .int .u32 0, .int .u32 0, .int .u32 0, .int .u32 0, .int .u32 0, .int .u32 0, .int .u32 0, .int .u32 0, .int .u32 0, .int .u32 0, .int .u32 0, .int .u32 0, .int .u32 0, .int .u32 0] 111))
  clear HTH HSZ HONE
  go_loopw [18] (fun u wr => ∃ i : Nat, i ≤ 8 ∧ u = .int .i64 (i : Int) ∧ Hid (Blk wr w2.heap.size 111 (uv (vi H i))) ∧ Hid (Fr (fun _ => False) w2 wr)) (fun u wr => 8 - (intOf u).toNat)
  case atStart => exact ⟨0, by omega, rfl, V0.out, G0.out⟩
  case round =>
    obtain ⟨i, hi, rfl, hb, hf⟩ := hrel
    by_cases h8 : i < 8
    · have h8' : decide ((i : Int) < 8) = true := decide_eq_true (by omega)
      have x1 : wr.cell? ⟨w.heap.size, i, none⟩ = some (.int .u32 (at_ H i : Nat)) := by rw [(D1.out.fr hf.out (fun h => h)).cell, uv_get _ _ (by rw [HH.out.1]; exact h8)]
      have x2 : wr.cell? ⟨1, i, none⟩ = some (.int .u32 (at_ ivs i : Nat)) := ((HT.out.far F4.out).far hf.out).i i h8
      have y1 : wr.cell? ⟨w2.heap.size, i, none⟩ = some (.int .u32 (at_ (vi H i) i : Nat)) := by rw [hb.out.cell, uv_get _ _ (by rw [vi_len]; omega)]
      have y2 : wr.cell? ⟨w2.heap.size, i + 8, none⟩ = some (.int .u32 (at_ (vi H i) (i + 8) : Nat)) := by rw [hb.out.cell, uv_get _ _ (by rw [vi_len]; omega)]
      have r1 : wr.frozen? ⟨w2.heap.size, i, none⟩ = false := hb.out.frozen _
      have r2 : wr.frozen? ⟨w2.heap.size, i + 8, none⟩ = false := hb.out.frozen _
      have e1 : IntKind.i64.wrap ((i : Int) + 8) = (i : Int) + 8 := IntWalk.i64_in _ (by omega)
      have e2 : ((i : Int) + 8).toNat = i + 8 := by omega
      have e3 : (0 : Int) ≤ (i : Int) + 8 := by omega
      have e4 : (i : Int) + 8 < 16 := by omega
      have e5 : (i : Int) < 16 := by omega
      go_wp2_with fail
      go_region
      go_wp2_with fail
      have hs := (hb.out.set_ i (.int .u32 (at_ H i : Nat))).set_ (i + 8) (.int .u32 (at_ ivs i : Nat))
      rw [uv_set, uv_set, vi_step H i h8] at hs
      exact ⟨⟨i + 1, by omega, by go_num, hs.drew, (((hf.out.setCell (p := ⟨w2.heap.size, i, none⟩) (fun h => absurd h (Nat.lt_irrefl _)) _).setCell (p := ⟨w2.heap.size, i + 8, none⟩) (fun h => absurd h (Nat.lt_irrefl _)) _)).drew⟩, by simp [intOf]; omega⟩
    · have h8' : decide ((i : Int) < 8) = false := by simp; omega
      obtain rfl : i = 8 := by omega
      have hb1 := hb.out
      rw [vi_all H HH.out.1] at hb1
      have HB1 := Lib.hid hb1
      clear hb hb1 h8'
      have hcell : ∀ j, j < 8 → wr.cell? ⟨w2.heap.size, 8 + j, none⟩ = some (.int .u32 (at_ ivs j : Nat)) := fun j hj => by
        rw [HB1.out.cell, uv_get _ _ (by rw [List.length_append, HH.out.1]; show _ < 8 + 8; omega)]
        congr 3
        unfold at_
        rw [List.getElem?_append_right (by rw [HH.out.1]; omega), HH.out.1, Nat.add_sub_cancel_left]
      obtain ⟨k4, hk4⟩ : ∃ k, at_ ivs 4 = k := ⟨_, rfl⟩
      obtain ⟨k5, hk5⟩ : ∃ k, at_ ivs 5 = k := ⟨_, rfl⟩
      obtain ⟨k6, hk6⟩ : ∃ k, at_ ivs 6 = k := ⟨_, rfl⟩
      have hk4l : k4 < 4294967296 := by rw [← hk4]; decide
      have hk5l : k5 < 4294967296 := by rw [← hk5]; decide
      have hk6l : k6 < 4294967296 := by rw [← hk6]; decide
      have x12 : wr.cell? ⟨w2.heap.size, 12, none⟩ = some (.int .u32 (k4 : Int)) := by rw [← hk4]; exact hcell 4 (by omega)
      have x13 : wr.cell? ⟨w2.heap.size, 13, none⟩ = some (.int .u32 (k5 : Int)) := by rw [← hk5]; exact hcell 5 (by omega)
      have x14 : wr.cell? ⟨w2.heap.size, 14, none⟩ = some (.int .u32 (k6 : Int)) := by rw [← hk6]; exact hcell 6 (by omega)
      have r12 : wr.frozen? ⟨w2.heap.size, 12, none⟩ = false := HB1.out.frozen _
      have r13 : wr.frozen? ⟨w2.heap.size, 13, none⟩ = false := HB1.out.frozen _
      have r14 : wr.frozen? ⟨w2.heap.size, 14, none⟩ = false := HB1.out.frozen _
      have h1 : bits .xor .u32 (k4 : Int) ((n : Int) % 4294967296) = ((k4 ^^^ n % 4294967296 : Nat) : Int) := by
        rw [show (n : Int) % 4294967296 = ((n % 4294967296 : Nat) : Int) from by omega]
        exact u32_xor_nat _ _ hk4l (Nat.mod_lt _ (by omega))
      have hq : n / 4294967296 < 4294967296 := by have := HN.out; omega
      have hQ : ((n : Int) / 4294967296) = ((n / 4294967296 : Nat) : Int) := by omega
      have HV := Lib.hid (show v0 H n last = if last then (((H ++ ivs).set 12 (k4 ^^^ n % 4294967296)).set 13 (k5 ^^^ n / 4294967296)).set 14 (k6 ^^^ 4294967295) else (((H ++ ivs).set 12 (k4 ^^^ n % 4294967296)).set 13 (k5 ^^^ n / 4294967296)) from by rw [← hk4, ← hk5, ← hk6]; rfl)
      clear hk4 hk5 hk6 hcell
      obtain ⟨n1, hn1⟩ : ∃ n1, n / 4294967296 = n1 := ⟨_, rfl⟩
      rw [hn1] at hq hQ HV
      have h2 : bits .xor .u32 (k5 : Int) (n1 : Int) = ((k5 ^^^ n1 : Nat) : Int) := u32_xor_nat _ _ hk5l hq
      have h3 : bits .xor .u32 IntKind.u32.max (k6 : Int) = ((k6 ^^^ 4294967295 : Nat) : Int) := by
        rw [show IntKind.u32.max = ((4294967295 : Nat) : Int) from rfl, u32_xor_nat _ _ (by omega) hk6l, Nat.xor_comm]
      have hn0 : (0 : Int) ≤ (n : Int) := by omega
      clear hn1
      have ws0 : Hid (Ws 16 (v0 H n last)) := HH.out.ofV0 n HN.out last
      go_upto_if 46 with fail
      go_cut [] from 47 to 50 (fun wx => Hid (Blk wx w2.heap.size 111 (uv (v0 H n last))) ∧ Hid (Fr (fun _ => False) w2 wx))
      case first =>
        as_aux_lemma =>
        cases last
        · go_wp2_with fail
          go_meet
          have hs := (HB1.out.set_ 12 (.int .u32 ((k4 ^^^ n % 4294967296 : Nat) : Int))).set_ 13 (.int .u32 ((k5 ^^^ n1 : Nat) : Int))
          rw [uv_set, uv_set] at hs
          have hv := HV.out
          rw [if_neg (by decide)] at hv
          rw [← hv] at hs
          exact ⟨hs, (hf.out.setCell (p := ⟨w2.heap.size, 12, none⟩) (fun h => absurd h (Nat.lt_irrefl _)) _).setCell (p := ⟨w2.heap.size, 13, none⟩) (fun h => absurd h (Nat.lt_irrefl _)) _⟩
        · go_wp2_with fail
          go_meet
          have hs := ((HB1.out.set_ 12 (.int .u32 ((k4 ^^^ n % 4294967296 : Nat) : Int))).set_ 13 (.int .u32 ((k5 ^^^ n1 : Nat) : Int))).set_ 14 (.int .u32 ((k6 ^^^ 4294967295 : Nat) : Int))
          rw [uv_set, uv_set, uv_set] at hs
          have hv := HV.out
          rw [if_pos trivial] at hv
          rw [← hv] at hs
          exact ⟨hs, ((hf.out.setCell (p := ⟨w2.heap.size, 12, none⟩) (fun h => absurd h (Nat.lt_irrefl _)) _).setCell (p := ⟨w2.heap.size, 13, none⟩) (fun h => absurd h (Nat.lt_irrefl _)) _).setCell (p := ⟨w2.heap.size, 14, none⟩) (fun h => absurd h (Nat.lt_irrefl _)) _⟩
      case rest =>
        as_aux_lemma =>
        obtain ⟨hb3, hf3⟩ := hcut
        clear x12 x13 x14 r12 r13 r14 h1 h2 h3 hn0 hq hQ hk4l hk5l hk6l HV HB1 hf V0 G0
        go_wp2_with fail
        refine wp_loop (MixI H A c n w.heap.size (w.heap.size + 1) w1.heap.size w2 (wds b) (v0 H n last)) mixMu ⟨0, [], _, rfl, rfl, rfl, rfl, rfl, rfl, rfl, by omega, hb3.out, hf3.out, trivial, rfl⟩ ?_
        rintro a wq ⟨r, ds, T, hTs, e0, e4, e8, e9, e10, e51, hr, hb, hf, hm, rfl⟩
        obtain ⟨x, hx, rfl⟩ := frame94 T hTs
        rw [← hx] at e0 e4 e8 e9 e10 e51
        clear hx hTs
        rw [e0, e4, e8, e9, e10, e51]
        by_cases h10 : r < 10
        · have h10' : decide ((r : Int) < 10) = true := decide_eq_true (by omega)
          go_wp2_with fail
          clear h10'
          have hgv : w2.heap.size < wq.heap.size := hb.out.lt
          have hkb := Blk.new wq 3 #[.int .i64 (r : Int)]
          have hka := (Fr.refl (fun _ => False) wq).alloc (.cells #[.int .i64 (r : Int)] 3)
          have I0 : Hid (Blk (wq.alloc (.cells #[.int .i64 (r : Int)] 3)) w2.heap.size 111 (uv (stps (wds b) r (rnds (wds b) (v0 H n last) r) 0)) ∧ Blk (wq.alloc (.cells #[.int .i64 (r : Int)] 3)) wq.heap.size 3 #[.int .i64 (r : Int)] ∧ Fr (fun _ => False) w2 (wq.alloc (.cells #[.int .i64 (r : Int)] 3)) ∧ Marks (w2.heap.size + 1) (wq.alloc (.cells #[.int .i64 (r : Int)] 3)) ds) :=
            ⟨hb.out.fr hka (fun h => h), hkb, hf.out.trans hka (fun _ _ h => h), Marks.fr hka (fun _ _ h => h) ds hm.out⟩
          have hsz4 : (wq.alloc (.cells #[.int .i64 (r : Int)] 3)).heap.size = wq.heap.size + 1 := by simp
          have HSZ4 := Lib.hid hsz4
          clear hkb hka hb hf hm hsz4
          generalize wq.alloc (.cells #[.int .i64 (r : Int)] 3) = w4 at *
          refine (wpIn_wide (n := 9)).1 ?_
          refine wpIn_range_joint (α := Nat) (gf := 92) (lb := #[]) rfl (enters_of Tryz.func92 (by kernel_rfl) rfl) (fun _ i => qargs i) (fun _ _ => rfl) (fun pre i => pre.length = i ∧ i < 8) (fun xs => xs.length = 8)
            (fun k => k = w2.heap.size) 0 ?own (fun pre W => Hid (Blk W w2.heap.size 111 (uv (stps (wds b) r (rnds (wds b) (v0 H n last) r) pre.length)) ∧ Blk W wq.heap.size 3 #[.int .i64 (r : Int)] ∧ Fr (fun _ => False) w2 W ∧ Marks (w2.heap.size + 1) W ds)) ?ab I0 ?it ?round ?done
          case own =>
            intro k hk
            rw [HSZ4.out]
            omega
          case ab =>
            intro pre P Q hi hf
            rw [HSZ4.out] at hf
            have hml := Marks.lt ds I0.out.2.2.2
            rw [HSZ4.out] at hml
            obtain ⟨h1, h2, h3, h4⟩ := hi.out
            exact ⟨h1.fr hf (by omega), h2.fr hf (by omega), h3.trans hf (fun k hk e => by omega), Marks.fr2 hf ds (fun d hd D e hD => by have := hml d hd D e; omega) h4⟩
          case it =>
            intro W1 hs1 hf1 J hJ hY hJ0
            rw [HSZ4.out] at hs1
            refine (steps_c (9 - 1) (by omega) (w4.heap.size + 1) J W1 (fun pre P Q hj hf => hJ _ _ _ hj (hf.mono (fun _ _ h => h.elim))) (fun pre i W' hj hl hi => ?_) hJ0).mono (fun e W' ⟨he, xs, hx, hj⟩ => ⟨he, xs, hx, hj⟩)
            exact (hY pre i W' hj ⟨hl, hi⟩).mono (fun e W'' ⟨h1, h2, h3⟩ => ⟨h1, h2⟩)
          case round =>
            intro pre i W' hi hsz hok
            obtain ⟨hpl, hi8⟩ := hok
            unfold qargs
            gi_wp2_with fail
            refine ⟨(Fr.refl _ W').alloc _, fun w5 hf5 => ?_⟩
            rw [HSZ4.out] at hsz
            obtain ⟨h1, h2, h3, h4⟩ := hi.out
            rw [hpl] at h1
            have hfa := (Fr.refl (fun _ => False) W').alloc (.cells #[.int .i64 (qd i 0 : Nat), .int .i64 (qd i 1 : Nat), .int .i64 (qd i 2 : Nat), .int .i64 (qd i 3 : Nat)] 115)
            have hfw : Fr (fun k => k = w4.heap.size + 1) W' w5 := (hfa.mono (fun _ _ h => h.elim)).trans hf5 (fun _ _ h => h)
            have hgm : w1.heap.size < w2.heap.size := C3.out.lt
            have b14 := (Blk.new W' 115 #[.int .i64 (qd i 0 : Nat), .int .i64 (qd i 1 : Nat), .int .i64 (qd i 2 : Nat), .int .i64 (qd i 3 : Nat)]).fr hf5 (by rw [HSZ4.out]; omega)
            have b12 := h2.fr hfw (by rw [HSZ4.out]; omega)
            have bv := h1.fr hfw (by rw [HSZ4.out]; omega)
            have bm := (C3.out.fr h3 (fun h => h)).fr hfw (by rw [HSZ4.out]; omega)
            have hlt5 := ((HT.out.far F4.out).far h3).lt
            have hlt6 := (HT.out.far F4.out).lt
            have htb := (((HT.out.far F4.out).far h3).fr hfw (by rw [HSZ4.out]; omega) (by rw [HSZ4.out]; omega)).drewN 1
            have hwsm := ws_wds b
            have x14a : w5.drew.cell? ⟨W'.heap.size, 0, none⟩ = some (.int .i64 (qd i 0 : Nat)) := b14.drew.cell 0
            have x14b : w5.drew.cell? ⟨W'.heap.size, 1, none⟩ = some (.int .i64 (qd i 1 : Nat)) := b14.drew.cell 1
            have x14c : w5.drew.cell? ⟨W'.heap.size, 2, none⟩ = some (.int .i64 (qd i 2 : Nat)) := b14.drew.cell 2
            have x14d : w5.drew.cell? ⟨W'.heap.size, 3, none⟩ = some (.int .i64 (qd i 3 : Nat)) := b14.drew.cell 3
            have x12 : w5.drew.cell? ⟨wq.heap.size, 0, none⟩ = some (.int .i64 (r : Int)) := b12.drew.cell 0
            have xo1 : w5.drew.cell? ⟨4, r * 16 + 2 * i, none⟩ = some (.int .u8 (od r (2 * i) : Nat)) := htb.o (r * 16 + 2 * i) (by omega)
            have xo2 : w5.drew.cell? ⟨4, r * 16 + (2 * i + 1), none⟩ = some (.int .u8 (od r (2 * i + 1) : Nat)) := htb.o (r * 16 + (2 * i + 1)) (by omega)
            have xm1 : w5.drew.cell? ⟨w1.heap.size, od r (2 * i), none⟩ = some (.int .u32 (at_ (wds b) (od r (2 * i)) : Nat)) := by rw [bm.drew.cell, uv_get _ _ (by rw [hwsm.1]; exact od_lt _ _)]
            have xm2 : w5.drew.cell? ⟨w1.heap.size, od r (2 * i + 1), none⟩ = some (.int .u32 (at_ (wds b) (od r (2 * i + 1)) : Nat)) := by rw [bm.drew.cell, uv_get _ _ (by rw [hwsm.1]; exact od_lt _ _)]
            have ho1 := od_lt r (2 * i)
            have ho2 := od_lt r (2 * i + 1)
            have hy1 := at_lt hwsm (od r (2 * i))
            have hy2 := at_lt hwsm (od r (2 * i + 1))
            have hq0 := qd_lt i 0 (by omega)
            have hq1 := qd_lt i 1 (by omega)
            have hq2 := qd_lt i 2 (by omega)
            have hq3 := qd_lt i 3 (by omega)
            have HST : Hid (stps (wds b) r (rnds (wds b) (v0 H n last) r) (i + 1) = st (stps (wds b) r (rnds (wds b) (v0 H n last) r) i) (qd i 0) (qd i 1) (qd i 2) (qd i 3) (at_ (wds b) (od r (2 * i))) (at_ (wds b) (od r (2 * i + 1)))) := rfl
            have hws := ((ws0.out.rnds (wds b) r).stps (wds b) r i)
            have HWS := Lib.hid hws
            have HBV := Lib.hid bv
            have HFW := Lib.hid hfw
            have H4 := Lib.hid h4
            have H3 := Lib.hid h3
            have HB12 := Lib.hid b12
            have HPL := Lib.hid hpl
            clear hwsm hws bv bm b12 b14 htb hfw hfa h4 h3 h2 h1 hf5 hpl
            generalize stps (wds b) r (rnds (wds b) (v0 H n last) r) i = VV at *
            generalize od r (2 * i) = o1 at *
            generalize od r (2 * i + 1) = o2 at *
            generalize at_ (wds b) o1 = m1 at *
            generalize at_ (wds b) o2 = m2 at *
            generalize qd i 0 = q0 at *
            generalize qd i 1 = q1 at *
            generalize qd i 2 = q2 at *
            generalize qd i 3 = q3 at *
            gi_wp2_with fail
            refine wpIn_region_quietHead (k := 18) (by kernel_rfl) (by kernel_rfl) ?_
            have hrI : (r : Int) < 10 := by omega
            have hiI : (2 : Int) * (i : Int) < 16 := by omega
            have hiI2 : (2 : Int) * (i : Int) + 1 < 16 := by omega
            have hiN : ((2 : Int) * (i : Int)).toNat = 2 * i := by omega
            have hiN2 : ((2 : Int) * (i : Int) + 1).toNat = 2 * i + 1 := by omega
            have ho1I : (o1 : Int) < 16 := by omega
            have ho2I : (o2 : Int) < 16 := by omega
            iterate 18
              refine quietWalk_cons (a' := ?_) (v := ?_) ?_ ?_ ?_
              rotate_left 2
              · intro K hK
                gi_step
                exact hK
              · exact rfl
            refine quietWalk_nil ?_
            change wpAnyIn _ _ _ _ _ _ 1 _ _ _
            refine wpAnyIn_ready (rs := [18]) (by kernel_rfl) (by simp) ?_
            refine AllReadyIn.cons rfl (fun K hK => ?_) AllReadyIn.nil
            clear x14a x14b x14c x14d x12 xo1 xo2 xm1 xm2
            go_simp
            refine ⟨trivial, ?_⟩
            refine (CallsIn.inRound _ (callsIn_wide.2 (stir_c w5.drew w2.heap.size q0 q1 q2 q3 VV HBV.out.drew HWS.out hq0 hq1 hq2 hq3 m1 m2 hy1 hy2))).mono ?_
            rintro e w6 ⟨rfl, hb6, hf6⟩
            dsimp only
            refine hK _ _ ?_
            refine wpAnyIn_done (by kernel_rfl) ?_ _
            gi_wp2_with fail
            have hff : Fr (fun k => k = w2.heap.size) w5 w6 := ((Fr.refl (fun k => k = w2.heap.size) w5).drew).trans hf6 (fun _ _ h => h)
            have hfa : Fr (fun k => k = w4.heap.size + 1 ∨ k = w2.heap.size) W' w6 := (HFW.out.mono (fun _ _ h => .inl h)).trans hff (fun _ _ h => .inr h)
            have hml := Marks.lt ds I0.out.2.2.2
            rw [HSZ4.out] at hml
            refine ⟨hff, ?_, HB12.out.fr hff (by omega), H3.out.trans hfa (fun k hk e => by rw [HSZ4.out] at e; omega), Marks.fr2 hfa ds (fun d hd D e hD => by have := hml d hd D e; rw [HSZ4.out]; omega) H4.out⟩
            rw [List.length_append, HPL.out, show i + [i].length = i + 1 from rfl, HST.out]
            exact hb6
          case done =>
            intro D xs W' hD hxs hi hd
            obtain ⟨h1, h2, h3, h4⟩ := hi.out
            rw [hxs] at h1
            have hml := Marks.lt ds I0.out.2.2.2
            have HM := Lib.hid (show Marks (w2.heap.size + 1) W' ({ target := .collected D, args := #[] } :: ds) from ⟨⟨D, rfl, by have := HSZ4.out; omega, hd, fun d' hd' D' e => by rw [hD]; exact hml d' hd' D' e⟩, h4⟩)
            have H1 := Lib.hid h1
            have H3 := Lib.hid h3
            clear h1 h2 h3 h4 hd hi hxs hml
            dsimp only
            go_wp2_with fail
            refine ⟨⟨r + 1, _, _, rfl, rfl, rfl, rfl, rfl, rfl, by go_num, by omega, H1.out, H3.out, HM.out, rfl⟩, ?_⟩
            show 10 - (intOf (.int .i64 ((r : Int) + 1))).toNat < 10 - (intOf (.int .i64 (r : Int))).toNat
            simp [intOf]
            omega
        · obtain rfl : r = 10 := by omega
          have h10' : decide (((10 : Nat) : Int) < 10) = false := by decide
          obtain ⟨VV, hVV⟩ : ∃ VV, rnds (wds b) (v0 H n last) 10 = VV := ⟨_, rfl⟩
          have hws := ws0.out.rnds (wds b) 10
          rw [hVV] at hb hws
          have HVV := Lib.hid hVV
          have HWS := Lib.hid hws
          clear hVV hws
          have hB0 := D1.out.fr hf.out (fun h => h)
          rw [← hx_zero H VV HH.out.1] at hB0
          have HB0 := Lib.hid hB0
          have HD2 := Lib.hid (D2.out.fr hf.out (fun h => h))
          clear hB0
          go_wp2_with fail
          clear h10'
          have hg1 : w.heap.size + 1 < w2.heap.size := D2.out.lt
          go_loopw [76] (fun u wr => ∃ i : Nat, i ≤ 8 ∧ u = .int .i64 (i : Int) ∧ Hid (Blk wr w.heap.size 77 (uv (hx H VV i))) ∧ Hid (Fr (fun k => k = w.heap.size) wq wr)) (fun u wr => 8 - (intOf u).toNat)
          case atStart => exact ⟨0, by omega, rfl, HB0.out, Fr.refl _ _⟩
          case round =>
            obtain ⟨i, hi, rfl, hb2, hf2⟩ := hrel
            by_cases h8 : i < 8
            · have h8' : decide ((i : Int) < 8) = true := decide_eq_true (by omega)
              have y1 : wr.cell? ⟨w.heap.size, i, none⟩ = some (.int .u32 (at_ H i : Nat)) := by rw [hb2.out.cell, uv_get _ _ (by rw [hx_len]; exact h8), hx_at H VV i h8]
              have q1 : wr.frozen? ⟨w.heap.size, i, none⟩ = false := hb2.out.frozen _
              have bv := hb.out.fr hf2.out (by omega)
              have x1 : wr.cell? ⟨w2.heap.size, i, none⟩ = some (.int .u32 (at_ VV i : Nat)) := by rw [bv.cell, uv_get _ _ (by rw [HWS.out.1]; omega)]
              have x2 : wr.cell? ⟨w2.heap.size, i + 8, none⟩ = some (.int .u32 (at_ VV (i + 8) : Nat)) := by rw [bv.cell, uv_get _ _ (by rw [HWS.out.1]; omega)]
              have l1 := at_lt HH.out i
              have l2 := at_lt HWS.out i
              have l3 := at_lt HWS.out (i + 8)
              have k1 : bits .xor .u32 (at_ VV i : Int) (at_ VV (i + 8) : Int) = ((at_ VV i ^^^ at_ VV (i + 8) : Nat) : Int) := u32_xor_nat _ _ l2 l3
              have k2 : bits .xor .u32 (at_ H i : Int) ((at_ VV i ^^^ at_ VV (i + 8) : Nat) : Int) = ((at_ H i ^^^ (at_ VV i ^^^ at_ VV (i + 8)) : Nat) : Int) := u32_xor_nat _ _ l1 (Nat.xor_lt_two_pow (n := 32) l2 l3)
              have e1 : IntKind.i64.wrap ((i : Int) + 8) = (i : Int) + 8 := IntWalk.i64_in _ (by omega)
              have e2 : ((i : Int) + 8).toNat = i + 8 := by omega
              have e3 : (0 : Int) ≤ (i : Int) + 8 := by omega
              have e4 : (i : Int) + 8 < 16 := by omega
              have e5 : (i : Int) < 16 := by omega
              clear bv l1 l2 l3
              go_wp2_with fail
              have hs := hb2.out.set_ i (.int .u32 ((at_ H i ^^^ (at_ VV i ^^^ at_ VV (i + 8)) : Nat) : Int))
              rw [uv_set, hx_step H VV i h8] at hs
              have y1 : wr.drew.cell? ⟨w.heap.size, i, none⟩ = some (.int .u32 (at_ H i : Nat)) := y1
              have q1 : wr.drew.frozen? ⟨w.heap.size, i, none⟩ = false := q1
              have x1 : wr.drew.cell? ⟨w2.heap.size, i, none⟩ = some (.int .u32 (at_ VV i : Nat)) := x1
              have x2 : wr.drew.cell? ⟨w2.heap.size, i + 8, none⟩ = some (.int .u32 (at_ VV (i + 8) : Nat)) := x2
              refine (wpIn_wide (n := 9)).1 ?_
              refine wpIn_region_quietHead (k := 13) (by kernel_rfl) (by kernel_rfl) ?_
              iterate 13
                refine quietWalk_cons (a' := ?_) (v := ?_) ?_ ?_ ?_
                rotate_left 2
                · intro K hK
                  gi_step
                  exact hK
                · exact rfl
              refine quietWalk_nil ?_
              change wpAnyIn _ _ _ _ _ _ 1 _ _ _
              refine wpAnyIn_ready (rs := [13]) (by kernel_rfl) (by simp) ?_
              refine AllReadyIn.cons rfl (fun K hK => ?_) AllReadyIn.nil
              go_simp
              refine hK _ _ ?_
              refine wpAnyIn_done (by kernel_rfl) ?_ _
              clear hK K x1 x2 k1 k2 y1 q1
              go_wp2_with fail
              have hs := hb2.out.set_ i (.int .u32 ((at_ H i ^^^ (at_ VV i ^^^ at_ VV (i + 8)) : Nat) : Int))
              rw [uv_set, hx_step H VV i h8] at hs
              exact ⟨⟨i + 1, by omega, by go_num, hs.drew, (hf2.out.setCell (p := ⟨w.heap.size, i, none⟩) (fun _ => rfl) _).drew⟩, by simp [intOf]; omega⟩
            · have h8' : decide ((i : Int) < 8) = false := by simp; omega
              obtain rfl : i = 8 := by omega
              have hb3 := hb2.out
              rw [hx_all, ← HVV.out] at hb3
              have hb3 : Blk wr w.heap.size 77 (uv (mixL H (wds b) n last)) := hb3
              have hwm := HH.out.ofMix (wds b) n HN.out last
              have hB2 := HD2.out.fr hf2.out (by omega)
              have hsz : (Tryz.prog.info? 77).map (·.size) = some (uv (mixL H (wds b) n last)).size := by rw [uv_size, hwm.1]; kernel_rfl
              have hth : wr.there (w.heap.size + 1) 0 (uv (mixL H (wds b) n last)).size := by rw [uv_size, hwm.1]; exact hB2.there
              have hst := hB2.setAll (ds := uv (mixL H (wds b) n last)) (by rw [uv_size, hwm.1]; rfl)
              have HB3 := Lib.hid hb3
              have HSZ := Lib.hid hsz
              have HTH := Lib.hid hth
              have HST := Lib.hid hst
              have HONE := Lib.hid (uv_one (mixL H (wds b) n last))
              have FST := Lib.hid (Fr.setCells (fp := fun k => k = w.heap.size ∨ k = w.heap.size + 1) (a := wq) (g := w.heap.size + 1) (fun _ => .inr rfl) (uv (mixL H (wds b) n last)).toList 0 wr (hf2.out.mono (fun _ _ h => .inl h)))
              clear hb2 hb3 hsz hth hst hwm hB2 HVV HWS hb
              obtain ⟨R, hR⟩ : ∃ R, uv (mixL H (wds b) n last) = R := ⟨_, rfl⟩
              rw [hR] at HB3 HSZ HTH HST HONE FST
              have HR := Lib.hid hR
              clear hR
              go_wp2_with (first
                | refine wpList_load_row rfl 77 _ rfl w.heap.size rfl 77 R (0, 0) _ HB3.out Tryz.underlying77 rfl HSZ.out ?_
                | refine wpList_store_mid rfl 77 _ _ rfl (w.heap.size + 1) 0 R rfl rfl HTH.out HSZ.out HONE.out ?_)
              generalize wr.setCells (w.heap.size + 1) 0 R.toList = w9 at *
              have hmk := Marks.fr FST.out (by omega) ds hm.out
              refine leaves_marks ds w9 hmk (fun w10 hf10 => ?_)
              have hst := HST.out.fr hf10 (by omega)
              refine ⟨.agg R, results_cell_row Tryz.results73 _ _ (w.heap.size + 1) 77 _ (0, 0) _ rfl hst Tryz.underlying77 rfl HSZ.out, by rw [HR.out], ?_⟩
              have f1 := F4.out.trans hf.out (fun _ _ h => h)
              have f2 := f1.trans FST.out (fun k hk e => by omega)
              exact f2.trans hf10 (fun k hk e => by have := F4.out.size; omega)
end Go.Proofs.YtjaocgmicdnghaaGreatDoor
