/-
  CONTRACT of pull's send.
-/
import Derived.Test.YtaenibbhpidjcaaGreatDoorQuest
namespace Go.Proofs.YtaenibbhpidjcaaGreatDoor
set_option linter.unusedSimpArgs false
set_option linter.unusedVariables false
open Go Go.RowKit

def seX (x sz : Nat) (u s1 : ByteArray) (inc n ph since1 most1 : Int) (i : Nat) (v : Value) (W : World) : Prop := match i with
  | 0 => v = .pointer (some ⟨x, 0, none⟩)
  | 1 => v = .pointer (some ⟨x, 0, none⟩)
  | 2 => v = .pointer (some ⟨x, 0, none⟩)
  | 3 => v = .pointer (some ⟨x, 19, none⟩)
  | 4 => v = .slice none 0 0
  | 5 => v = .agg (askA u 0 inc n ph s1 since1 most1 0 0)
  | 6 => ∃ b, v = .slice (some ⟨b, 0, none⟩) 1 1 ∧ sz ≤ b ∧ Blk W b 52 (askA u 0 inc n ph s1 since1 most1 0 0)
  | 7 => ∃ q c, v = .slice (some ⟨q, 0, none⟩) 1 c ∧ sz ≤ q ∧ Rd W (some ⟨q, 0, none⟩) 37 ((askA u 0 inc n ph s1 since1 most1 0 0)).toList
  | _ => True
theorem seX_far {x sz : Nat} {u s1 : ByteArray} {inc n ph since1 most1 : Int} {i : Nat} {v : Value} {W W' : World} (hg : Fr (fun _ => False) W W') (hx : seX x sz u s1 inc n ph since1 most1 i v W) : seX x sz u s1 inc n ph since1 most1 i v W' := by
  match i with
  | 0 => exact hx
  | 1 => exact hx
  | 2 => exact hx
  | 3 => exact hx
  | 4 => exact hx
  | 5 => exact hx
  | 6 => obtain ⟨g, e, l, b⟩ := hx; exact ⟨g, e, l, b.fr hg (fun h => h)⟩
  | 7 => obtain ⟨q, c, e, l, r⟩ := hx; exact ⟨q, c, e, l, r.far hg⟩
  | (n + 8) => exact hx
theorem load_ask (W : World) (g : Nat) (u : ByteArray) (push inc n kind : Int) (s : ByteArray) (since most seq life : Int) (h : Blk W g 52 (askA u push inc n kind s since most seq life)) :
    (Instr.loadAt 52 (.pointer (some ⟨g, 0, none⟩))).run Tryz.prog W = .ok (.agg (askA u push inc n kind s since most seq life)) W := by
  have := run_loadAt_mid (P := Tryz.prog) W g 0 52 _ _ h.rng Tryz.underlying52 rfl tAsk_size
  rwa [Array.toArray_toList] at this
theorem bs_ask (W : World) (u : ByteArray) (inc n ph : Int) (s1 : ByteArray) (since1 most1 : Int) : (Instr.buildSlice 38 1 #[(0, .agg (askA u 0 inc n ph s1 since1 most1 0 0))]).run Tryz.prog W = .ok (.slice (some ⟨W.heap.size, 0, none⟩) 1 1) (W.alloc (.cells (askA u 0 inc n ph s1 since1 most1 0 0) 52)) := by kernel_rfl
theorem ask_info : (Tryz.prog.info? 52).map (fun i => (i.zero.map (·.cells.size), i.size, i.bytes)) = some (some 37, 37, 288) := by kernel_rfl
set_option maxRecDepth 100000 in
set_option maxHeartbeats 1000000 in
theorem send_c (w : World) (x : Nat) (u s : ByteArray) (inc n ph since life to_ asked done why now seq : Int) (LA : Option Addr) (ln lc : Nat) (s1 : ByteArray) (since1 most1 : Int) (hB : Blk w x 75 #[.string u, .string s, .int .u64 inc, .int .u64 n, .int .i64 ph, .int .u64 since, .int .u64 life, .int .u64 to_, .slice none 0 0, .slice none 0 0, .int .u64 asked, .int .i64 done, .int .i64 why, .int .u64 now, .int .u64 seq, .slice none 0 0, .slice LA ln lc, .slice none 0 0, .slice none 0 0, .slice none 0 0])
    (hq : ∀ W, Blk W x 75 #[.string u, .string s, .int .u64 inc, .int .u64 n, .int .i64 ph, .int .u64 since, .int .u64 life, .int .u64 to_, .slice none 0 0, .slice none 0 0, .int .u64 now, .int .i64 done, .int .i64 why, .int .u64 now, .int .u64 seq, .slice none 0 0, .slice LA ln lc, .slice none 0 0, .slice none 0 0, .slice none 0 0] → Calls Tryz.prog 23 #[.pointer (some ⟨x, 0, none⟩)] W fun e w' => e = .returned (.tuple #[.agg (askA u 0 inc n ph s1 since1 most1 0 0), .bool true]) ∧ Fr (fun _ => False) W w') :
    Calls Tryz.prog 35 #[.pointer (some ⟨x, 0, none⟩)] w fun e w' => e = .returned (.tuple #[]) ∧ ∃ q c, Blk w' x 75 #[.string u, .string s, .int .u64 inc, .int .u64 n, .int .i64 ph, .int .u64 since, .int .u64 life, .int .u64 to_, .slice none 0 0, .slice none 0 0, .int .u64 now, .int .i64 done, .int .i64 why, .int .u64 now, .int .u64 seq, .slice none 0 0, .slice LA ln lc, .slice none 0 0, .slice none 0 0, .slice (some ⟨q, 0, none⟩) 1 c] ∧ Rd w' (some ⟨q, 0, none⟩) 37 ((askA u 0 inc n ph s1 since1 most1 0 0)).toList ∧ w.heap.size ≤ q ∧ Fr (fun k => k = x) w w' := by
  have HB := Lib.hid hB
  have HQ := Lib.hid hq
  have c13 : w.cell? ⟨x, 13, none⟩ = some (.int .u64 now) := hB.cell 13
  have c10 : w.cell? ⟨x, 10, none⟩ = some (.int .u64 asked) := hB.cell 10
  have r10 := hB.frozen 10
  clear hB hq
  go_enter Tryz.func35, Tryz.ntmps35
  go_wp2_with fail
  clear c13 c10 r10
  have B1 : Hid (Blk (w.setCell ⟨x, 10, none⟩ (.int .u64 now)) x 75 #[.string u, .string s, .int .u64 inc, .int .u64 n, .int .i64 ph, .int .u64 since, .int .u64 life, .int .u64 to_, .slice none 0 0, .slice none 0 0, .int .u64 now, .int .i64 done, .int .i64 why, .int .u64 now, .int .u64 seq, .slice none 0 0, .slice LA ln lc, .slice none 0 0, .slice none 0 0, .slice none 0 0]) := HB.out.set_ 10 (.int .u64 now)
  have F1 : Hid (Fr (fun k => k = x) w (w.setCell ⟨x, 10, none⟩ (.int .u64 now))) := (Fr.refl (fun k => k = x) w).setCell (p := ⟨x, 10, none⟩) (fun _ => rfl) _
  refine (HQ.out _ B1.out).mono ?_
  rintro e w2 ⟨rfl, f2⟩
  have B2 := Lib.hid (keepB B1.out f2)
  have F2 : Hid (Fr (fun k => k = x) w w2) := F1.out.trans f2 (fun _ _ h => h.elim)
  clear f2 B1 F1 HB
  go_wp2_with (refine wpList_store_blk rfl 52 _ _ rfl w2.heap.size (askA u 0 inc n ph s1 since1 most1 0 0) rfl rfl (Blk.new w2 _ _) rfl tAsk_size (askA_one _ _ _ _ _ _ _ _ _ _) ?_
               rintro w3 b3 f3
               have G3 := Lib.hid b3
               have B3 := Lib.hid ((B2.out.alloc _).fr f3 (by have := B2.out.lt; omega))
               have F3 : Hid (Fr (fun k => k = x) w w3) := (F2.out.alloc _).trans f3 (fun k hk e => by have := F2.out.size; omega)
               have HXG : Hid (x < w2.heap.size) := B2.out.lt
               have HWG : Hid (w.heap.size ≤ w2.heap.size) := F2.out.size
               clear b3 f3 B2 F2)
  refine (wpIn_wide (n := 9)).1 ?_
  refine wpIn_region_factsG (ms := [0, 0, 2, 6, 14, 0, 32, 126, 255, 511, 1023]) (k := 8) (Fr (fun _ => False)) (seX x w3.heap.size u s1 inc n ph since1 most1) (fun i v W => True) (by kernel_rfl) (by kernel_rfl) (Fr.refl _ _) (fun a b c h1 h2 => h1.trans h2 (fun _ _ h => h)) (fun i v w w' hg hx => seX_far hg hx) ?walk1
  case walk1 =>
  have hdr : ∀ W, Fr (fun _ => False) w3.drew W → Fr (fun _ => False) w3 W := fun W h => ((Fr.refl (fun _ => False) w3).drew).trans h (fun _ _ h => h)
  have HDR := Lib.hid hdr
  clear hdr
  refine factWalkG_cons (fun W hW hf K hK => ?_) (fun x0 => ?_)
  · skip
    refine ⟨by kernel_rfl, ?_⟩
    gi_step
    exact hK _ _ (Fr.refl _ _) rfl trivial
  simp only [Act.put, List.setIfInBounds_toArray, List.set_cons_succ, List.set_cons_zero]
  refine factWalkG_cons (fun W hW hf K hK => ?_) (fun x1 => ?_)
  · skip
    refine ⟨by kernel_rfl, ?_⟩
    gi_step
    exact hK _ _ (Fr.refl _ _) rfl trivial
  simp only [Act.put, List.setIfInBounds_toArray, List.set_cons_succ, List.set_cons_zero]
  refine factWalkG_cons (fun W hW hf K hK => ?_) (fun x2 => ?_)
  · skip
    have e1 : x1 = .pointer (some ⟨x, 0, none⟩) := hf 1 (by omega) (by kernel_rfl)
    subst e1
    refine ⟨by kernel_rfl, ?_⟩
    gi_step
    exact hK _ _ (Fr.refl _ _) rfl trivial
  simp only [Act.put, List.setIfInBounds_toArray, List.set_cons_succ, List.set_cons_zero]
  refine factWalkG_cons (fun W hW hf K hK => ?_) (fun x3 => ?_)
  · skip
    have e2 : x2 = .pointer (some ⟨x, 0, none⟩) := hf 2 (by omega) (by kernel_rfl)
    subst e2
    refine ⟨by kernel_rfl, ?_⟩
    gi_step
    exact hK _ _ (Fr.refl _ _) rfl trivial
  simp only [Act.put, List.setIfInBounds_toArray, List.set_cons_succ, List.set_cons_zero]
  refine factWalkG_cons (fun W hW hf K hK => ?_) (fun x4 => ?_)
  · skip
    have e3 : x3 = .pointer (some ⟨x, 19, none⟩) := hf 3 (by omega) (by kernel_rfl)
    subst e3
    have hbx := keepB B3.out (HDR.out W hW)
    have cx : W.cell? ⟨x, 19, none⟩ = some (.slice none 0 0) := hbx.cell 19
    refine ⟨by kernel_rfl, ?_⟩
    gi_step
    exact hK _ _ (Fr.refl _ _) rfl trivial
  simp only [Act.put, List.setIfInBounds_toArray, List.set_cons_succ, List.set_cons_zero]
  refine factWalkG_cons (fun W hW hf K hK => ?_) (fun x5 => ?_)
  · skip
    have hld := load_ask W w2.heap.size _ _ _ _ _ _ _ _ _ _ (keepB G3.out (HDR.out W hW))
    refine ⟨by kernel_rfl, ?_⟩
    refine operIn_load 52 _ rfl _ rfl hld ?_
    exact hK _ _ (Fr.refl _ _) rfl trivial
  simp only [Act.put, List.setIfInBounds_toArray, List.set_cons_succ, List.set_cons_zero]
  refine factWalkG_cons (fun W hW hf K hK => ?_) (fun x6 => ?_)
  · skip
    have e5 : x5 = .agg (askA u 0 inc n ph s1 since1 most1 0 0) := hf 5 (by omega) (by kernel_rfl)
    subst e5
    have hbs := bs_ask W u inc n ph s1 since1 most1
    refine ⟨by kernel_rfl, ?_⟩
    refine operIn_bs1 38 1 0 _ rfl _ rfl hbs ?_
    exact hK _ _ ((Fr.refl _ _).alloc _) ⟨_, rfl, (HDR.out W hW).size, Blk.new _ _ _⟩ trivial
  simp only [Act.put, List.setIfInBounds_toArray, List.set_cons_succ, List.set_cons_zero]
  refine factWalkG_cons (fun W hW hf K hK => ?_) (fun x7 => ?_)
  · skip
    have e4 : x4 = .slice none 0 0 := hf 4 (by omega) (by kernel_rfl)
    obtain ⟨b6, e6, l6, k6⟩ : ∃ b, x6 = .slice (some ⟨b, 0, none⟩) 1 1 ∧ w3.heap.size ≤ b ∧ Blk W b 52 (askA u 0 inc n ph s1 since1 most1 0 0) := hf 6 (by omega) (by kernel_rfl)
    subst e4 e6
    have hii := ask_info
    obtain ⟨ii, hi0, hii2⟩ := Option.map_eq_some_iff.1 hii
    injection hii2 with hz hii3
    injection hii3 with h37 h288
    obtain ⟨z, hz0, hz1⟩ := Option.map_eq_some_iff.1 hz
    obtain ⟨v9, w9, hr9, o9, f9, n9⟩ := run_app (P := Tryz.prog) W W.heap.size 38 38 38 52 ii z 37 288 Tryz.underlying38 hi0 hz0 h37 h288 hz1 (.slice none 0 0) 0 [] (World.ownsRow_nil W _ _ _) (.slice (some ⟨b6, 0, none⟩) 1 1) 1 ((askA u 0 inc n ph s1 since1 most1 0 0)).toList (Src.ofSlice W Tryz.underlying38 ⟨b6, 0, none⟩ 1 1 _ rfl (fun j u hu => by rw [Addr.add_lit, Nat.zero_add, k6.cell]; simpa using hu) (fun v hv => Array.all_eq_true_iff_forall_mem.1 (askA_one u 0 inc n ph s1 since1 most1 0 0) v (Array.mem_toList_iff.1 hv))) (by omega) (by unfold maxLen; omega) (Nat.le_refl _)
    obtain ⟨q, c, rfl, hbq, hlt⟩ := o9.form (by omega)
    have hcs := o9.cells (g := q) rfl
    have hr37 : Rd w9 (some ⟨q, 0, none⟩) 37 ((askA u 0 inc n ph s1 since1 most1 0 0)).toList := ⟨rfl, fun _ => ⟨_, rfl, hcs⟩⟩
    have hzq := (HDR.out W hW).size
    refine ⟨by kernel_rfl, ?_⟩
    refine operIn_append rfl _ _ _ _ rfl _ _ rfl rfl hr9 ?_
    exact hK _ _ (f9.mono (fun k _ h => by cases h)) ⟨q, c, rfl, Nat.le_trans hzq hbq, hr37⟩ trivial
  simp only [Act.put, List.setIfInBounds_toArray, List.set_cons_succ, List.set_cons_zero]
  refine factWalkG_nil (fun W hW hf hmet => ?_)
  obtain ⟨q, c, e7, hle, hrd⟩ : ∃ q c, x7 = .slice (some ⟨q, 0, none⟩) 1 c ∧ w3.heap.size ≤ q ∧ Rd W (some ⟨q, 0, none⟩) 37 ((askA u 0 inc n ph s1 since1 most1 0 0)).toList := hf 7 (by omega)
  have e0 : x0 = .pointer (some ⟨x, 0, none⟩) := hf 0 (by omega)
  subst e0 e7
  have hWf := HDR.out W hW
  have BW := Lib.hid (keepB B3.out hWf)
  have FW : Hid (Fr (fun k => k = x) w W) := F3.out.trans hWf (fun _ _ h => h.elim)
  have RD := Lib.hid hrd
  have HLE : Hid (w.heap.size ≤ q) := by have := F3.out.size; show _ ≤ _; omega
  have HQX : Hid (q ≠ x) := by have := B3.out.lt; show _ ≠ _; omega
  have c19 : W.cell? ⟨x, 19, none⟩ = some (.slice none 0 0) := BW.out.cell 19
  have r19 := BW.out.frozen 19
  clear hf hmet hrd hWf hW HDR hle B3 G3 F3
  change wpAnyIn _ _ _ _ _ _ 3 _ _ _
  refine wpAnyIn_ready (rs := [8]) (by kernel_rfl) (by simp) ?_
  refine AllReadyIn.cons rfl (fun K hK => ?_) AllReadyIn.nil
  go_simp
  refine hK _ _ ?_
  try simp only [Act.put, List.setIfInBounds_toArray, List.set_cons_succ, List.set_cons_zero]
  clear hK K
  refine wpAnyIn_ready (rs := [9]) (by kernel_rfl) (by simp) ?_
  refine AllReadyIn.cons rfl (fun K hK => ?_) AllReadyIn.nil
  go_simp
  refine hK _ _ ?_
  try simp only [Act.put, List.setIfInBounds_toArray, List.set_cons_succ, List.set_cons_zero]
  clear hK K
  refine wpAnyIn_ready (rs := [10]) (by kernel_rfl) (by simp) ?_
  refine AllReadyIn.cons rfl (fun K hK => ?_) AllReadyIn.nil
  go_simp
  refine hK _ _ ?_
  refine wpAnyIn_done (by kernel_rfl) ?_ _
  clear hK K
  try simp only [Act.put, List.setIfInBounds_toArray, List.set_cons_succ, List.set_cons_zero]
  go_wp2_with fail
  go_end0
  refine ⟨rfl, q, c, ?_, RD.out.fr (fp := fun k => k = x) ?_ ?_, HLE.out, ?_⟩
  · exact BW.out.set_ 19 (.slice (some ⟨q, 0, none⟩) 1 c)
  · exact (Fr.refl (fun k => k = x) W).setCell (p := ⟨x, 19, none⟩) (fun _ => rfl) _
  · rintro k ⟨ad, he, rfl⟩ hk
    injection he with he
    subst he
    exact HQX.out hk
  · exact FW.out.setCell (p := ⟨x, 19, none⟩) (fun _ => rfl) _

end Go.Proofs.YtaenibbhpidjcaaGreatDoor
