/-
  CONTRACTS of push's send and ask, at the first phase.
-/
import Derived.Test.YtaenibbhpidjcaaGreatDoorQQuest
import Derived.Test.YtaenibbhpidjcaaGreatDoorSend
namespace Go.Proofs.YtaenibbhpidjcaaGreatDoor
set_option linter.unusedSimpArgs false
set_option linter.unusedVariables false
open Go Go.RowKit

def qsX (x sz : Nat) (u s : ByteArray) (inc n : Int) (i : Nat) (v : Value) (W : World) : Prop := match i with
  | 0 => v = .pointer (some ⟨x, 0, none⟩)
  | 1 => v = .pointer (some ⟨x, 0, none⟩)
  | 2 => v = .pointer (some ⟨x, 0, none⟩)
  | 3 => v = .pointer (some ⟨x, 20, none⟩)
  | 4 => v = .slice none 0 0
  | 5 => v = .pointer (some ⟨x, 0, none⟩)
  | 6 => v = .agg (askA u 1 inc n 1 s 0 0 0 0)
  | 7 => ∃ b, v = .slice (some ⟨b, 0, none⟩) 1 1 ∧ sz ≤ b ∧ Blk W b 52 (askA u 1 inc n 1 s 0 0 0 0)
  | 8 => ∃ q c, v = .slice (some ⟨q, 0, none⟩) 1 c ∧ sz ≤ q ∧ Rd W (some ⟨q, 0, none⟩) 37 ((askA u 1 inc n 1 s 0 0 0 0)).toList
  | _ => True
theorem qsX_far {x sz : Nat} {u s : ByteArray} {inc n : Int} {i : Nat} {v : Value} {W W' : World} (hg : Fr (fun _ => False) W W') (hx : qsX x sz u s inc n i v W) : qsX x sz u s inc n i v W' := by
  match i with
  | 0 => exact hx
  | 1 => exact hx
  | 2 => exact hx
  | 3 => exact hx
  | 4 => exact hx
  | 5 => exact hx
  | 6 => exact hx
  | 7 => obtain ⟨g, e, l, b⟩ := hx; exact ⟨g, e, l, b.fr hg (fun h => h)⟩
  | 8 => obtain ⟨q, c, e, l, r⟩ := hx; exact ⟨q, c, e, l, r.far hg⟩
  | (n + 9) => exact hx
theorem bs_askq (W : World) (u : ByteArray) (inc n : Int) (s : ByteArray) : (Instr.buildSlice 38 1 #[(0, .agg (askA u 1 inc n 1 s 0 0 0 0))]).run Tryz.prog W = .ok (.slice (some ⟨W.heap.size, 0, none⟩) 1 1) (W.alloc (.cells (askA u 1 inc n 1 s 0 0 0 0) 52)) := by kernel_rfl
set_option maxRecDepth 100000 in
set_option maxHeartbeats 2000000 in
theorem qsend_c (w : World) (x : Nat) (u s : ByteArray) (inc n since life to_ asked done why rf now seq : Int) (LA : Option Addr) (ln lc : Nat) (hB : Blk w x 94 #[.string u, .string s, .int .u64 inc, .int .u64 n, .int .i64 1, .int .u64 since, .int .u64 life, .int .u64 to_, .slice none 0 0, .slice none 0 0, .int .u64 asked, .int .i64 done, .int .i64 why, .int .i64 rf, .int .u64 now, .int .u64 seq, .slice none 0 0, .slice LA ln lc, .slice none 0 0, .slice none 0 0, .slice none 0 0]) :
    Calls Tryz.prog 47 #[.pointer (some ⟨x, 0, none⟩)] w fun e w' => e = .returned (.tuple #[]) ∧ ∃ q c, Blk w' x 94 #[.string u, .string s, .int .u64 inc, .int .u64 n, .int .i64 1, .int .u64 since, .int .u64 life, .int .u64 to_, .slice none 0 0, .slice none 0 0, .int .u64 now, .int .i64 done, .int .i64 why, .int .i64 rf, .int .u64 now, .int .u64 seq, .slice none 0 0, .slice LA ln lc, .slice none 0 0, .slice none 0 0, .slice (some ⟨q, 0, none⟩) 1 c] ∧ Rd w' (some ⟨q, 0, none⟩) 37 ((askA u 1 inc n 1 s 0 0 0 0)).toList ∧ w.heap.size ≤ q ∧ Fr (fun k => k = x) w w' := by
  have HB := Lib.hid hB
  have c14 : w.cell? ⟨x, 14, none⟩ = some (.int .u64 now) := hB.cell 14
  have c10 : w.cell? ⟨x, 10, none⟩ = some (.int .u64 asked) := hB.cell 10
  have r10 := hB.frozen 10
  clear hB
  go_enter Tryz.func47, Tryz.ntmps47
  go_wp2_with fail
  clear c14 c10 r10
  have B1 : Hid (Blk (w.setCell ⟨x, 10, none⟩ (.int .u64 now)) x 94 #[.string u, .string s, .int .u64 inc, .int .u64 n, .int .i64 1, .int .u64 since, .int .u64 life, .int .u64 to_, .slice none 0 0, .slice none 0 0, .int .u64 now, .int .i64 done, .int .i64 why, .int .i64 rf, .int .u64 now, .int .u64 seq, .slice none 0 0, .slice LA ln lc, .slice none 0 0, .slice none 0 0, .slice none 0 0]) := HB.out.set_ 10 (.int .u64 now)
  have F1 : Hid (Fr (fun k => k = x) w (w.setCell ⟨x, 10, none⟩ (.int .u64 now))) := (Fr.refl (fun k => k = x) w).setCell (p := ⟨x, 10, none⟩) (fun _ => rfl) _
  refine abs_wp (fun W => Hid (Blk W x 94 #[.string u, .string s, .int .u64 inc, .int .u64 n, .int .i64 1, .int .u64 since, .int .u64 life, .int .u64 to_, .slice none 0 0, .slice none 0 0, .int .u64 now, .int .i64 done, .int .i64 why, .int .i64 rf, .int .u64 now, .int .u64 seq, .slice none 0 0, .slice LA ln lc, .slice none 0 0, .slice none 0 0, .slice none 0 0]) ∧ Hid (Fr (fun k => k = x) w W)) ⟨B1, F1⟩ ?_
  clear B1 F1 HB
  rintro w3 ⟨B3, F3⟩
  refine (wpIn_wide (n := 9)).1 ?_
  refine wpIn_region_factsG (ms := [0, 0, 2, 6, 14, 0, 32, 96, 254, 511, 1023, 2047]) (k := 9) (Fr (fun _ => False)) (qsX x w3.heap.size u s inc n) (fun i v W => True) (by kernel_rfl) (by kernel_rfl) (Fr.refl _ _) (fun a b c h1 h2 => h1.trans h2 (fun _ _ h => h)) (fun i v w w' hg hx => qsX_far hg hx) ?walk1
  case walk1 =>
  have hdr : ∀ W, Fr (fun _ => False) w3.drew W → Fr (fun _ => False) w3 W := fun W h => ((Fr.refl (fun _ => False) w3).drew).trans h (fun _ _ h => h)
  have HDR := Lib.hid hdr
  clear hdr
  refine factWalkG_cons (fun W hW hf K hK => ?_) (fun x0 => ?_)
  · skip
    refine ⟨by kernel_rfl, ?_⟩
    gi_step
    exact hK _ _ (Fr.refl _ _) rfl trivial
  simp only [Act.put, List.setIfInBounds_toArray, List.set_cons_succ, List.set_cons_zero]
  refine factWalkG_cons (fun W hW hf K hK => ?_) (fun x1 => ?_)
  · skip
    refine ⟨by kernel_rfl, ?_⟩
    gi_step
    exact hK _ _ (Fr.refl _ _) rfl trivial
  simp only [Act.put, List.setIfInBounds_toArray, List.set_cons_succ, List.set_cons_zero]
  refine factWalkG_cons (fun W hW hf K hK => ?_) (fun x2 => ?_)
  · skip
    have e1 : x1 = .pointer (some ⟨x, 0, none⟩) := hf 1 (by omega) (by kernel_rfl)
    subst e1
    refine ⟨by kernel_rfl, ?_⟩
    gi_step
    exact hK _ _ (Fr.refl _ _) rfl trivial
  simp only [Act.put, List.setIfInBounds_toArray, List.set_cons_succ, List.set_cons_zero]
  refine factWalkG_cons (fun W hW hf K hK => ?_) (fun x3 => ?_)
  · skip
    have e2 : x2 = .pointer (some ⟨x, 0, none⟩) := hf 2 (by omega) (by kernel_rfl)
    subst e2
    refine ⟨by kernel_rfl, ?_⟩
    gi_step
    exact hK _ _ (Fr.refl _ _) rfl trivial
  simp only [Act.put, List.setIfInBounds_toArray, List.set_cons_succ, List.set_cons_zero]
  refine factWalkG_cons (fun W hW hf K hK => ?_) (fun x4 => ?_)
  · skip
    have e3 : x3 = .pointer (some ⟨x, 20, none⟩) := hf 3 (by omega) (by kernel_rfl)
    subst e3
    have hbx := keepB B3.out (HDR.out W hW)
    have cx : W.cell? ⟨x, 20, none⟩ = some (.slice none 0 0) := hbx.cell 20
    refine ⟨by kernel_rfl, ?_⟩
    gi_step
    exact hK _ _ (Fr.refl _ _) rfl trivial
  simp only [Act.put, List.setIfInBounds_toArray, List.set_cons_succ, List.set_cons_zero]
  refine factWalkG_cons (fun W hW hf K hK => ?_) (fun x5 => ?_)
  · skip
    refine ⟨by kernel_rfl, ?_⟩
    gi_step
    exact hK _ _ (Fr.refl _ _) rfl trivial
  simp only [Act.put, List.setIfInBounds_toArray, List.set_cons_succ, List.set_cons_zero]
  refine factWalkG_cons (fun W hW hf K hK => ?_) (fun x6 => ?_)
  · skip
    have e5 : x5 = .pointer (some ⟨x, 0, none⟩) := hf 5 (by omega) (by kernel_rfl)
    subst e5
    refine ⟨by kernel_rfl, ?_⟩
    gi_step
    refine ⟨trivial, ?_⟩
    refine (callsIn_wide.2 (qquest1_c W x u s inc n since life to_ now done why rf now seq LA ln lc (keepB B3.out (HDR.out W hW)))).mono ?_
    rintro e W' ⟨rfl, f2⟩
    dsimp only
    exact hK _ _ f2 rfl trivial
  simp only [Act.put, List.setIfInBounds_toArray, List.set_cons_succ, List.set_cons_zero]
  refine factWalkG_cons (fun W hW hf K hK => ?_) (fun x7 => ?_)
  · skip
    have e6 : x6 = .agg (askA u 1 inc n 1 s 0 0 0 0) := hf 6 (by omega) (by kernel_rfl)
    subst e6
    have hbs := bs_askq W u inc n s
    refine ⟨by kernel_rfl, ?_⟩
    refine operIn_bs1 38 1 0 _ rfl _ rfl hbs ?_
    exact hK _ _ ((Fr.refl _ _).alloc _) ⟨_, rfl, (HDR.out W hW).size, Blk.new _ _ _⟩ trivial
  simp only [Act.put, List.setIfInBounds_toArray, List.set_cons_succ, List.set_cons_zero]
  refine factWalkG_cons (fun W hW hf K hK => ?_) (fun x8 => ?_)
  · skip
    have e4 : x4 = .slice none 0 0 := hf 4 (by omega) (by kernel_rfl)
    obtain ⟨b7, e7, l7, k7⟩ : ∃ b, x7 = .slice (some ⟨b, 0, none⟩) 1 1 ∧ w3.heap.size ≤ b ∧ Blk W b 52 (askA u 1 inc n 1 s 0 0 0 0) := hf 7 (by omega) (by kernel_rfl)
    subst e4 e7
    have hii := ask_info
    obtain ⟨ii, hi0, hii2⟩ := Option.map_eq_some_iff.1 hii
    injection hii2 with hz hii3
    injection hii3 with h37 h288
    obtain ⟨z, hz0, hz1⟩ := Option.map_eq_some_iff.1 hz
    obtain ⟨v9, w9, hr9, o9, f9, n9⟩ := run_app (P := Tryz.prog) W W.heap.size 38 38 38 52 ii z 37 288 Tryz.underlying38 hi0 hz0 h37 h288 hz1 (.slice none 0 0) 0 [] (World.ownsRow_nil W _ _ _) (.slice (some ⟨b7, 0, none⟩) 1 1) 1 ((askA u 1 inc n 1 s 0 0 0 0)).toList (Src.ofSlice W Tryz.underlying38 ⟨b7, 0, none⟩ 1 1 _ rfl (fun j u hu => by rw [Addr.add_lit, Nat.zero_add, k7.cell]; simpa using hu) (fun v hv => Array.all_eq_true_iff_forall_mem.1 (askA_one u 1 inc n 1 s 0 0 0 0) v (Array.mem_toList_iff.1 hv))) (by omega) (by unfold maxLen; omega) (Nat.le_refl _)
    obtain ⟨q, c, rfl, hbq, hlt⟩ := o9.form (by omega)
    have hcs := o9.cells (g := q) rfl
    have hr37 : Rd w9 (some ⟨q, 0, none⟩) 37 ((askA u 1 inc n 1 s 0 0 0 0)).toList := ⟨rfl, fun _ => ⟨_, rfl, hcs⟩⟩
    have hzq := (HDR.out W hW).size
    refine ⟨by kernel_rfl, ?_⟩
    refine operIn_append rfl _ _ _ _ rfl _ _ rfl rfl hr9 ?_
    exact hK _ _ (f9.mono (fun k _ h => by cases h)) ⟨q, c, rfl, Nat.le_trans hzq hbq, hr37⟩ trivial
  simp only [Act.put, List.setIfInBounds_toArray, List.set_cons_succ, List.set_cons_zero]
  refine factWalkG_nil (fun W hW hf hmet => ?_)
  obtain ⟨q, c, e8, hle, hrd⟩ : ∃ q c, x8 = .slice (some ⟨q, 0, none⟩) 1 c ∧ w3.heap.size ≤ q ∧ Rd W (some ⟨q, 0, none⟩) 37 ((askA u 1 inc n 1 s 0 0 0 0)).toList := hf 8 (by omega)
  have e0 : x0 = .pointer (some ⟨x, 0, none⟩) := hf 0 (by omega)
  subst e0 e8
  have hWf := HDR.out W hW
  have BW := Lib.hid (keepB B3.out hWf)
  have FW : Hid (Fr (fun k => k = x) w W) := F3.out.trans hWf (fun _ _ h => h.elim)
  have RD := Lib.hid hrd
  have HLE : Hid (w.heap.size ≤ q) := by have := F3.out.size; show _ ≤ _; omega
  have HQX : Hid (q ≠ x) := by have := B3.out.lt; show _ ≠ _; omega
  have c20 : W.cell? ⟨x, 20, none⟩ = some (.slice none 0 0) := BW.out.cell 20
  have r20 := BW.out.frozen 20
  clear hf hmet hrd hWf hW HDR hle B3 F3
  change wpAnyIn _ _ _ _ _ _ 3 _ _ _
  refine wpAnyIn_ready (rs := [9]) (by kernel_rfl) (by simp) ?_
  refine AllReadyIn.cons rfl (fun K hK => ?_) AllReadyIn.nil
  go_simp
  refine hK _ _ ?_
  try simp only [Act.put, List.setIfInBounds_toArray, List.set_cons_succ, List.set_cons_zero]
  clear hK K
  refine wpAnyIn_ready (rs := [10]) (by kernel_rfl) (by simp) ?_
  refine AllReadyIn.cons rfl (fun K hK => ?_) AllReadyIn.nil
  go_simp
  refine hK _ _ ?_
  try simp only [Act.put, List.setIfInBounds_toArray, List.set_cons_succ, List.set_cons_zero]
  clear hK K
  refine wpAnyIn_ready (rs := [11]) (by kernel_rfl) (by simp) ?_
  refine AllReadyIn.cons rfl (fun K hK => ?_) AllReadyIn.nil
  go_simp
  refine hK _ _ ?_
  try simp only [Act.put, List.setIfInBounds_toArray, List.set_cons_succ, List.set_cons_zero]
  clear hK K
  refine wpAnyIn_done (by kernel_rfl) ?_ _
  go_wp2_with fail
  go_end0
  refine ⟨rfl, q, c, ?_, RD.out.fr (fp := fun k => k = x) ?_ ?_, HLE.out, ?_⟩
  · exact BW.out.set_ 20 (.slice (some ⟨q, 0, none⟩) 1 c)
  · exact (Fr.refl (fun k => k = x) W).setCell (p := ⟨x, 20, none⟩) (fun _ => rfl) _
  · rintro k ⟨ad, he, rfl⟩ hk
    injection he with he
    subst he
    exact HQX.out hk
  · exact FW.out.setCell (p := ⟨x, 20, none⟩) (fun _ => rfl) _

set_option maxRecDepth 100000 in
set_option maxHeartbeats 2000000 in
theorem qask1_c (w : World) (x : Nat) (u s : ByteArray) (inc ph since life to_ asked done why rf now seq : Int) (LA : Option Addr) (ln lc : Nat) (hB : Blk w x 94 #[.string u, .string s, .int .u64 inc, .int .u64 0, .int .i64 ph, .int .u64 since, .int .u64 life, .int .u64 to_, .slice none 0 0, .slice none 0 0, .int .u64 asked, .int .i64 done, .int .i64 why, .int .i64 rf, .int .u64 now, .int .u64 seq, .slice none 0 0, .slice LA ln lc, .slice none 0 0, .slice none 0 0, .slice none 0 0]) :
    Calls Tryz.prog 30 #[.pointer (some ⟨x, 0, none⟩), .int .i64 1] w fun e w' => e = .returned (.tuple #[]) ∧ ∃ q c, Blk w' x 94 #[.string u, .string s, .int .u64 inc, .int .u64 1, .int .i64 1, .int .u64 since, .int .u64 life, .int .u64 to_, .slice none 0 0, .slice none 0 0, .int .u64 now, .int .i64 done, .int .i64 why, .int .i64 rf, .int .u64 now, .int .u64 seq, .slice none 0 0, .slice LA ln lc, .slice none 0 0, .slice none 0 0, .slice (some ⟨q, 0, none⟩) 1 c] ∧ Rd w' (some ⟨q, 0, none⟩) 37 (askA u 1 inc 1 1 s 0 0 0 0).toList ∧ w.heap.size ≤ q ∧ Fr (fun k => k = x) w w' := by
  have HB := Lib.hid hB
  have c3 : w.cell? ⟨x, 3, none⟩ = some (.int .u64 0) := hB.cell 3
  have c4 : w.cell? ⟨x, 4, none⟩ = some (.int .i64 ph) := hB.cell 4
  have r3 := hB.frozen 3
  have r4 := hB.frozen 4
  clear hB
  go_enter Tryz.func30, Tryz.ntmps30
  go_wp2_with fail
  clear c3 c4 r3 r4
  have B1 : Hid (Blk ((w.setCell ⟨x, 4, none⟩ (.int .i64 1)).setCell ⟨x, 3, none⟩ (.int .u64 1)) x 94 #[.string u, .string s, .int .u64 inc, .int .u64 1, .int .i64 1, .int .u64 since, .int .u64 life, .int .u64 to_, .slice none 0 0, .slice none 0 0, .int .u64 asked, .int .i64 done, .int .i64 why, .int .i64 rf, .int .u64 now, .int .u64 seq, .slice none 0 0, .slice LA ln lc, .slice none 0 0, .slice none 0 0, .slice none 0 0]) := (HB.out.set_ 4 (.int .i64 1)).set_ 3 (.int .u64 1)
  have F1 : Hid (Fr (fun k => k = x) w ((w.setCell ⟨x, 4, none⟩ (.int .i64 1)).setCell ⟨x, 3, none⟩ (.int .u64 1))) := ((Fr.refl (fun k => k = x) w).setCell (p := ⟨x, 4, none⟩) (fun _ => rfl) _).setCell (p := ⟨x, 3, none⟩) (fun _ => rfl) _
  refine (qsend_c _ x u s inc 1 since life to_ asked done why rf now seq LA ln lc B1.out).mono ?_
  rintro e w2 ⟨rfl, q, c, b2, r2, l2, f2⟩
  have B2 := Lib.hid b2
  have R2 := Lib.hid r2
  have F2 : Hid (Fr (fun k => k = x) w w2) := F1.out.trans f2 (fun _ _ h => h)
  have L2 : Hid (w.heap.size ≤ q) := Nat.le_trans F1.out.size l2
  clear b2 r2 l2 f2 HB F1 B1
  go_wp2_with fail
  go_end0
  exact ⟨rfl, q, c, B2.out, R2.out, L2.out, F2.out⟩

end Go.Proofs.YtaenibbhpidjcaaGreatDoor
