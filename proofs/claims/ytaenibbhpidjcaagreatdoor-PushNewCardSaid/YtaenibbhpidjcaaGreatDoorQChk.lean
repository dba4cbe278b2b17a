/-
  CONTRACTS of push's changes and checked, at the empty state.
-/
import Derived.Test.YtaenibbhpidjcaaGreatDoorChg
import Derived.Test.YtaenibbhpidjcaaGreatDoorQSend
namespace Go.Proofs.YtaenibbhpidjcaaGreatDoor
set_option linter.unusedSimpArgs false
set_option linter.unusedVariables false
open Go Go.RowKit

def qcX (x : Nat) (i : Nat) (v : Value) (W : World) : Prop := match i with
  | 0 => v = .pointer (some ⟨x, 0, none⟩)
  | 1 => v = .pointer (some ⟨x, 0, none⟩)
  | 2 => v = .pointer (some ⟨x, 0, none⟩)
  | 3 => v = .pointer (some ⟨x, 15, none⟩)
  | 4 => v = .agg #[.int .u64 0, .slice none 0 0, .slice none 0 0, .slice none 0 0]
  | 5 => v = .pointer (some ⟨x, 0, none⟩)
  | 6 => v = .pointer (some ⟨x, 0, none⟩)
  | 7 => v = .pointer (some ⟨x, 0, none⟩)
  | 8 => v = .pointer (some ⟨x, 5, none⟩)
  | 9 => v = .int .u64 0
  | 10 => v = .slice none 0 0
  | _ => True
theorem qcX_far {x : Nat} {i : Nat} {v : Value} {W W' : World} (hg : Fr (fun _ => False) W W') (hx : qcX x i v W) : qcX x i v W' := by
  match i with
  | 0 => exact hx
  | 1 => exact hx
  | 2 => exact hx
  | 3 => exact hx
  | 4 => exact hx
  | 5 => exact hx
  | 6 => exact hx
  | 7 => exact hx
  | 8 => exact hx
  | 9 => exact hx
  | 10 => exact hx
  | (n + 11) => exact hx
set_option maxRecDepth 100000 in
set_option maxHeartbeats 2000000 in
theorem qchanges_c (w0 : World) (x : Nat) (u s : ByteArray) (inc n ph life to_ asked done why rf now : Int) (hB : Blk w0 x 94 #[.string u, .string s, .int .u64 inc, .int .u64 n, .int .i64 ph, .int .u64 0, .int .u64 life, .int .u64 to_, .slice none 0 0, .slice none 0 0, .int .u64 asked, .int .i64 done, .int .i64 why, .int .i64 rf, .int .u64 now, .int .u64 0, .slice none 0 0, .slice none 0 0, .slice none 0 0, .slice none 0 0, .slice none 0 0]) :
    Calls Tryz.prog 61 #[.pointer (some ⟨x, 0, none⟩)] w0 fun e w' => e = .returned (.tuple #[]) ∧ Blk w' x 94 #[.string u, .string s, .int .u64 inc, .int .u64 n, .int .i64 0, .int .u64 0, .int .u64 life, .int .u64 to_, .slice none 0 0, .slice none 0 0, .int .u64 asked, .int .i64 1, .int .i64 why, .int .i64 rf, .int .u64 now, .int .u64 0, .slice none 0 0, .slice none 0 0, .slice none 0 0, .slice none 0 0, .slice none 0 0] ∧ Fr (fun k => k = x) w0 w' := by
  have B0 := Lib.hid hB
  clear hB
  go_enter Tryz.func61, Tryz.ntmps61
  go_wp2_with fail
  go_cut [] from 3 to 16 (fun wx => Hid (Blk wx x 94 #[.string u, .string s, .int .u64 inc, .int .u64 n, .int .i64 ph, .int .u64 0, .int .u64 life, .int .u64 to_, .slice none 0 0, .slice none 0 0, .int .u64 asked, .int .i64 done, .int .i64 why, .int .i64 rf, .int .u64 now, .int .u64 0, .slice none 0 0, .slice none 0 0, .slice none 0 0, .slice none 0 0, .slice none 0 0]) ∧ Hid (Fr (fun k => k = x) w0 wx))
  case first =>
    refine (wpIn_wide (n := 9)).1 ?_
    refine wpIn_region_factsG (ms := [0, 0, 2, 6, 14, 0, 32, 96, 224, 480, 1022, 2047, 4095, 8191, 16383]) (k := 11) (Fr (fun _ => False)) (qcX x) (fun i v W => True) (by kernel_rfl) (by kernel_rfl) (Fr.refl _ _) (fun a b c h1 h2 => h1.trans h2 (fun _ _ h => h)) (fun i v w w' hg hx => qcX_far hg hx) ?walk1
    case walk1 =>
    have hdr : ∀ W, Fr (fun _ => False) w0.drew W → Fr (fun _ => False) w0 W := fun W h => ((Fr.refl (fun _ => False) w0).drew).trans h (fun _ _ h => h)
    have HDR := Lib.hid hdr
    clear hdr
    refine factWalkG_cons (fun W hW hf K hK => ?_) (fun v0 => ?_)
    · skip
      refine ⟨by kernel_rfl, ?_⟩
      gi_step
      exact hK _ _ (Fr.refl _ _) rfl trivial
    simp only [Act.put, List.setIfInBounds_toArray, List.set_cons_succ, List.set_cons_zero]
    refine factWalkG_cons (fun W hW hf K hK => ?_) (fun v1 => ?_)
    · skip
      refine ⟨by kernel_rfl, ?_⟩
      gi_step
      exact hK _ _ (Fr.refl _ _) rfl trivial
    simp only [Act.put, List.setIfInBounds_toArray, List.set_cons_succ, List.set_cons_zero]
    refine factWalkG_cons (fun W hW hf K hK => ?_) (fun v2 => ?_)
    · skip
      have e1 : v1 = .pointer (some ⟨x, 0, none⟩) := hf 1 (by omega) (by kernel_rfl)
      subst e1
      refine ⟨by kernel_rfl, ?_⟩
      gi_step
      exact hK _ _ (Fr.refl _ _) rfl trivial
    simp only [Act.put, List.setIfInBounds_toArray, List.set_cons_succ, List.set_cons_zero]
    refine factWalkG_cons (fun W hW hf K hK => ?_) (fun v3 => ?_)
    · skip
      have e2 : v2 = .pointer (some ⟨x, 0, none⟩) := hf 2 (by omega) (by kernel_rfl)
      subst e2
      refine ⟨by kernel_rfl, ?_⟩
      gi_step
      exact hK _ _ (Fr.refl _ _) rfl trivial
    simp only [Act.put, List.setIfInBounds_toArray, List.set_cons_succ, List.set_cons_zero]
    refine factWalkG_cons (fun W hW hf K hK => ?_) (fun v4 => ?_)
    · skip
      have e3 : v3 = .pointer (some ⟨x, 15, none⟩) := hf 3 (by omega) (by kernel_rfl)
      subst e3
      have hbx := keepB B0.out (HDR.out W hW)
      have y0 : W.cell? ⟨x, 15, none⟩ = some (.int .u64 0) := hbx.cell 15
      have y1 : W.cell? ⟨x, 16, none⟩ = some (.slice none 0 0) := hbx.cell 16
      have y2 : W.cell? ⟨x, 17, none⟩ = some (.slice none 0 0) := hbx.cell 17
      have y3 : W.cell? ⟨x, 18, none⟩ = some (.slice none 0 0) := hbx.cell 18
      refine ⟨by kernel_rfl, ?_⟩
      gi_step
      exact hK _ _ (Fr.refl _ _) rfl trivial
    simp only [Act.put, List.setIfInBounds_toArray, List.set_cons_succ, List.set_cons_zero]
    refine factWalkG_cons (fun W hW hf K hK => ?_) (fun v5 => ?_)
    · skip
      refine ⟨by kernel_rfl, ?_⟩
      gi_step
      exact hK _ _ (Fr.refl _ _) rfl trivial
    simp only [Act.put, List.setIfInBounds_toArray, List.set_cons_succ, List.set_cons_zero]
    refine factWalkG_cons (fun W hW hf K hK => ?_) (fun v6 => ?_)
    · skip
      have e5 : v5 = .pointer (some ⟨x, 0, none⟩) := hf 5 (by omega) (by kernel_rfl)
      subst e5
      refine ⟨by kernel_rfl, ?_⟩
      gi_step
      exact hK _ _ (Fr.refl _ _) rfl trivial
    simp only [Act.put, List.setIfInBounds_toArray, List.set_cons_succ, List.set_cons_zero]
    refine factWalkG_cons (fun W hW hf K hK => ?_) (fun v7 => ?_)
    · skip
      have e6 : v6 = .pointer (some ⟨x, 0, none⟩) := hf 6 (by omega) (by kernel_rfl)
      subst e6
      refine ⟨by kernel_rfl, ?_⟩
      gi_step
      exact hK _ _ (Fr.refl _ _) rfl trivial
    simp only [Act.put, List.setIfInBounds_toArray, List.set_cons_succ, List.set_cons_zero]
    refine factWalkG_cons (fun W hW hf K hK => ?_) (fun v8 => ?_)
    · skip
      have e7 : v7 = .pointer (some ⟨x, 0, none⟩) := hf 7 (by omega) (by kernel_rfl)
      subst e7
      refine ⟨by kernel_rfl, ?_⟩
      gi_step
      exact hK _ _ (Fr.refl _ _) rfl trivial
    simp only [Act.put, List.setIfInBounds_toArray, List.set_cons_succ, List.set_cons_zero]
    refine factWalkG_cons (fun W hW hf K hK => ?_) (fun v9 => ?_)
    · skip
      have e8 : v8 = .pointer (some ⟨x, 5, none⟩) := hf 8 (by omega) (by kernel_rfl)
      subst e8
      have hbx := keepB B0.out (HDR.out W hW)
      have y5 : W.cell? ⟨x, 5, none⟩ = some (.int .u64 0) := hbx.cell 5
      refine ⟨by kernel_rfl, ?_⟩
      gi_step
      exact hK _ _ (Fr.refl _ _) rfl trivial
    simp only [Act.put, List.setIfInBounds_toArray, List.set_cons_succ, List.set_cons_zero]
    refine factWalkG_cons (fun W hW hf K hK => ?_) (fun v10 => ?_)
    · skip
      have e4 : v4 = .agg #[.int .u64 0, .slice none 0 0, .slice none 0 0, .slice none 0 0] := hf 4 (by omega) (by kernel_rfl)
      have e9 : v9 = .int .u64 0 := hf 9 (by omega) (by kernel_rfl)
      subst e4 e9
      refine ⟨by kernel_rfl, ?_⟩
      gi_step
      refine ⟨trivial, ?_⟩
      refine (callsIn_wide.2 (changes_nil W)).mono ?_
      rintro e W' ⟨rfl, f2⟩
      dsimp only
      exact hK _ _ f2 rfl trivial
    simp only [Act.put, List.setIfInBounds_toArray, List.set_cons_succ, List.set_cons_zero]
    refine factWalkG_nil (fun W hW hf hmet => ?_)
    have e0 : v0 = .pointer (some ⟨x, 0, none⟩) := hf 0 (by omega)
    have e10 : v10 = .slice none 0 0 := hf 10 (by omega)
    subst e0 e10
    have hWf := HDR.out W hW
    have BW := Lib.hid (keepB B0.out hWf)
    have FW := Lib.hid hWf
    have c8 : W.cell? ⟨x, 8, none⟩ = some (.slice none 0 0) := BW.out.cell 8
    have r8 := BW.out.frozen 8
    clear hf hmet hWf hW HDR
    change wpAnyIn _ _ _ _ _ _ 4 _ _ _
    refine wpAnyIn_ready (rs := [11]) (by kernel_rfl) (by simp) ?_
    refine AllReadyIn.cons rfl (fun K hK => ?_) AllReadyIn.nil
    go_simp
    refine hK _ _ ?_
    try simp only [Act.put, List.setIfInBounds_toArray, List.set_cons_succ, List.set_cons_zero]
    clear hK K
    refine wpAnyIn_ready (rs := [12]) (by kernel_rfl) (by simp) ?_
    refine AllReadyIn.cons rfl (fun K hK => ?_) AllReadyIn.nil
    go_simp
    refine hK _ _ ?_
    try simp only [Act.put, List.setIfInBounds_toArray, List.set_cons_succ, List.set_cons_zero]
    clear hK K
    refine wpAnyIn_ready (rs := [13]) (by kernel_rfl) (by simp) ?_
    refine AllReadyIn.cons rfl (fun K hK => ?_) AllReadyIn.nil
    go_simp
    refine hK _ _ ?_
    try simp only [Act.put, List.setIfInBounds_toArray, List.set_cons_succ, List.set_cons_zero]
    clear hK K
    refine wpAnyIn_ready (rs := [14]) (by kernel_rfl) (by simp) ?_
    refine AllReadyIn.cons rfl (fun K hK => ?_) AllReadyIn.nil
    go_simp
    refine hK _ _ ?_
    try simp only [Act.put, List.setIfInBounds_toArray, List.set_cons_succ, List.set_cons_zero]
    clear hK K
    refine wpAnyIn_done (by kernel_rfl) ?_ _
    go_wp2_with fail
    go_meet
    exact ⟨BW.out.set_ 8 (.slice none 0 0), ((FW.out.mono (fun _ _ h => h.elim)).setCell (fp := fun k => k = x) (p := ⟨x, 8, none⟩) (fun _ => rfl) _)⟩
  case rest =>
    obtain ⟨b2, f2⟩ := hcut
    have c8 : wc.cell? ⟨x, 8, none⟩ = some (.slice none 0 0) := b2.out.cell 8
    have c4 : wc.cell? ⟨x, 4, none⟩ = some (.int .i64 ph) := b2.out.cell 4
    have c11 : wc.cell? ⟨x, 11, none⟩ = some (.int .i64 done) := b2.out.cell 11
    have r4 := b2.out.frozen 4
    have r11 := b2.out.frozen 11
    go_wp2_with fail
    refine bodyPost_ret (v := .tuple #[]) ?_ rfl ?_
    · simp [results, Tryz.results61]
    · exact ⟨rfl, (b2.out.set_ 4 (.int .i64 0)).set_ 11 (.int .i64 1), (f2.out.setCell (p := ⟨x, 4, none⟩) (fun _ => rfl) _).setCell (p := ⟨x, 11, none⟩) (fun _ => rfl) _⟩

def qkX (x tb : Nat) (s : ByteArray) (i : Nat) (v : Value) (W : World) : Prop := match i with
  | 0 => v = .pointer (some ⟨x, 0, none⟩)
  | 1 => v = .pointer (some ⟨tb, 6, none⟩)
  | 2 => v = .int .u64 0
  | 3 => v = .pointer (some ⟨x, 0, none⟩)
  | 4 => v = .pointer (some ⟨x, 0, none⟩)
  | 5 => v = .pointer (some ⟨x, 15, none⟩)
  | 6 => v = .agg #[.int .u64 0, .slice none 0 0, .slice none 0 0, .slice none 0 0]
  | 7 => v = .pointer (some ⟨x, 0, none⟩)
  | 8 => v = .pointer (some ⟨x, 0, none⟩)
  | 9 => v = .pointer (some ⟨x, 0, none⟩)
  | 10 => v = .pointer (some ⟨x, 1, none⟩)
  | 11 => v = .string s
  | 12 => v = .int .u64 0
  | 13 => v = .int .u64 0
  | _ => True
theorem qkX_far {x tb : Nat} {s : ByteArray} {i : Nat} {v : Value} {W W' : World} (hg : Fr (fun _ => False) W W') (hx : qkX x tb s i v W) : qkX x tb s i v W' := by
  match i with
  | 0 => exact hx
  | 1 => exact hx
  | 2 => exact hx
  | 3 => exact hx
  | 4 => exact hx
  | 5 => exact hx
  | 6 => exact hx
  | 7 => exact hx
  | 8 => exact hx
  | 9 => exact hx
  | 10 => exact hx
  | 11 => exact hx
  | 12 => exact hx
  | 13 => exact hx
  | (n + 14) => exact hx
set_option maxRecDepth 100000 in
set_option maxHeartbeats 2000000 in
theorem qchecked_c (w : World) (x : Nat) (u s : ByteArray) (inc n ph since life to_ asked done why rf now : Int) (hB : Blk w x 94 #[.string u, .string s, .int .u64 inc, .int .u64 n, .int .i64 ph, .int .u64 since, .int .u64 life, .int .u64 to_, .slice none 0 0, .slice none 0 0, .int .u64 asked, .int .i64 done, .int .i64 why, .int .i64 rf, .int .u64 now, .int .u64 0, .slice none 0 0, .slice none 0 0, .slice none 0 0, .slice none 0 0, .slice none 0 0]) :
    Calls Tryz.prog 48 #[.pointer (some ⟨x, 0, none⟩), .agg #[.int .i64 1, .int .u64 1, .int .u64 1, .int .i64 1, .int .i64 0, .int .u64 0, .int .u64 0, .slice none 0 0, .slice none 0 0, .string ⟨#[]⟩, .slice none 0 0, .int .i64 0, .int .i64 0, .int .i64 0, .string ⟨#[]⟩, .slice none 0 0, .slice none 0 0, .int .i64 0]] w fun e w' => e = .returned (.tuple #[]) ∧ Blk w' x 94 #[.string u, .string s, .int .u64 inc, .int .u64 n, .int .i64 0, .int .u64 0, .int .u64 0, .int .u64 to_, .slice none 0 0, .slice none 0 0, .int .u64 asked, .int .i64 1, .int .i64 why, .int .i64 rf, .int .u64 now, .int .u64 0, .slice none 0 0, .slice none 0 0, .slice none 0 0, .slice none 0 0, .slice none 0 0] ∧ Fr (fun k => k = x) w w' := by
  have HB := Lib.hid hB
  clear hB
  go_enter Tryz.func48, Tryz.ntmps48
  go_wp2_with fail
  refine abs_wp (fun W => Hid (Blk W x 94 #[.string u, .string s, .int .u64 inc, .int .u64 n, .int .i64 ph, .int .u64 since, .int .u64 life, .int .u64 to_, .slice none 0 0, .slice none 0 0, .int .u64 asked, .int .i64 done, .int .i64 why, .int .i64 rf, .int .u64 now, .int .u64 0, .slice none 0 0, .slice none 0 0, .slice none 0 0, .slice none 0 0, .slice none 0 0]) ∧ Hid (Blk W w.heap.size 64 #[.int .i64 1, .int .u64 1, .int .u64 1, .int .i64 1, .int .i64 0, .int .u64 0, .int .u64 0, .slice none 0 0, .slice none 0 0, .string ⟨#[]⟩, .slice none 0 0, .int .i64 0, .int .i64 0, .int .i64 0, .string ⟨#[]⟩, .slice none 0 0, .slice none 0 0, .int .i64 0]) ∧ Hid (Fr (fun _ => False) w W)) ⟨HB.out.alloc _, Blk.new _ _ _, (Fr.refl _ w).alloc _⟩ ?_
  rintro w1 ⟨B1, T1, F1⟩
  have hxt : x ≠ w.heap.size := by have := HB.out.lt; omega
  obtain ⟨tb, htb⟩ : ∃ g, w.heap.size = g := ⟨_, rfl⟩
  rw [htb] at T1 hxt ⊢
  clear htb HB
  go_cut [] from 4 to 20 (fun wx => Hid (Blk wx x 94 #[.string u, .string s, .int .u64 inc, .int .u64 n, .int .i64 ph, .int .u64 0, .int .u64 life, .int .u64 to_, .slice none 0 0, .slice none 0 0, .int .u64 asked, .int .i64 done, .int .i64 why, .int .i64 rf, .int .u64 now, .int .u64 0, .slice none 0 0, .slice none 0 0, .slice none 0 0, .slice none 0 0, .slice none 0 0]) ∧ Hid (Blk wx tb 64 #[.int .i64 1, .int .u64 1, .int .u64 1, .int .i64 1, .int .i64 0, .int .u64 0, .int .u64 0, .slice none 0 0, .slice none 0 0, .string ⟨#[]⟩, .slice none 0 0, .int .i64 0, .int .i64 0, .int .i64 0, .string ⟨#[]⟩, .slice none 0 0, .slice none 0 0, .int .i64 0]) ∧ Hid (Fr (fun k => k = x) w1 wx))
  case first =>
    refine (wpIn_wide (n := 9)).1 ?_
    refine wpIn_region_factsG (ms := [0, 0, 2, 0, 8, 24, 56, 0, 128, 384, 896, 1920, 4088, 8190, 16383, 32767, 65535, 131071]) (k := 14) (Fr (fun _ => False)) (qkX x tb s) (fun i v W => True) (by kernel_rfl) (by kernel_rfl) (Fr.refl _ _) (fun a b c h1 h2 => h1.trans h2 (fun _ _ h => h)) (fun i v w w' hg hx => qkX_far hg hx) ?walk1
    case walk1 =>
    have hdr : ∀ W, Fr (fun _ => False) w1.drew W → Fr (fun _ => False) w1 W := fun W h => ((Fr.refl (fun _ => False) w1).drew).trans h (fun _ _ h => h)
    have HDR := Lib.hid hdr
    clear hdr
    refine factWalkG_cons (fun W hW hf K hK => ?_) (fun v0 => ?_)
    · skip
      refine ⟨by kernel_rfl, ?_⟩
      gi_step
      exact hK _ _ (Fr.refl _ _) rfl trivial
    simp only [Act.put, List.setIfInBounds_toArray, List.set_cons_succ, List.set_cons_zero]
    refine factWalkG_cons (fun W hW hf K hK => ?_) (fun v1 => ?_)
    · skip
      refine ⟨by kernel_rfl, ?_⟩
      gi_step
      exact hK _ _ (Fr.refl _ _) rfl trivial
    simp only [Act.put, List.setIfInBounds_toArray, List.set_cons_succ, List.set_cons_zero]
    refine factWalkG_cons (fun W hW hf K hK => ?_) (fun v2 => ?_)
    · skip
      have e1 : v1 = .pointer (some ⟨tb, 6, none⟩) := hf 1 (by omega) (by kernel_rfl)
      subst e1
      have hbt := keepB T1.out (HDR.out W hW)
      have ct : W.cell? ⟨tb, 6, none⟩ = some (.int .u64 0) := hbt.cell 6
      refine ⟨by kernel_rfl, ?_⟩
      gi_step
      exact hK _ _ (Fr.refl _ _) rfl trivial
    simp only [Act.put, List.setIfInBounds_toArray, List.set_cons_succ, List.set_cons_zero]
    refine factWalkG_cons (fun W hW hf K hK => ?_) (fun v3 => ?_)
    · skip
      refine ⟨by kernel_rfl, ?_⟩
      gi_step
      exact hK _ _ (Fr.refl _ _) rfl trivial
    simp only [Act.put, List.setIfInBounds_toArray, List.set_cons_succ, List.set_cons_zero]
    refine factWalkG_cons (fun W hW hf K hK => ?_) (fun v4 => ?_)
    · skip
      have e3 : v3 = .pointer (some ⟨x, 0, none⟩) := hf 3 (by omega) (by kernel_rfl)
      subst e3
      refine ⟨by kernel_rfl, ?_⟩
      gi_step
      exact hK _ _ (Fr.refl _ _) rfl trivial
    simp only [Act.put, List.setIfInBounds_toArray, List.set_cons_succ, List.set_cons_zero]
    refine factWalkG_cons (fun W hW hf K hK => ?_) (fun v5 => ?_)
    · skip
      have e4 : v4 = .pointer (some ⟨x, 0, none⟩) := hf 4 (by omega) (by kernel_rfl)
      subst e4
      refine ⟨by kernel_rfl, ?_⟩
      gi_step
      exact hK _ _ (Fr.refl _ _) rfl trivial
    simp only [Act.put, List.setIfInBounds_toArray, List.set_cons_succ, List.set_cons_zero]
    refine factWalkG_cons (fun W hW hf K hK => ?_) (fun v6 => ?_)
    · skip
      have e5 : v5 = .pointer (some ⟨x, 15, none⟩) := hf 5 (by omega) (by kernel_rfl)
      subst e5
      have hbx := keepB B1.out (HDR.out W hW)
      have y0 : W.cell? ⟨x, 15, none⟩ = some (.int .u64 0) := hbx.cell 15
      have y1 : W.cell? ⟨x, 16, none⟩ = some (.slice none 0 0) := hbx.cell 16
      have y2 : W.cell? ⟨x, 17, none⟩ = some (.slice none 0 0) := hbx.cell 17
      have y3 : W.cell? ⟨x, 18, none⟩ = some (.slice none 0 0) := hbx.cell 18
      refine ⟨by kernel_rfl, ?_⟩
      gi_step
      exact hK _ _ (Fr.refl _ _) rfl trivial
    simp only [Act.put, List.setIfInBounds_toArray, List.set_cons_succ, List.set_cons_zero]
    refine factWalkG_cons (fun W hW hf K hK => ?_) (fun v7 => ?_)
    · skip
      refine ⟨by kernel_rfl, ?_⟩
      gi_step
      exact hK _ _ (Fr.refl _ _) rfl trivial
    simp only [Act.put, List.setIfInBounds_toArray, List.set_cons_succ, List.set_cons_zero]
    refine factWalkG_cons (fun W hW hf K hK => ?_) (fun v8 => ?_)
    · skip
      have e7 : v7 = .pointer (some ⟨x, 0, none⟩) := hf 7 (by omega) (by kernel_rfl)
      subst e7
      refine ⟨by kernel_rfl, ?_⟩
      gi_step
      exact hK _ _ (Fr.refl _ _) rfl trivial
    simp only [Act.put, List.setIfInBounds_toArray, List.set_cons_succ, List.set_cons_zero]
    refine factWalkG_cons (fun W hW hf K hK => ?_) (fun v9 => ?_)
    · skip
      have e8 : v8 = .pointer (some ⟨x, 0, none⟩) := hf 8 (by omega) (by kernel_rfl)
      subst e8
      refine ⟨by kernel_rfl, ?_⟩
      gi_step
      exact hK _ _ (Fr.refl _ _) rfl trivial
    simp only [Act.put, List.setIfInBounds_toArray, List.set_cons_succ, List.set_cons_zero]
    refine factWalkG_cons (fun W hW hf K hK => ?_) (fun v10 => ?_)
    · skip
      have e9 : v9 = .pointer (some ⟨x, 0, none⟩) := hf 9 (by omega) (by kernel_rfl)
      subst e9
      refine ⟨by kernel_rfl, ?_⟩
      gi_step
      exact hK _ _ (Fr.refl _ _) rfl trivial
    simp only [Act.put, List.setIfInBounds_toArray, List.set_cons_succ, List.set_cons_zero]
    refine factWalkG_cons (fun W hW hf K hK => ?_) (fun v11 => ?_)
    · skip
      have e10 : v10 = .pointer (some ⟨x, 1, none⟩) := hf 10 (by omega) (by kernel_rfl)
      subst e10
      have hbx := keepB B1.out (HDR.out W hW)
      have x1 : W.cell? ⟨x, 1, none⟩ = some (.string s) := hbx.cell 1
      refine ⟨by kernel_rfl, ?_⟩
      gi_step
      exact hK _ _ (Fr.refl _ _) rfl trivial
    simp only [Act.put, List.setIfInBounds_toArray, List.set_cons_succ, List.set_cons_zero]
    refine factWalkG_cons (fun W hW hf K hK => ?_) (fun v12 => ?_)
    · skip
      have e6 : v6 = .agg #[.int .u64 0, .slice none 0 0, .slice none 0 0, .slice none 0 0] := hf 6 (by omega) (by kernel_rfl)
      have e11 : v11 = .string s := hf 11 (by omega) (by kernel_rfl)
      subst e6 e11
      refine ⟨by kernel_rfl, ?_⟩
      gi_step
      refine ⟨trivial, ?_⟩
      refine (callsIn_wide.2 (local_nil W 0 s)).mono ?_
      rintro e W' ⟨rfl, f2⟩
      dsimp only
      exact hK _ _ f2 rfl trivial
    simp only [Act.put, List.setIfInBounds_toArray, List.set_cons_succ, List.set_cons_zero]
    refine factWalkG_cons (fun W hW hf K hK => ?_) (fun v13 => ?_)
    · skip
      have e2 : v2 = .int .u64 0 := hf 2 (by omega) (by kernel_rfl)
      have e12 : v12 = .int .u64 0 := hf 12 (by omega) (by kernel_rfl)
      subst e2 e12
      refine ⟨by kernel_rfl, ?_⟩
      gi_step
      exact hK _ _ (Fr.refl _ _) rfl trivial
    simp only [Act.put, List.setIfInBounds_toArray, List.set_cons_succ, List.set_cons_zero]
    refine factWalkG_nil (fun W hW hf hmet => ?_)
    have e0 : v0 = .pointer (some ⟨x, 0, none⟩) := hf 0 (by omega)
    have e13 : v13 = .int .u64 0 := hf 13 (by omega)
    subst e0 e13
    have hWf := HDR.out W hW
    have BW := Lib.hid (keepB B1.out hWf)
    have TW := Lib.hid (keepB T1.out hWf)
    have FW := Lib.hid hWf
    have c5 : W.cell? ⟨x, 5, none⟩ = some (.int .u64 since) := BW.out.cell 5
    have r5 := BW.out.frozen 5
    clear hf hmet hWf hW HDR
    change wpAnyIn _ _ _ _ _ _ 4 _ _ _
    refine wpAnyIn_ready (rs := [14]) (by kernel_rfl) (by simp) ?_
    refine AllReadyIn.cons rfl (fun K hK => ?_) AllReadyIn.nil
    go_simp
    refine hK _ _ ?_
    try simp only [Act.put, List.setIfInBounds_toArray, List.set_cons_succ, List.set_cons_zero]
    clear hK K
    refine wpAnyIn_ready (rs := [15]) (by kernel_rfl) (by simp) ?_
    refine AllReadyIn.cons rfl (fun K hK => ?_) AllReadyIn.nil
    go_simp
    refine hK _ _ ?_
    try simp only [Act.put, List.setIfInBounds_toArray, List.set_cons_succ, List.set_cons_zero]
    clear hK K
    refine wpAnyIn_ready (rs := [16]) (by kernel_rfl) (by simp) ?_
    refine AllReadyIn.cons rfl (fun K hK => ?_) AllReadyIn.nil
    go_simp
    refine hK _ _ ?_
    try simp only [Act.put, List.setIfInBounds_toArray, List.set_cons_succ, List.set_cons_zero]
    clear hK K
    refine wpAnyIn_ready (rs := [17]) (by kernel_rfl) (by simp) ?_
    refine AllReadyIn.cons rfl (fun K hK => ?_) AllReadyIn.nil
    go_simp
    refine hK _ _ ?_
    try simp only [Act.put, List.setIfInBounds_toArray, List.set_cons_succ, List.set_cons_zero]
    clear hK K
    refine wpAnyIn_done (by kernel_rfl) ?_ _
    go_wp2_with fail
    go_meet
    exact ⟨BW.out.set_ 5 (.int .u64 0), TW.out.far (p := ⟨x, 5, none⟩) (Ne.symm hxt) _, ((FW.out.mono (fun _ _ h => h.elim)).setCell (fp := fun k => k = x) (p := ⟨x, 5, none⟩) (fun _ => rfl) _)⟩
  case rest =>
    obtain ⟨b2, t2, f2⟩ := hcut
    have c6 : wc.cell? ⟨x, 6, none⟩ = some (.int .u64 life) := b2.out.cell 6
    have r6 := b2.out.frozen 6
    have t5 : wc.cell? ⟨tb, 5, none⟩ = some (.int .u64 0) := t2.out.cell 5
    go_wp2_with fail
    have B3 : Hid (Blk (wc.setCell ⟨x, 6, none⟩ (.int .u64 0)) x 94 #[.string u, .string s, .int .u64 inc, .int .u64 n, .int .i64 ph, .int .u64 0, .int .u64 0, .int .u64 to_, .slice none 0 0, .slice none 0 0, .int .u64 asked, .int .i64 done, .int .i64 why, .int .i64 rf, .int .u64 now, .int .u64 0, .slice none 0 0, .slice none 0 0, .slice none 0 0, .slice none 0 0, .slice none 0 0]) := b2.out.set_ 6 (.int .u64 0)
    have F3 : Hid (Fr (fun k => k = x) w (wc.setCell ⟨x, 6, none⟩ (.int .u64 0))) := ((F1.out.mono (fun _ _ h => h.elim)).trans f2.out (fun _ _ h => h)).setCell (p := ⟨x, 6, none⟩) (fun _ => rfl) _
    clear c6 r6 t5
    refine (qchanges_c _ x u s inc n ph 0 to_ asked done why rf now B3.out).mono ?_
    rintro e w4 ⟨rfl, b4, f4⟩
    have B4 := Lib.hid b4
    have F4 : Hid (Fr (fun k => k = x) w w4) := F3.out.trans f4 (fun _ _ h => h)
    clear b4 f4
    go_wp2_with fail
    go_end0
    exact ⟨rfl, B4.out, F4.out⟩

end Go.Proofs.YtaenibbhpidjcaaGreatDoor
