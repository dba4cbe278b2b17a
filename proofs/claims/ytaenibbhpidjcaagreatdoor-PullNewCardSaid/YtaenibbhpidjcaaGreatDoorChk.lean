/-
  CONTRACT of pull's checked.
-/
import Derived.Test.YtaenibbhpidjcaaGreatDoorAsk
import Derived.Test.YtaenibbhpidjcaaGreatDoorLoc
namespace Go.Proofs.YtaenibbhpidjcaaGreatDoor
set_option linter.unusedSimpArgs false
set_option linter.unusedVariables false
open Go Go.RowKit

def ckX (x tb L : Nat) (seq : Int) (s : ByteArray) (i : Nat) (v : Value) (W : World) : Prop := match i with
  | 0 => v = .pointer (some ⟨x, 0, none⟩)
  | 1 => v = .pointer (some ⟨tb, 6, none⟩)
  | 2 => v = .int .u64 4
  | 3 => v = .pointer (some ⟨x, 0, none⟩)
  | 4 => v = .pointer (some ⟨x, 0, none⟩)
  | 5 => v = .pointer (some ⟨x, 14, none⟩)
  | 6 => v = .agg #[.int .u64 seq, .slice none 0 0, .slice (some ⟨L, 0, none⟩) 1 1, .slice none 0 0]
  | 7 => v = .pointer (some ⟨x, 0, none⟩)
  | 8 => v = .pointer (some ⟨x, 0, none⟩)
  | 9 => v = .pointer (some ⟨x, 0, none⟩)
  | 10 => v = .pointer (some ⟨x, 1, none⟩)
  | 11 => v = .string s
  | 12 => v = .int .u64 6
  | 13 => v = .int .u64 4
  | _ => True
theorem ckX_far {x tb L : Nat} {seq : Int} {s : ByteArray} {i : Nat} {v : Value} {W W' : World} (hg : Fr (fun _ => False) W W') (hx : ckX x tb L seq s i v W) : ckX x tb L seq s i v W' := by
  match i with
  | 0 => exact hx
  | 1 => exact hx
  | 2 => exact hx
  | 3 => exact hx
  | 4 => exact hx
  | 5 => exact hx
  | 6 => exact hx
  | 7 => exact hx
  | 8 => exact hx
  | 9 => exact hx
  | 10 => exact hx
  | 11 => exact hx
  | 12 => exact hx
  | 13 => exact hx
  | (n + 14) => exact hx
set_option maxRecDepth 100000 in
set_option maxHeartbeats 1000000 in
theorem checked_c (w : World) (x : Nat) (u s : ByteArray) (inc since life to_ asked done why now seq : Int) (L : Nat) (hB : Blk w x 75 #[.string u, .string s, .int .u64 inc, .int .u64 1, .int .i64 1, .int .u64 since, .int .u64 life, .int .u64 to_, .slice none 0 0, .slice none 0 0, .int .u64 asked, .int .i64 done, .int .i64 why, .int .u64 now, .int .u64 seq, .slice none 0 0, .slice (some ⟨L, 0, none⟩) 1 1, .slice none 0 0, .slice none 0 0, .slice none 0 0]) (hL : Blk w L 54 #[.string s, .int .u64 6]) :
    Calls Tryz.prog 36 #[.pointer (some ⟨x, 0, none⟩), .agg #[.int .i64 0, .int .u64 1, .int .u64 1, .int .i64 1, .int .i64 0, .int .u64 0, .int .u64 4, .slice none 0 0, .slice none 0 0, .string ⟨#[]⟩, .slice none 0 0, .int .i64 0, .int .i64 0, .int .i64 0, .string ⟨#[]⟩, .slice none 0 0, .slice none 0 0, .int .i64 0]] w fun e w' => e = .returned (.tuple #[]) ∧ ∃ q c, Blk w' x 75 #[.string u, .string s, .int .u64 inc, .int .u64 2, .int .i64 2, .int .u64 4, .int .u64 0, .int .u64 to_, .slice none 0 0, .slice none 0 0, .int .u64 now, .int .i64 done, .int .i64 why, .int .u64 now, .int .u64 seq, .slice none 0 0, .slice (some ⟨L, 0, none⟩) 1 1, .slice none 0 0, .slice none 0 0, .slice (some ⟨q, 0, none⟩) 1 c] ∧ Rd w' (some ⟨q, 0, none⟩) 37 (askA u 0 inc 2 2 ⟨#[]⟩ 4 8 0 0).toList ∧ w.heap.size ≤ q ∧ Fr (fun k => k = x) w w' := by
  have HB := Lib.hid hB
  have HL := Lib.hid hL
  clear hB hL
  go_enter Tryz.func36, Tryz.ntmps36
  go_wp2_with fail
  refine abs_wp (fun W => Hid (Blk W x 75 #[.string u, .string s, .int .u64 inc, .int .u64 1, .int .i64 1, .int .u64 since, .int .u64 life, .int .u64 to_, .slice none 0 0, .slice none 0 0, .int .u64 asked, .int .i64 done, .int .i64 why, .int .u64 now, .int .u64 seq, .slice none 0 0, .slice (some ⟨L, 0, none⟩) 1 1, .slice none 0 0, .slice none 0 0, .slice none 0 0]) ∧ Hid (Blk W L 54 #[.string s, .int .u64 6]) ∧ Hid (Blk W w.heap.size 64 #[.int .i64 0, .int .u64 1, .int .u64 1, .int .i64 1, .int .i64 0, .int .u64 0, .int .u64 4, .slice none 0 0, .slice none 0 0, .string ⟨#[]⟩, .slice none 0 0, .int .i64 0, .int .i64 0, .int .i64 0, .string ⟨#[]⟩, .slice none 0 0, .slice none 0 0, .int .i64 0]) ∧ Hid (Fr (fun _ => False) w W)) ⟨HB.out.alloc _, HL.out.alloc _, Blk.new _ _ _, (Fr.refl _ w).alloc _⟩ ?_
  rintro w1 ⟨B1, L1, T1, F1⟩
  have hxt : x ≠ w.heap.size := by have := HB.out.lt; omega
  obtain ⟨tb, htb⟩ : ∃ g, w.heap.size = g := ⟨_, rfl⟩
  rw [htb] at T1 hxt ⊢
  have HTB := Lib.hid htb
  clear htb HB HL
  go_cut [] from 4 to 20 (fun wx => Hid (Blk wx x 75 #[.string u, .string s, .int .u64 inc, .int .u64 1, .int .i64 1, .int .u64 4, .int .u64 life, .int .u64 to_, .slice none 0 0, .slice none 0 0, .int .u64 asked, .int .i64 done, .int .i64 why, .int .u64 now, .int .u64 seq, .slice none 0 0, .slice (some ⟨L, 0, none⟩) 1 1, .slice none 0 0, .slice none 0 0, .slice none 0 0]) ∧ Hid (Blk wx tb 64 #[.int .i64 0, .int .u64 1, .int .u64 1, .int .i64 1, .int .i64 0, .int .u64 0, .int .u64 4, .slice none 0 0, .slice none 0 0, .string ⟨#[]⟩, .slice none 0 0, .int .i64 0, .int .i64 0, .int .i64 0, .string ⟨#[]⟩, .slice none 0 0, .slice none 0 0, .int .i64 0]) ∧ Hid (Fr (fun k => k = x) w1 wx))
  case first =>
    refine (wpIn_wide (n := 9)).1 ?_
    refine wpIn_region_factsG (ms := [0, 0, 2, 0, 8, 24, 56, 0, 128, 384, 896, 1920, 4088, 8190, 16383, 32767, 65535, 131071]) (k := 14) (Fr (fun _ => False)) (ckX x tb L seq s) (fun i v W => True) (by kernel_rfl) (by kernel_rfl) (Fr.refl _ _) (fun a b c h1 h2 => h1.trans h2 (fun _ _ h => h)) (fun i v w w' hg hx => ckX_far hg hx) ?walk1
    case walk1 =>
    have hdr : ∀ W, Fr (fun _ => False) w1.drew W → Fr (fun _ => False) w1 W := fun W h => ((Fr.refl (fun _ => False) w1).drew).trans h (fun _ _ h => h)
    have HDR := Lib.hid hdr
    clear hdr
    refine factWalkG_cons (fun W hW hf K hK => ?_) (fun v0 => ?_)
    · skip
      refine ⟨by kernel_rfl, ?_⟩
      gi_step
      exact hK _ _ (Fr.refl _ _) rfl trivial
    simp only [Act.put, List.setIfInBounds_toArray, List.set_cons_succ, List.set_cons_zero]
    refine factWalkG_cons (fun W hW hf K hK => ?_) (fun v1 => ?_)
    · skip
      refine ⟨by kernel_rfl, ?_⟩
      gi_step
      exact hK _ _ (Fr.refl _ _) rfl trivial
    simp only [Act.put, List.setIfInBounds_toArray, List.set_cons_succ, List.set_cons_zero]
    refine factWalkG_cons (fun W hW hf K hK => ?_) (fun v2 => ?_)
    · skip
      have e1 : v1 = .pointer (some ⟨tb, 6, none⟩) := hf 1 (by omega) (by kernel_rfl)
      subst e1
      have hbt := keepB T1.out (HDR.out W hW)
      have ct : W.cell? ⟨tb, 6, none⟩ = some (.int .u64 4) := hbt.cell 6
      refine ⟨by kernel_rfl, ?_⟩
      gi_step
      exact hK _ _ (Fr.refl _ _) rfl trivial
    simp only [Act.put, List.setIfInBounds_toArray, List.set_cons_succ, List.set_cons_zero]
    refine factWalkG_cons (fun W hW hf K hK => ?_) (fun v3 => ?_)
    · skip
      refine ⟨by kernel_rfl, ?_⟩
      gi_step
      exact hK _ _ (Fr.refl _ _) rfl trivial
    simp only [Act.put, List.setIfInBounds_toArray, List.set_cons_succ, List.set_cons_zero]
    refine factWalkG_cons (fun W hW hf K hK => ?_) (fun v4 => ?_)
    · skip
      have e3 : v3 = .pointer (some ⟨x, 0, none⟩) := hf 3 (by omega) (by kernel_rfl)
      subst e3
      refine ⟨by kernel_rfl, ?_⟩
      gi_step
      exact hK _ _ (Fr.refl _ _) rfl trivial
    simp only [Act.put, List.setIfInBounds_toArray, List.set_cons_succ, List.set_cons_zero]
    refine factWalkG_cons (fun W hW hf K hK => ?_) (fun v5 => ?_)
    · skip
      have e4 : v4 = .pointer (some ⟨x, 0, none⟩) := hf 4 (by omega) (by kernel_rfl)
      subst e4
      refine ⟨by kernel_rfl, ?_⟩
      gi_step
      exact hK _ _ (Fr.refl _ _) rfl trivial
    simp only [Act.put, List.setIfInBounds_toArray, List.set_cons_succ, List.set_cons_zero]
    refine factWalkG_cons (fun W hW hf K hK => ?_) (fun v6 => ?_)
    · skip
      have e5 : v5 = .pointer (some ⟨x, 14, none⟩) := hf 5 (by omega) (by kernel_rfl)
      subst e5
      have hbx := keepB B1.out (HDR.out W hW)
      have x14 : W.cell? ⟨x, 14, none⟩ = some (.int .u64 seq) := hbx.cell 14
      have x15 : W.cell? ⟨x, 15, none⟩ = some (.slice none 0 0) := hbx.cell 15
      have x16 : W.cell? ⟨x, 16, none⟩ = some (.slice (some ⟨L, 0, none⟩) 1 1) := hbx.cell 16
      have x17 : W.cell? ⟨x, 17, none⟩ = some (.slice none 0 0) := hbx.cell 17
      refine ⟨by kernel_rfl, ?_⟩
      gi_step
      exact hK _ _ (Fr.refl _ _) rfl trivial
    simp only [Act.put, List.setIfInBounds_toArray, List.set_cons_succ, List.set_cons_zero]
    refine factWalkG_cons (fun W hW hf K hK => ?_) (fun v7 => ?_)
    · skip
      refine ⟨by kernel_rfl, ?_⟩
      gi_step
      exact hK _ _ (Fr.refl _ _) rfl trivial
    simp only [Act.put, List.setIfInBounds_toArray, List.set_cons_succ, List.set_cons_zero]
    refine factWalkG_cons (fun W hW hf K hK => ?_) (fun v8 => ?_)
    · skip
      have e7 : v7 = .pointer (some ⟨x, 0, none⟩) := hf 7 (by omega) (by kernel_rfl)
      subst e7
      refine ⟨by kernel_rfl, ?_⟩
      gi_step
      exact hK _ _ (Fr.refl _ _) rfl trivial
    simp only [Act.put, List.setIfInBounds_toArray, List.set_cons_succ, List.set_cons_zero]
    refine factWalkG_cons (fun W hW hf K hK => ?_) (fun v9 => ?_)
    · skip
      have e8 : v8 = .pointer (some ⟨x, 0, none⟩) := hf 8 (by omega) (by kernel_rfl)
      subst e8
      refine ⟨by kernel_rfl, ?_⟩
      gi_step
      exact hK _ _ (Fr.refl _ _) rfl trivial
    simp only [Act.put, List.setIfInBounds_toArray, List.set_cons_succ, List.set_cons_zero]
    refine factWalkG_cons (fun W hW hf K hK => ?_) (fun v10 => ?_)
    · skip
      have e9 : v9 = .pointer (some ⟨x, 0, none⟩) := hf 9 (by omega) (by kernel_rfl)
      subst e9
      refine ⟨by kernel_rfl, ?_⟩
      gi_step
      exact hK _ _ (Fr.refl _ _) rfl trivial
    simp only [Act.put, List.setIfInBounds_toArray, List.set_cons_succ, List.set_cons_zero]
    refine factWalkG_cons (fun W hW hf K hK => ?_) (fun v11 => ?_)
    · skip
      have e10 : v10 = .pointer (some ⟨x, 1, none⟩) := hf 10 (by omega) (by kernel_rfl)
      subst e10
      have hbx := keepB B1.out (HDR.out W hW)
      have x1 : W.cell? ⟨x, 1, none⟩ = some (.string s) := hbx.cell 1
      refine ⟨by kernel_rfl, ?_⟩
      gi_step
      exact hK _ _ (Fr.refl _ _) rfl trivial
    simp only [Act.put, List.setIfInBounds_toArray, List.set_cons_succ, List.set_cons_zero]
    refine factWalkG_cons (fun W hW hf K hK => ?_) (fun v12 => ?_)
    · skip
      have e6 : v6 = .agg #[.int .u64 seq, .slice none 0 0, .slice (some ⟨L, 0, none⟩) 1 1, .slice none 0 0] := hf 6 (by omega) (by kernel_rfl)
      have e11 : v11 = .string s := hf 11 (by omega) (by kernel_rfl)
      subst e6 e11
      refine ⟨by kernel_rfl, ?_⟩
      gi_step
      refine ⟨trivial, ?_⟩
      refine (callsIn_wide.2 (local_one W seq s L 6 (keepB L1.out (HDR.out W hW)))).mono ?_
      rintro e W' ⟨rfl, f2⟩
      dsimp only
      exact hK _ _ f2 rfl trivial
    simp only [Act.put, List.setIfInBounds_toArray, List.set_cons_succ, List.set_cons_zero]
    refine factWalkG_cons (fun W hW hf K hK => ?_) (fun v13 => ?_)
    · skip
      have e2 : v2 = .int .u64 4 := hf 2 (by omega) (by kernel_rfl)
      have e12 : v12 = .int .u64 6 := hf 12 (by omega) (by kernel_rfl)
      subst e2 e12
      refine ⟨by kernel_rfl, ?_⟩
      gi_step
      exact hK _ _ (Fr.refl _ _) rfl trivial
    simp only [Act.put, List.setIfInBounds_toArray, List.set_cons_succ, List.set_cons_zero]
    refine factWalkG_nil (fun W hW hf hmet => ?_)
    have e0 : v0 = .pointer (some ⟨x, 0, none⟩) := hf 0 (by omega)
    have e13 : v13 = .int .u64 4 := hf 13 (by omega)
    subst e0 e13
    have hWf := HDR.out W hW
    have BW := Lib.hid (keepB B1.out hWf)
    have TW := Lib.hid (keepB T1.out hWf)
    have FW := Lib.hid hWf
    have c5 : W.cell? ⟨x, 5, none⟩ = some (.int .u64 since) := BW.out.cell 5
    have r5 := BW.out.frozen 5
    clear hf hmet hWf hW HDR
    change wpAnyIn _ _ _ _ _ _ 4 _ _ _
    refine wpAnyIn_ready (rs := [14]) (by kernel_rfl) (by simp) ?_
    refine AllReadyIn.cons rfl (fun K hK => ?_) AllReadyIn.nil
    go_simp
    refine hK _ _ ?_
    try simp only [Act.put, List.setIfInBounds_toArray, List.set_cons_succ, List.set_cons_zero]
    clear hK K
    refine wpAnyIn_ready (rs := [15]) (by kernel_rfl) (by simp) ?_
    refine AllReadyIn.cons rfl (fun K hK => ?_) AllReadyIn.nil
    go_simp
    refine hK _ _ ?_
    try simp only [Act.put, List.setIfInBounds_toArray, List.set_cons_succ, List.set_cons_zero]
    clear hK K
    refine wpAnyIn_ready (rs := [16]) (by kernel_rfl) (by simp) ?_
    refine AllReadyIn.cons rfl (fun K hK => ?_) AllReadyIn.nil
    go_simp
    refine hK _ _ ?_
    try simp only [Act.put, List.setIfInBounds_toArray, List.set_cons_succ, List.set_cons_zero]
    clear hK K
    refine wpAnyIn_ready (rs := [17]) (by kernel_rfl) (by simp) ?_
    refine AllReadyIn.cons rfl (fun K hK => ?_) AllReadyIn.nil
    go_simp
    refine hK _ _ ?_
    try simp only [Act.put, List.setIfInBounds_toArray, List.set_cons_succ, List.set_cons_zero]
    clear hK K
    refine wpAnyIn_done (by kernel_rfl) ?_ _
    go_wp2_with fail
    go_meet
    exact ⟨BW.out.set_ 5 (.int .u64 4), TW.out.far (p := ⟨x, 5, none⟩) (Ne.symm hxt) _, ((FW.out.mono (fun _ _ h => h.elim)).setCell (fp := fun k => k = x) (p := ⟨x, 5, none⟩) (fun _ => rfl) _)⟩
  case rest =>
    obtain ⟨b2, t2, f2⟩ := hcut
    have c6 : wc.cell? ⟨x, 6, none⟩ = some (.int .u64 life) := b2.out.cell 6
    have r6 := b2.out.frozen 6
    have t5 : wc.cell? ⟨tb, 5, none⟩ = some (.int .u64 0) := t2.out.cell 5
    go_wp2_with fail
    have B3 : Hid (Blk (wc.setCell ⟨x, 6, none⟩ (.int .u64 0)) x 75 #[.string u, .string s, .int .u64 inc, .int .u64 1, .int .i64 1, .int .u64 4, .int .u64 0, .int .u64 to_, .slice none 0 0, .slice none 0 0, .int .u64 asked, .int .i64 done, .int .i64 why, .int .u64 now, .int .u64 seq, .slice none 0 0, .slice (some ⟨L, 0, none⟩) 1 1, .slice none 0 0, .slice none 0 0, .slice none 0 0]) := b2.out.set_ 6 (.int .u64 0)
    have F3 : Hid (Fr (fun k => k = x) w (wc.setCell ⟨x, 6, none⟩ (.int .u64 0))) := ((F1.out.mono (fun _ _ h => h.elim)).trans f2.out (fun _ _ h => h)).setCell (p := ⟨x, 6, none⟩) (fun _ => rfl) _
    clear c6 r6 t5
    refine (ask2_c _ x u s inc 1 4 0 to_ asked done why now seq (some ⟨L, 0, none⟩) 1 1 B3.out).mono ?_
    rintro e w4 ⟨rfl, q, c, b4, r4, l4, f4⟩
    have HX : Hid (∃ q c, Blk w4 x 75 #[.string u, .string s, .int .u64 inc, .int .u64 2, .int .i64 2, .int .u64 4, .int .u64 0, .int .u64 to_, .slice none 0 0, .slice none 0 0, .int .u64 now, .int .i64 done, .int .i64 why, .int .u64 now, .int .u64 seq, .slice none 0 0, .slice (some ⟨L, 0, none⟩) 1 1, .slice none 0 0, .slice none 0 0, .slice (some ⟨q, 0, none⟩) 1 c] ∧ Rd w4 (some ⟨q, 0, none⟩) 37 (askA u 0 inc 2 2 ⟨#[]⟩ 4 8 0 0).toList ∧ w.heap.size ≤ q ∧ Fr (fun k => k = x) w w4) := ⟨q, c, b4, r4, Nat.le_trans F3.out.size l4, F3.out.trans f4 (fun _ _ h => h)⟩
    clear b4 r4 l4 f4
    go_wp2_with fail
    go_end0
    exact ⟨rfl, HX.out⟩

end Go.Proofs.YtaenibbhpidjcaaGreatDoor
