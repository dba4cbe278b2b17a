/-
  CONTRACT of the laws' awake: the chapter's examples.
-/
import Derived.Test.YtfdpaiainlfigaaDoorOf
import Derived.Lib.SlBytesConst
import Derived.Deep.DeepCutAuto
namespace Go.Proofs.YtfdpaiainlfigaaDoor
set_option linter.unusedSimpArgs false
set_option linter.unusedVariables false
open Go Go.RowKit

theorem conv_const (W : World) (N : Nat) (C : Array Value) (n c : Nat) (hN : W.heap.size = N) : (convert 24 24 (.slice (some ⟨N, 0, none⟩) n c)).run Tryd.prog (W.alloc (.cells C 5)) = .ok (.slice (some ⟨N, 0, none⟩) n c) (W.alloc (.cells C 5 (C.size, C.size + 1))) := by
  subst hN
  exact Lib.run_convert_bytes_const (P := Tryd.prog) W 24 5 C n c Tryd.underlying24 Tryd.underlying5
theorem rd_new (W : World) (t : TypeId) (cs : Array Value) (fz : Nat × Nat) (n : Nat) (hn : n ≤ cs.size) : Rd (W.alloc (.cells cs t fz)) (some ⟨W.heap.size, 0, none⟩) n (cs.toList.take n) := by
  refine ⟨by simp; omega, fun _ => ⟨_, rfl, fun j u hu => ?_⟩⟩
  rw [Addr.add_lit, Nat.zero_add, cell_of_row _ W.heap.size _ cs t fz (heap_alloc_new W _)]
  rw [List.getElem?_take] at hu
  split at hu
  · simpa using hu
  · cases hu
theorem rdB2 (W : World) (t : TypeId) (A B : Option Addr) (c d : Nat) (l m : List UInt8) (ha : Rd W A l.length (bv l)) (hb : Rd W B m.length (bv m)) (h1 : l.length ≤ c) (h2 : m.length ≤ d) (g1 : c ≤ maxLen) (g2 : d ≤ maxLen) :
    RdB (W.alloc (.cells #[.slice A l.length c, .slice B m.length d] t)) (some ⟨W.heap.size, 0, none⟩) 2 [l, m] := by
  have hn := Blk.new W t #[.slice A l.length c, .slice B m.length d]
  refine ⟨rfl, fun _ => ⟨_, 0, rfl, fun i hi => ?_⟩⟩
  have : i = 0 ∨ i = 1 := by simp at hi; omega
  rcases this with rfl | rfl
  · exact ⟨A, c, hn.cell 0, ha.alloc _, h1, g1⟩
  · exact ⟨B, d, hn.cell 1, hb.alloc _, h2, g2⟩
theorem abs_calls {P : Program} {f : FuncId} {args : Array Value} {R : Ending → World → Prop} {w : World} (Φ : World → Prop) (h : Φ w) (k : ∀ W, Φ W → Calls P f args W R) : Calls P f args w R := k w h
theorem size_lt_fr {w w' : World} {fp : Nat → Prop} (h : Fr fp w w') {k : Nat} (hk : k < w.heap.size) : k < w'.heap.size := Nat.lt_of_lt_of_le hk h.size
def abcL : List UInt8 := [80, 140, 94, 140, 50, 124, 20, 226, 225, 167, 43, 163, 78, 235, 69, 47, 55, 69, 139, 32, 158, 214, 58, 41, 77, 153, 155, 76, 134, 103, 89, 130]
theorem abc_sum : sumL (begL 32) 0 [97, 98, 99] 32 = abcL := by
  unfold sumL
  rw [wrL_less (by decide)]
  decide +kernel
theorem szB_0 : szB 0 = false := by decide
theorem szB_33 : szB 33 = false := by decide
theorem szB_32 : szB ((32 : Nat) : Int) = true := by decide
theorem szB_16 : szB ((16 : Nat) : Int) = true := by decide

theorem aw_65 (B : List Nat) : wrL B 0 (List.replicate 64 (0 : UInt8) ++ [1]) = (mixL B (wds (List.replicate 64 (0 : UInt8))) 64 false, 64, [1]) := by
  have e1 : (List.replicate 64 (0 : UInt8) ++ [1]).take 64 = List.replicate 64 0 := by rfl
  have e2 : (List.replicate 64 (0 : UInt8) ++ [1]).drop 64 = [1] := by rfl
  rw [wrL_more (by simp), e1, e2, wrL_less (by simp)]

set_option maxRecDepth 100000 in
set_option maxHeartbeats 1000000 in
theorem awake_c (w : World) (hT : Tabs w) : Calls Tryd.prog 9 #[] w fun e w' => e = .returned (.bool true) ∧ Fr (fun _ => False) w w' := by
  have HT := Lib.hid hT
  clear hT
  have kc := conv_const
  go_enter Tryd.func9, Tryd.ntmps9
  go_wp2_with fail
  refine abs_calls (fun W => Hid (RdB W (some ⟨w.heap.size + 1 + 1, 0, none⟩) 2 [[97], [98, 99]]) ∧ Hid (Fr (fun _ => False) w W)) ?_ ?_
  · have a1 := (rd_new w 5 #[.int .u8 97] (1, 2) 1 (by simp)).alloc (.cells #[.int .u8 98, .int .u8 99] 5 (2, 3))
    have a2 := rd_new (w.alloc (.cells #[.int .u8 97] 5 (1, 2))) 5 #[.int .u8 98, .int .u8 99] (2, 3) 2 (by simp)
    rw [World.size_alloc] at a2
    have r := rdB2 _ 24 _ _ 1 2 [97] [98, 99] a1 a2 (by decide) (by decide) (by unfold maxLen; omega) (by unfold maxLen; omega)
    simp only [World.size_alloc] at r
    exact ⟨r, (((Fr.refl _ w).alloc _).alloc _).alloc _⟩
  rintro W1 ⟨hr, hf⟩
  clear kc
  refine (of_yes W1 32 _ 2 2 _ szB_32 (by omega) hr.out (by omega) (by simp) (HT.out.far hf.out)).mono ?_
  rintro e w2 ⟨v2, rfl, o2, f2⟩
  rw [show ([[97], [98, 99]] : List (List UInt8)).flatten = [97, 98, 99] from rfl, abc_sum] at o2
  obtain ⟨A2, c2, rfl, -, -⟩ := own_slice o2
  have R2 := Lib.hid (Rd.of_own o2)
  have F2 := Lib.hid (hf.out.trans f2 (fun _ _ h => h))
  clear o2 f2 hr hf
  go_wp2_with fail
  refine abs_calls (fun W => Hid (Fr (fun _ => False) w2 W)) ((Fr.refl _ w2).alloc _) ?_
  intro W3 hf3
  refine (of_no W3 0 _ 1 1 szB_0).mono ?_
  rintro e w4 ⟨rfl, f4⟩
  have F4 := Lib.hid (hf3.out.trans f4 (fun _ _ h => h))
  clear f4 hf3
  go_wp2_with fail
  refine (of_no w4 33 none 0 0 szB_33).mono ?_
  rintro e w5 ⟨rfl, f5⟩
  have F5 := Lib.hid (F4.out.trans f5 (fun _ _ h => h))
  clear f5 F4
  have hmk : ∀ W : World, (Instr.makeSlice 24 (.int .i64 63) (.int .i64 63)).run Tryd.prog W = .ok (.slice (some ⟨W.heap.size, 0, none⟩) 63 63) (W.alloc (.cells (madeCells #[.int .u8 0] 63) 5)) := run_make_row' (P := Tryd.prog) 24 5 _ 1 Tryd.underlying24 u8_info rfl .i64 .i64 63 (by omega) (by omega)
  go_wp2_with fail
  clear hmk
  refine abs_calls (fun W => Hid (Fr (fun _ => False) w2 W)) (F5.out.alloc _) ?_
  intro W6 hf6
  have hmix := Mix_no W6 (List.replicate 8 0) (some ⟨w5.heap.size, 0, none⟩) 63 63 0 0 ⟨rfl, by decide⟩ (.inl (by decide))
  rw [show uv (List.replicate 8 0) = #[.int .u32 0, .int .u32 0, .int .u32 0, .int .u32 0, .int .u32 0, .int .u32 0, .int .u32 0, .int .u32 0] from rfl] at hmix
  refine hmix.mono ?_
  rintro e w7 ⟨rfl, f7⟩
  have F7 := Lib.hid (hf6.out.trans f7 (fun _ _ h => h))
  clear f7 hf6 hmix F5
  go_wp2_with fail
  refine abs_calls (fun W => Hid (Fr (fun _ => False) w2 W) ∧ Hid (Fr (fun _ => False) w7 W)) ⟨F7.out.alloc _, (Fr.refl _ w7).alloc _⟩ ?_
  rintro W8 ⟨hf8, hf87⟩
  refine (begin_yes W8 16 szB_16 (by omega) (HT.out.far (F2.out.trans hf8.out (fun _ _ h => h)))).mono ?_
  rintro e w9 ⟨rfl, f9⟩
  have hmk : ∀ W : World, (Instr.makeSlice 24 (.int .i64 64) (.int .i64 64)).run Tryd.prog W = .ok (.slice (some ⟨W.heap.size, 0, none⟩) 64 64) (W.alloc (.cells (madeCells #[.int .u8 0] 64) 5)) := run_make_row' (P := Tryd.prog) 24 5 _ 1 Tryd.underlying24 u8_info rfl .i64 .i64 64 (by omega) (by omega)
  have F9 := Lib.hid (hf8.out.trans f9 (fun _ _ h => h))
  clear f9 hf8 hf87
  obtain ⟨B, hB⟩ : ∃ B, begL 16 = B := ⟨_, rfl⟩
  have hBw := ws_begL 16 (by omega)
  rw [hB] at hBw ⊢
  have HBw := Lib.hid hBw
  clear hB hBw
  have HMK := Lib.hid hmk
  clear hmk
  unfold dc
  go_wp2_with fail
  refine abs_world (fun W => Hid (Blk W w9.heap.size 33 (dc B (.slice none 0 0) 0 ((16 : Nat) : Int))) ∧ Hid (Fr (fun _ => False) w2 W)) ⟨Blk.new w9 _ _, F9.out.alloc _⟩ ?_
  rintro W10 ⟨HB10, HF10⟩
  have hmk := HMK.out
  refine (wpIn_wide (n := 9)).1 ?_
  refine wpIn_region_facts (k := 3) (Fr (fun _ => False)) (fun i v W => match i with
      | 0 => v = .agg (dc B (.slice none 0 0) 0 ((16 : Nat) : Int))
      | 1 => ∃ g, v = .slice (some ⟨g, 0, none⟩) 64 64 ∧ Rd W (some ⟨g, 0, none⟩) 64 (bv (List.replicate 64 0))
      | _ => ∃ A c, v = .agg (dc B (.slice A 64 c) 0 ((16 : Nat) : Int)) ∧ Rd W A 64 (bv (List.replicate 64 0)) ∧ 64 ≤ c ∧ c ≤ maxLen ∧ ∀ k, inA A k → w9.heap.size < k) (by kernel_rfl) (by kernel_rfl) (Fr.refl _ _) (fun a b c h1 h2 => h1.trans h2 (fun _ _ h => h)) ?stab ?walk
  case stab =>
    intro i v W W' hg hx
    match i with
    | 0 => exact hx
    | 1 => obtain ⟨g, h1, h2⟩ := hx; exact ⟨g, h1, h2.far hg⟩
    | (n + 2) => obtain ⟨A, c, h1, h2, h3⟩ := hx; exact ⟨A, c, h1, h2.far hg, h3⟩
  case walk =>
    refine factWalk_cons (fun W hW hf K hK => ?_) (fun v0 => ?_)
    · have bl := HB10.out.drew.fr (fp := fun _ => False) hW (fun h => h)
      have k0 := bl.cell 0; have k1 := bl.cell 1; have k2 := bl.cell 2; have k3 := bl.cell 3; have k4 := bl.cell 4; have k5 := bl.cell 5; have k6 := bl.cell 6; have k7 := bl.cell 7; have k8 := bl.cell 8; have k9 := bl.cell 9; have k10 := bl.cell 10
      simp only [dc, List.getElem?_toArray, List.getElem?_cons_zero, List.getElem?_cons_succ] at k0 k1 k2 k3 k4 k5 k6 k7 k8 k9 k10
      clear bl hmk
      gi_step
      exact hK _ _ (Fr.refl _ _) rfl
    refine factWalk_cons (fun W hW hf K hK => ?_) (fun v1 => ?_)
    · gi_step
      refine hK _ _ ((Fr.refl _ W).alloc _) ⟨W.heap.size, rfl, ?_⟩
      have a := rd_new W 5 (madeCells #[.int .u8 0] 64) (0, 0) 64 (by rw [size_madeCells]; omega)
      have e : (madeCells #[.int .u8 0] 64).toList.take 64 = bv (List.replicate 64 0) := by kernel_rfl
      rw [e] at a
      exact a
    refine factWalk_cons (fun W hW hf K hK => ?_) (fun v2 => ?_)
    · have e0 : v0 = .agg (dc B (.slice none 0 0) 0 ((16 : Nat) : Int)) := hf 0 (by omega) (by kernel_rfl)
      obtain ⟨g, e1, h2⟩ : ∃ g, v1 = .slice (some ⟨g, 0, none⟩) 64 64 ∧ Rd W (some ⟨g, 0, none⟩) 64 (bv (List.replicate 64 0)) := hf 1 (by omega) (by kernel_rfl)
      subst e0 e1
      clear hmk
      gi_step
      refine ⟨trivial, ?_⟩
      have hlt := HB10.out.lt
      have hw := write_c W B none 0 0 [] 0 16 (some ⟨g, 0, none⟩) 64 64 (List.replicate 64 0) HBw.out (Rd.none_ _ _) ⟨Nat.le_refl _, by unfold maxLen; omega⟩ h2 ⟨Nat.le_refl _, by unfold maxLen; omega⟩ (by omega) (by simp) ((HT.out.far (F2.out.trans HF10.out (fun _ _ h => h))).far (((Fr.refl (fun _ => False) W10).drew).trans hW (fun _ _ h => h)))
      rw [List.nil_append, wrL_less (by simp)] at hw
      refine (callsIn_wide.2 hw).mono ?_
      rintro e W' ⟨v, rfl, o2, f2⟩
      obtain ⟨A3, c3, rfl, h5, h6⟩ := own_slice o2
      dsimp only
      have hsz := hW.size
      refine hK _ _ f2 ⟨A3, c3, rfl, Rd.of_own o2, h5, h6, fun k hk => ?_⟩
      obtain ⟨ad, rfl, rfl⟩ := hk
      have := (o2.lt ad.block rfl).1
      exact Nat.lt_of_lt_of_le hlt (Nat.le_trans hsz this)
    refine factWalk_nil (fun W hW hf => ?_)
    obtain ⟨A2', c2', e2, h2, h3, h4, h5⟩ : ∃ A c, v2 = .agg (dc B (.slice A 64 c) 0 ((16 : Nat) : Int)) ∧ Rd W A 64 (bv (List.replicate 64 0)) ∧ 64 ≤ c ∧ c ≤ maxLen ∧ ∀ k, inA A k → w9.heap.size < k := hf 2 (by omega)
    subst e2
    change wpAnyIn _ _ _ _ _ _ 1 _ _ _
    refine wpAnyIn_ready (rs := [3]) (by kernel_rfl) (by simp) ?_
    refine AllReadyIn.cons rfl (fun K hK => ?_) AllReadyIn.nil
    have bl := HB10.out.drew.fr (fp := fun _ => False) hW (fun h => h)
    have k0 := bl.cell 0; have k1 := bl.cell 1; have k2 := bl.cell 2; have k3 := bl.cell 3; have k4 := bl.cell 4; have k5 := bl.cell 5; have k6 := bl.cell 6; have k7 := bl.cell 7; have k8 := bl.cell 8; have k9 := bl.cell 9; have k10 := bl.cell 10
    have z0 := bl.frozen 0; have z1 := bl.frozen 1; have z2 := bl.frozen 2; have z3 := bl.frozen 3; have z4 := bl.frozen 4; have z5 := bl.frozen 5; have z6 := bl.frozen 6; have z7 := bl.frozen 7; have z8 := bl.frozen 8; have z9 := bl.frozen 9; have z10 := bl.frozen 10
    simp only [dc, List.getElem?_toArray, List.getElem?_cons_zero, List.getElem?_cons_succ] at k0 k1 k2 k3 k4 k5 k6 k7 k8 k9 k10
    clear bl hmk hf
    unfold dc
    go_simp
    refine hK _ _ ?_
    refine wpAnyIn_done (by kernel_rfl) ?_ _
    clear hK K k0 k1 k2 k3 k4 k5 k6 k7 k8 k9 k10 z0 z1 z2 z3 z4 z5 z6 z7 z8 z9 z10
    have hs := ((((((((((((HB10.out.drew.fr hW (fun h => h)).set_ 0 (.int .u32 (at_ B 0 : Nat))).set_ 1 (.int .u32 (at_ B 1 : Nat))).set_ 2 (.int .u32 (at_ B 2 : Nat))).set_ 3 (.int .u32 (at_ B 3 : Nat))).set_ 4 (.int .u32 (at_ B 4 : Nat))).set_ 5 (.int .u32 (at_ B 5 : Nat))).set_ 6 (.int .u32 (at_ B 6 : Nat))).set_ 7 (.int .u32 (at_ B 7 : Nat))).set_ 8 (.slice A2' 64 c2')).set_ 9 (.int .u64 ((0 : Nat) : Int))).set_ 10 (.int .i64 ((16 : Nat) : Int)))
    rw [dc_all] at hs
    have hff := ((((((((((((Fr.refl (fun k => k = w9.heap.size) W).setCell (p := ⟨w9.heap.size, 0, none⟩) (fun _ => rfl) (.int .u32 (at_ B 0 : Nat))).setCell (p := ⟨w9.heap.size, 1, none⟩) (fun _ => rfl) (.int .u32 (at_ B 1 : Nat))).setCell (p := ⟨w9.heap.size, 2, none⟩) (fun _ => rfl) (.int .u32 (at_ B 2 : Nat))).setCell (p := ⟨w9.heap.size, 3, none⟩) (fun _ => rfl) (.int .u32 (at_ B 3 : Nat))).setCell (p := ⟨w9.heap.size, 4, none⟩) (fun _ => rfl) (.int .u32 (at_ B 4 : Nat))).setCell (p := ⟨w9.heap.size, 5, none⟩) (fun _ => rfl) (.int .u32 (at_ B 5 : Nat))).setCell (p := ⟨w9.heap.size, 6, none⟩) (fun _ => rfl) (.int .u32 (at_ B 6 : Nat))).setCell (p := ⟨w9.heap.size, 7, none⟩) (fun _ => rfl) (.int .u32 (at_ B 7 : Nat))).setCell (p := ⟨w9.heap.size, 8, none⟩) (fun _ => rfl) (.slice A2' 64 c2')).setCell (p := ⟨w9.heap.size, 9, none⟩) (fun _ => rfl) (.int .u64 ((0 : Nat) : Int))).setCell (p := ⟨w9.heap.size, 10, none⟩) (fun _ => rfl) (.int .i64 ((16 : Nat) : Int)))
    have hlt := HB10.out.lt
    have hrd := h2.fr hff (fun k hk e => by have := h5 k hk; omega)
    have hfw := (((HF10.out.drew).trans hW (fun _ _ h => h))).trans hff (fun k hk e => by have := F9.out.size; omega)
    generalize (World.setCell (World.setCell (World.setCell (World.setCell (World.setCell (World.setCell (World.setCell (World.setCell (World.setCell (World.setCell (World.setCell W ⟨w9.heap.size, 0, none⟩ (.int .u32 (at_ B 0 : Nat))) ⟨w9.heap.size, 1, none⟩ (.int .u32 (at_ B 1 : Nat))) ⟨w9.heap.size, 2, none⟩ (.int .u32 (at_ B 2 : Nat))) ⟨w9.heap.size, 3, none⟩ (.int .u32 (at_ B 3 : Nat))) ⟨w9.heap.size, 4, none⟩ (.int .u32 (at_ B 4 : Nat))) ⟨w9.heap.size, 5, none⟩ (.int .u32 (at_ B 5 : Nat))) ⟨w9.heap.size, 6, none⟩ (.int .u32 (at_ B 6 : Nat))) ⟨w9.heap.size, 7, none⟩ (.int .u32 (at_ B 7 : Nat))) ⟨w9.heap.size, 8, none⟩ (.slice A2' 64 c2')) ⟨w9.heap.size, 9, none⟩ (.int .u64 ((0 : Nat) : Int))) ⟨w9.heap.size, 10, none⟩ (.int .i64 ((16 : Nat) : Int))) = W11 at *
    have HS : Hid (Blk W11 w9.heap.size 33 (dc B (.slice A2' 64 c2') 0 ((16 : Nat) : Int))) := hs
    have HRD := Lib.hid hrd
    have HFW := Lib.hid hfw
    have H34 := Lib.hid (And.intro h3 h4)
    clear hs hff hrd hfw h2 h5 hW
    have k0 := HS.out.cell 0
    have k1 := HS.out.cell 1
    have k2 := HS.out.cell 2
    have k3 := HS.out.cell 3
    have k4 := HS.out.cell 4
    have k5 := HS.out.cell 5
    have k6 := HS.out.cell 6
    have k7 := HS.out.cell 7
    have k8 := HS.out.cell 8
    have k9 := HS.out.cell 9
    have k10 := HS.out.cell 10
    simp only [dc, List.getElem?_toArray, List.getElem?_cons_zero, List.getElem?_cons_succ] at k0 k1 k2 k3 k4 k5 k6 k7 k8 k9 k10
    go_wp2_with fail
    refine abs_calls (fun W => Hid (Rd W (some ⟨W11.heap.size, 0, none⟩) 1 (bv [1])) ∧ Hid (Fr (fun _ => False) W11 W)) ⟨rd_new W11 5 #[.int .u8 1] (0, 0) 1 (by simp), (Fr.refl _ W11).alloc _⟩ ?_
    rintro W12 ⟨hr12, hf12⟩
    have hw := write_c W12 B A2' 64 c2' (List.replicate 64 0) 0 16 (some ⟨W11.heap.size, 0, none⟩) 1 1 [1] HBw.out (HRD.out.far hf12.out) H34.out hr12.out ⟨Nat.le_refl _, by unfold maxLen; omega⟩ (by omega) (by simp) ((HT.out.far (F2.out.trans HFW.out (fun _ _ h => h))).far hf12.out)
    rw [aw_65] at hw
    refine hw.mono ?_
    rintro e w13 ⟨v13, rfl, o13, f13⟩
    obtain ⟨A13, c13, rfl, -, -⟩ := own_slice o13
    dsimp only at o13 ⊢
    obtain ⟨M, hM⟩ : ∃ M, mixL B (wds (List.replicate 64 (0 : UInt8))) 64 false = M := ⟨_, rfl⟩
    rw [hM]
    have HS13 := Lib.hid ((HS.out.fr hf12.out (fun h => h)).fr f13 (fun h => h))
    have HF13 := Lib.hid ((HFW.out.trans hf12.out (fun _ _ h => h)).trans f13 (fun _ _ h => h))
    clear hw hM o13 hr12 k0 k1 k2 k3 k4 k5 k6 k7 k8 k9 k10
    unfold dc
    go_upto_region 8 with fail
    refine abs_world (fun W => (W.cell? ⟨w13.heap.size, 8, none⟩ = some (.slice A13 1 c13)) ∧ (W.cell? ⟨w13.heap.size, 9, none⟩ = some (.int .u64 64)) ∧ (W.cell? ⟨w9.heap.size, 8, none⟩ = some (.slice A2' 64 c2')) ∧ (W.cell? ⟨w9.heap.size, 9, none⟩ = some (.int .u64 0)) ∧ (convert 24 9 (.slice A2 32 c2)).run Tryd.prog W = .ok (.string (strOf abcL)) W ∧ Hid (Fr (fun _ => False) w2 W)) ?_ ?_
    · have hb14 := Blk.new w13 33 (dc M (.slice A13 ([1] : List UInt8).length c13) 64 ((16 : Nat) : Int))
      have hs14 := HS13.out.alloc (.cells (dc M (.slice A13 ([1] : List UInt8).length c13) 64 ((16 : Nat) : Int)) 33)
      have hf14 := HF13.out.alloc (.cells (dc M (.slice A13 ([1] : List UInt8).length c13) 64 ((16 : Nat) : Int)) 33)
      exact ⟨hb14.cell 8, hb14.cell 9, hs14.cell 8, hs14.cell 9, conv_str _ A2 32 c2 abcL (R2.out.far hf14), hf14⟩
    rintro W14 ⟨m8, m9, k8, k9, hcv, hf14⟩
    have hst : (strOf abcL).toList = abcL := strOf_toList _
    have hab : abcL = [80, 140, 94, 140, 50, 124, 20, 226, 225, 167, 43, 163, 78, 235, 69, 47, 55, 69, 139, 32, 158, 214, 58, 41, 77, 153, 155, 76, 134, 103, 89, 130] := rfl
    rw [hab] at hst
    go_wp2_with fail
    go_ret
    exact ⟨rfl, F2.out.trans hf14.out (fun _ _ h => h)⟩
end Go.Proofs.YtfdpaiainlfigaaDoor
