/-
  CONTRACT of the reference's Write.
-/
import Derived.Test.YtjaocgmicdnghaaGreatDoorRmix
import Derived.Test.YtjaocgmicdnghaaGreatDoorWrite
import Derived.Test.YtjaocgmicdnghaaGreatDoorMid
import Derived.Test.YtjaocgmicdnghaaGreatDoorSum
namespace Go.Proofs.YtjaocgmicdnghaaGreatDoor
set_option linter.unusedSimpArgs false
set_option linter.unusedVariables false
open Go Go.RowKit Go.Shelf
attribute [local go_sem] Oper.semAt_some
theorem abs_exit {K : Act → World → Prop} {Q : Exit → Act → World → Prop} {e : Exit} {a : Act} {w : World} (Φ : World → Prop) (h : Φ w) (k : ∀ W, Φ W → Exit.then K Q e a W) : Exit.then K Q e a w := k w h
theorem cut_own (A : Option Addr) (n c k : Nat) (l : Int) (hl : l = (k : Int)) (hk : k < n) (hn : n ≤ c) :
    ∃ AD, (∀ W base xs, OwnM W base 5 (.slice A n c) n xs → OwnM W base 5 (.slice AD (n - k) (c - k)) (n - k) (xs.drop k)) ∧ ∀ W, (Instr.sliceAt 43 (.slice A n c) (some (.int .i64 l)) none none).run Tryz.prog W = .ok (.slice AD (n - k) (c - k)) W := by
  subst hl
  refine ⟨if c = k then A else A.map (·.add k), fun W base xs h => h.cut hk, fun W => ?_⟩
  have ht : Tryz.prog.underlying 43 = some (.slice (Tryz.prog.elem 43)) := by kernel_rfl
  rw [run_sliceAt_slice _ _ _ _ _ _ ht, run_slice_l _ _ _ _ _ ht .i64 (k : Int) (by omega) (by omega), sizeOf_u8]
  simp [sliced, Result.andThen]

set_option maxRecDepth 100000 in
set_option maxHeartbeats 1000000 in
theorem rwrite_c (w : World) (H : List Nat) (R : Option Addr) (rn rc : Nat) (r : List UInt8) (N : Nat) (S : Int) (A : Option Addr) (n c : Nat) (b : List UInt8) (hH : Ws 8 H) (hR : Rd w R rn (bv r)) (hrc : rn ≤ rc ∧ rc ≤ maxLen) (hA : Rd w A n (bv b)) (hnc : n ≤ c ∧ c ≤ maxLen) (hN : N < 18446744073709551616) (hl : r.length + b.length ≤ 1000000000000) :
    Calls Tryz.prog 57 #[.agg (dc H (.slice R rn rc) N S), .slice A n c] w fun e w' => ∃ v, e = .returned (.agg (dc (wrL H N (r ++ b)).1 v (wrL H N (r ++ b)).2.1 S)) ∧ OwnM w' w.heap.size 5 v (wrL H N (r ++ b)).2.2.length (bv (wrL H N (r ++ b)).2.2) ∧ Fr (fun _ => False) w w' := by
  have HR := Lib.hid hR
  have HA := Lib.hid hA
  have HH := Lib.hid hH
  have HN := Lib.hid hN
  have hrl : r.length = rn := by rw [← bv_length]; exact hR.1
  have hbl : b.length = n := by rw [← bv_length]; exact hA.1
  have hln : rn + n ≤ 1000000000000 := by omega
  have HRL := Lib.hid hrl
  have HBL := Lib.hid hbl
  have HLW := Lib.hid (show (r ++ b).length = rn + n by rw [List.length_append, hrl, hbl])
  obtain ⟨l, hll⟩ : ∃ l, r ++ b = l := ⟨_, rfl⟩
  rw [hll] at HLW ⊢
  have HLL := Lib.hid hll
  clear hR hA hH hN hl hrl hbl hll
  unfold dc
  go_enter Tryz.func57, Tryz.ntmps57
  go_upto_region 1 with fail
  refine abs_world (fun W => Hid (Blk W w.heap.size 79 (dc H (.slice R rn rc) N S)) ∧ Hid (Blk W (w.heap.size + 1) 79 (dc [] (.slice none 0 0) 0 0)) ∧ Hid (Fr (fun _ => False) w W) ∧ W.heap.size = w.heap.size + 2) ?_ ?_
  · have b0 := Blk.new w 79 (dc H (.slice R rn rc) N S)
    have b1 := Blk.new (w.alloc (.cells (dc H (.slice R rn rc) N S) 79)) 79 (dc [] (.slice none 0 0) 0 0)
    rw [World.size_alloc] at b1
    exact ⟨b0.alloc _, b1, ((Fr.refl _ w).alloc _).alloc _, by simp⟩
  rintro W1 ⟨HB0, HB1, HF1, hsz⟩
  have HSZ := Lib.hid hsz
  have OE : Hid ((W1.alloc (.cells #[] 5)).ownsRow W1.heap.size 5 1 (.slice (some ⟨W1.heap.size, 0, none⟩) 0 0) 0 []) := own_empty _ _ _ 0 #[] (Nat.le_refl _) (heap_alloc_new W1 _) rfl (by unfold maxLen; omega)
  have GE : Hid (Fr (fun _ => False) W1 (W1.alloc (.cells #[] 5))) := (Fr.refl _ W1).alloc _
  obtain ⟨i0, hi0, hz0', hz1', hz2'⟩ := info_parts u8_info
  have HI := Lib.hid hi0
  have k8 : (W1.alloc (.cells #[] 5)).cell? ⟨w.heap.size, 8, none⟩ = some (.slice R rn rc) := (HB0.out.alloc _).cell 8
  have z8 : Hid (∀ W2, Fr (fun q => W1.heap.size ≤ q) W1 W2 → W2.frozen? ⟨w.heap.size, 8, none⟩ = false ∧ W2.cell? ⟨w.heap.size, 8, none⟩ = some (.slice R rn rc)) := fun W2 h => ⟨(HB0.out.fr h (by have := HSZ.out; omega)).frozen 8, (HB0.out.fr h (by have := HSZ.out; omega)).cell 8⟩
  clear hsz hi0
  go_wp2_with (first
    | (at_builtin
       refine wpList_app rfl _ _ _ _ rfl W1.heap.size 5 i0 _ 1 1 Tryz.underlying43 HI.out hz0' hz1' hz2' rfl _ rn _ rfl H8.out _ n _ rfl (Src.rd Tryz.underlying43 _ RK9.out (bv_one _)) (by omega) (by unfold maxLen; omega) G8.out.size ?_
       intro v9 w9 hown9 hf9 hn9
       rw [← bv_append, HLL.out] at hown9
       have G9 := Lib.hid ((G8.out.mono (fun k _ h => h.elim)).trans hf9 (fun k hk hq => by have := (H8.out.lt k hq).1; omega))
       have z9 := (z8.out w9 (((G8.out.mono (fun k _ h => h.elim)).trans hf9 (fun k hk hq => (H8.out.lt k hq).1)))).1
       have y9 := (z8.out w9 (((G8.out.mono (fun k _ h => h.elim)).trans hf9 (fun k hk hq => (H8.out.lt k hq).1)))).2
       have H9 := Lib.hid hown9
       obtain ⟨A9, c9, rfl, hc9, hcm9⟩ := own_slice hown9
       have HCM9 := Lib.hid hcm9
       clear hown9 hf9 hn9 hcm9)
    | (at_builtin
       refine wpList_app rfl _ _ _ _ rfl W1.heap.size 5 i0 _ 1 1 Tryz.underlying43 HI.out hz0' hz1' hz2' rfl _ 0 _ rfl OE.out _ rn _ rfl (Src.rd Tryz.underlying43 _ ((HR.out.far HF1.out).far GE.out) (bv_one _)) (by omega) (by unfold maxLen; omega) GE.out.size ?_
       intro v8 w8 hown8 hf8 hn8
       rw [Nat.zero_add, List.nil_append] at hown8
       have G8 := Lib.hid (GE.out.trans hf8 (fun k hk hq => by have := (OE.out.lt k hq).1; omega))
       have H8 := Lib.hid hown8
       have RK9 := Lib.hid ((HA.out.far HF1.out).far G8.out)
       obtain ⟨A8, c8, rfl, hc8, hcm8⟩ := own_slice hown8
       have HCM8 := Lib.hid hcm8
       clear hown8 hf8 hn8 hcm8 k8))
  clear z9 y9 z8
  obtain ⟨gS, hgS⟩ : ∃ gS, w.heap.size = gS := ⟨_, rfl⟩
  have hz := HSZ.out
  rw [hgS] at hz HB0 HB1
  rw [hgS]
  have hz' := Lib.hid hz
  clear HSZ hz
  refine abs_world (fun W => Hid (Blk W gS 79 (dc H (.slice A9 (rn + n) c9) N S)) ∧ Hid (Blk W (gS + 1) 79 (dc [] (.slice none 0 0) 0 0)) ∧ Hid (OwnM W (gS + 2) 5 (.slice A9 (rn + n) c9) (rn + n) (bv l)) ∧ Hid (Fr (fun _ => False) w W) ∧ Hid (gS + 2 ≤ W.heap.size)) ?_ ?_
  · have hs := (HB0.out.fr G9.out (by have := hz'.out; omega)).set_ 8 (.slice A9 (rn + n) c9)
    rw [dc_set8] at hs
    have hff := (Fr.refl (fun k => k = gS) w9).setCell (p := ⟨gS, 8, none⟩) (fun _ => rfl) (.slice A9 (rn + n) c9)
    have hzw := G9.out.size
    refine ⟨hs, (HB1.out.fr G9.out (by have := hz'.out; omega)).fr hff (by omega), (OwnM.of_own (own_base H9.out (fun k hk => by have := (H9.out.lt k hk).1; have := hz'.out; omega))).fr hff (fun k hk e => ?_), ((HF1.out.trans G9.out (fun k hk e => by have := HF1.out.size; have := hz'.out; omega)).trans hff (fun k hk e => by omega)), ?_⟩
    · have := (H9.out.lt k hk).1
      have := hz'.out
      omega
    · have := hff.size
      have := hz'.out
      show gS + 2 ≤ _
      omega
  rintro W2 ⟨HB2, HC2, HO2, HF2, hz2⟩
  clear HB0 HB1 H8 H9 G8 G9 RK9 HCM8 hz' OE GE HF1 HLL
  go_loopw [] (fun wr => ∃ (H1 : List Nat) (N1 : Nat) (r1 : List UInt8) (A1 : Option Addr) (n1 c1 : Nat), n1 ≤ c1 ∧ n1 ≤ 1000000000000 ∧ Hid (c1 ≤ maxLen) ∧ Hid (OwnM wr (gS + 2) 5 (.slice A1 n1 c1) n1 (bv r1)) ∧ Hid (Ws 8 H1) ∧ Hid (N1 < 18446744073709551616) ∧ Hid (wrL H1 N1 r1 = wrL H N l) ∧ Hid (Blk wr gS 79 (dc H1 (.slice A1 n1 c1) N1 S)) ∧ Hid (Fr (fun k => k = gS) W2 wr)) (fun wr => match wr.cell? ⟨gS, 8, none⟩ with | some (.slice _ p _) => p | _ => 0)
  case atStart => exact ⟨H, N, l, A9, _, c9, hc9, hln, HCM9.out, HO2.out, HH.out, HN.out, rfl, HB2.out, Fr.refl _ _⟩
  case round =>
    obtain ⟨H1, N1, r1, A2, n1, c2, hnc1, hn1, hcm, ho, hws, hN1, hwr, hb, hf⟩ := hrel
    obtain ⟨_, _, esl, hr1, -⟩ := ho.out.slice
    injection esl with e1 _ e3
    subst e1 e3
    have hr1l : r1.length = n1 := by rw [← bv_length]; exact hr1.1
    have hr1 := Lib.hid hr1
    have hm8 := Lib.hid (hb.out.cell 8)
    by_cases h64 : 64 < n1
    · have h64' : decide (64 < n1) = true := decide_eq_true h64
      have h64'' : decide ((64 : Int) < (n1 : Int)) = true := decide_eq_true (by omega)
      have k0 := hb.out.cell 0
      have k1 := hb.out.cell 1
      have k2 := hb.out.cell 2
      have k3 := hb.out.cell 3
      have k4 := hb.out.cell 4
      have k5 := hb.out.cell 5
      have k6 := hb.out.cell 6
      have k7 := hb.out.cell 7
      have k8 := hb.out.cell 8
      have k9 := hb.out.cell 9
      have k10 := hb.out.cell 10
      have z9 := hb.out.frozen 9
      simp only [dc, List.getElem?_toArray, List.getElem?_cons_zero, List.getElem?_cons_succ] at k0 k1 k2 k3 k4 k5 k6 k7 k8 k9 k10
      obtain ⟨N2, hN2⟩ : ∃ N2, (N1 + 64) % 18446744073709551616 = N2 := ⟨_, rfl⟩
      have hN2I : IntKind.u64.wrap ((N1 : Int) + 64) = (N2 : Int) := by rw [IntKind.wrap_u64, ← hN2]; omega
      have hN2l : N2 < 18446744073709551616 := by rw [← hN2]; exact Nat.mod_lt _ (by omega)
      obtain ⟨AD, hd1, hd3⟩ := cut_own A2 n1 c2 64 64 rfl h64 hnc1
      have hwm := wrL_more (r := r1) (by rw [hr1l]; exact h64) H1 N1
      rw [hN2] at hwm
      obtain ⟨M, hM⟩ : ∃ M, mixL H1 (wds (r1.take 64)) N2 false = M := ⟨_, rfl⟩
      have hMw : Ws 8 M := by rw [← hM]; exact hws.out.ofMix _ _ hN2l false
      have hne : ∀ k, inA A2 k → k ≠ gS := fun k hk e => by
        obtain ⟨A', c', he, -, -, -, hk'⟩ := ho.out.slice
        injection he with he _ _
        subst he
        have := (hk' k hk).1
        omega
      have hmc : ∀ W, Fr (fun k => k = gS) wr W → Calls Tryz.prog 76 #[.agg (uv H1), .slice A2 64 c2, .int .u64 (N2 : Int), .bool false] W fun e w' => e = .returned (.agg (uv M)) ∧ Fr (fun _ => False) W w' := fun W hW => by
        rw [← hM]
        have := (hr1.out.fr hW (fun k hk e => hne k hk e)).take (k := 64) (by omega)
        rw [← bv_take] at this
        exact rmix_c W H1 A2 c2 (r1.take 64) N2 false hws.out this hN2l
      rw [uv8 hws.out, uv8 hMw] at hmc
      rw [hM] at hwm
      have hb3 := (hb.out.set_ 9 (.int .u64 (N2 : Int))).drew
      have hf3 : Fr (fun k => k = gS) wr (wr.setCell ⟨gS, 9, none⟩ (.int .u64 (N2 : Int))).drew := ((Fr.refl (fun k => k = gS) wr).setCell (p := ⟨gS, 9, none⟩) (fun _ => rfl) _).drew
      have HMC := Lib.hid hmc
      have HWM := Lib.hid hwm
      have HRL1 := Lib.hid hr1l
      have HD3 := Lib.hid hd3
      have HF3 := Lib.hid hf3
      have HB3 : Hid (Blk (wr.setCell ⟨gS, 9, none⟩ (.int .u64 (N2 : Int))).drew gS 79 (dc H1 (.slice A2 n1 c2) N2 S)) := by rw [dc_set9] at hb3; exact hb3
      have HMw := Lib.hid hMw
      have HN2l := Lib.hid hN2l
      have HNE := Lib.hid hne
      have HD1 := Lib.hid hd1
      clear hmc hwm hr1l hd1 hd3 hf3 hb3 hM hN2 hMw hN2l hne
      go_wp2_with fail
      clear k0 k1 k2 k3 k4 k5 k6 k7 k8 k9 k10 z9
      refine (wpIn_wide (n := 9)).1 ?_
      refine wpIn_region_growHead (k := 9) (Fr (fun _ => False)) (by kernel_rfl) (by kernel_rfl) (Fr.refl _ _) (fun a b c h1 h2 => h1.trans h2 (fun _ _ h => h)) ?_
      generalize (wr.setCell ⟨gS, 9, none⟩ (.int .u64 (N2 : Int))).drew = w3 at *
      iterate 7
        refine growWalk_cons (a' := ?_) (v := ?_) ?_ ?_ ?_
        rotate_left 2
        · intro W hW K hK
          have bl := HB3.out.fr (fp := fun _ => False) hW (fun h => h)
          have k0 := bl.cell 0; have k1 := bl.cell 1; have k2 := bl.cell 2; have k3 := bl.cell 3; have k4 := bl.cell 4; have k5 := bl.cell 5; have k6 := bl.cell 6; have k7 := bl.cell 7; have k8 := bl.cell 8; have k9 := bl.cell 9; have k10 := bl.cell 10
          simp only [dc, List.getElem?_toArray, List.getElem?_cons_zero, List.getElem?_cons_succ] at k0 k1 k2 k3 k4 k5 k6 k7 k8 k9 k10
          clear bl
          gi_step
          exact hK _ (Fr.refl _ _)
        · exact rfl
      refine growWalk_cons (a' := ?_) (v := ?_) ?_ ?_ ?_
      rotate_left 2
      · intro W hW K hK
        gi_step
        refine ⟨trivial, ?_⟩
        refine (callsIn_wide.2 (HMC.out W (HF3.out.trans hW (fun _ _ h => h.elim)))).mono ?_
        rintro e W' ⟨rfl, fW⟩
        dsimp only
        exact hK _ fW
      · exact rfl
      iterate 1
        refine growWalk_cons (a' := ?_) (v := ?_) ?_ ?_ ?_
        rotate_left 2
        · intro W hW K hK
          gi_step
          exact hK _ (Fr.refl _ _)
        · exact rfl
      refine growWalk_nil ?_
      intro W hW
      change wpAnyIn _ _ _ _ _ _ 1 _ _ _
      refine wpAnyIn_ready (rs := [9]) (by kernel_rfl) (by simp) ?_
      refine AllReadyIn.cons rfl (fun K hK => ?_) AllReadyIn.nil
      have bl := HB3.out.fr (fp := fun _ => False) hW (fun h => h)
      have k0 := bl.cell 0; have k1 := bl.cell 1; have k2 := bl.cell 2; have k3 := bl.cell 3; have k4 := bl.cell 4; have k5 := bl.cell 5; have k6 := bl.cell 6; have k7 := bl.cell 7; have k8 := bl.cell 8; have k9 := bl.cell 9; have k10 := bl.cell 10
      have z0 := bl.frozen 0; have z1 := bl.frozen 1; have z2 := bl.frozen 2; have z3 := bl.frozen 3; have z4 := bl.frozen 4; have z5 := bl.frozen 5; have z6 := bl.frozen 6; have z7 := bl.frozen 7
      simp only [dc, List.getElem?_toArray, List.getElem?_cons_zero, List.getElem?_cons_succ] at k0 k1 k2 k3 k4 k5 k6 k7 k8 k9 k10
      have BL := Lib.hid bl
      clear bl
      go_simp
      refine hK _ _ ?_
      refine wpAnyIn_done (by kernel_rfl) ?_ _
      clear hK K k0 k1 k2 k3 k4 k5 k6 k7 k8 k9 k10 z0 z1 z2 z3 z4 z5 z6 z7
      have hbn := ((((((((BL.out.set_ 0 (.int .u32 (at_ M 0 : Nat))).set_ 1 (.int .u32 (at_ M 1 : Nat))).set_ 2 (.int .u32 (at_ M 2 : Nat))).set_ 3 (.int .u32 (at_ M 3 : Nat))).set_ 4 (.int .u32 (at_ M 4 : Nat))).set_ 5 (.int .u32 (at_ M 5 : Nat))).set_ 6 (.int .u32 (at_ M 6 : Nat))).set_ 7 (.int .u32 (at_ M 7 : Nat)))
      rw [dc_setH] at hbn
      have hfn := (((((((((Fr.refl (fun k => k = gS) W).setCell (p := ⟨gS, 0, none⟩) (fun _ => rfl) (.int .u32 (at_ M 0 : Nat))).setCell (p := ⟨gS, 1, none⟩) (fun _ => rfl) (.int .u32 (at_ M 1 : Nat))).setCell (p := ⟨gS, 2, none⟩) (fun _ => rfl) (.int .u32 (at_ M 2 : Nat))).setCell (p := ⟨gS, 3, none⟩) (fun _ => rfl) (.int .u32 (at_ M 3 : Nat))).setCell (p := ⟨gS, 4, none⟩) (fun _ => rfl) (.int .u32 (at_ M 4 : Nat))).setCell (p := ⟨gS, 5, none⟩) (fun _ => rfl) (.int .u32 (at_ M 5 : Nat))).setCell (p := ⟨gS, 6, none⟩) (fun _ => rfl) (.int .u32 (at_ M 6 : Nat))).setCell (p := ⟨gS, 7, none⟩) (fun _ => rfl) (.int .u32 (at_ M 7 : Nat)))
      refine abs_exit (fun W2 => Hid (Blk W2 gS 79 (dc M (.slice A2 n1 c2) N2 S)) ∧ Hid (Fr (fun k => k = gS) wr W2)) ⟨hbn, (HF3.out.trans hW (fun _ _ h => h.elim)).trans hfn (fun _ _ h => h)⟩ ?_
      rintro W4 ⟨HB4, HF4⟩
      clear hbn hfn BL HB3 HF3 HMC
      have k8 : W4.cell? ⟨gS, 8, none⟩ = some (.slice A2 n1 c2) := HB4.out.cell 8
      have z8 := HB4.out.frozen 8
      have hd3 := HD3.out W4
      go_wp2_with fail
      clear k8 z8 hd3
      have hb5 := HB4.out.set_ 8 (.slice AD (n1 - 64) (c2 - 64))
      rw [dc_set8] at hb5
      have hf5 := HF4.out.trans ((Fr.refl (fun k => k = gS) W4).setCell (p := ⟨gS, 8, none⟩) (fun _ => rfl) (.slice AD (n1 - 64) (c2 - 64))) (fun _ _ h => h)
      have ho5 := HD1.out _ _ _ (ho.out.fr hf5 (fun k hk e => by have := (ho.out.own_ne hk).1; omega))
      rw [← bv_drop] at ho5
      have h8a : wr.cell? ⟨gS, 8, none⟩ = some (.slice A2 n1 c2) := hm8.out
      have h8b : (W4.setCell ⟨gS, 8, none⟩ (.slice AD (n1 - 64) (c2 - 64))).cell? ⟨gS, 8, none⟩ = some (.slice AD (n1 - 64) (c2 - 64)) := hb5.cell 8
      refine ⟨⟨M, N2, r1.drop 64, AD, n1 - 64, c2 - 64, by omega, by omega, by show c2 - 64 ≤ maxLen; have := hcm.out; omega, ho5, HMw.out, HN2l.out, HWM.out.symm.trans hwr.out, hb5, hf.out.trans hf5 (fun _ _ h => h)⟩, ?_⟩
      rw [h8a, h8b]
      show n1 - 64 < n1
      omega
    · have h64' : decide (64 < n1) = false := decide_eq_false h64
      have h64'' : decide ((64 : Int) < (n1 : Int)) = false := decide_eq_false (by omega)
      have hwl := wrL_less (r := r1) (by rw [hr1l]; omega) H1 N1
      rw [hwr.out] at hwl
      have HWL := Lib.hid hwl
      have HRL := Lib.hid hr1l
      have hb15 := HC2.out.fr hf.out (by omega)
      have k0 := hb.out.cell 0
      have k1 := hb.out.cell 1
      have k2 := hb.out.cell 2
      have k3 := hb.out.cell 3
      have k4 := hb.out.cell 4
      have k5 := hb.out.cell 5
      have k6 := hb.out.cell 6
      have k7 := hb.out.cell 7
      have k8 := hb.out.cell 8
      have k9 := hb.out.cell 9
      have k10 := hb.out.cell 10
      have m0 := hb15.cell 0
      have y0 := hb15.frozen 0
      have m1 := hb15.cell 1
      have y1 := hb15.frozen 1
      have m2 := hb15.cell 2
      have y2 := hb15.frozen 2
      have m3 := hb15.cell 3
      have y3 := hb15.frozen 3
      have m4 := hb15.cell 4
      have y4 := hb15.frozen 4
      have m5 := hb15.cell 5
      have y5 := hb15.frozen 5
      have m6 := hb15.cell 6
      have y6 := hb15.frozen 6
      have m7 := hb15.cell 7
      have y7 := hb15.frozen 7
      have m8 := hb15.cell 8
      have y8 := hb15.frozen 8
      have m9 := hb15.cell 9
      have y9 := hb15.frozen 9
      have m10 := hb15.cell 10
      have y10 := hb15.frozen 10
      simp only [dc, List.getElem?_toArray, List.getElem?_cons_zero, List.getElem?_cons_succ] at k0 k1 k2 k3 k4 k5 k6 k7 k8 k9 k10 m0 m1 m2 m3 m4 m5 m6 m7 m8 m9 m10
      have HB15 := Lib.hid hb15
      clear hwl hr1l hb15 hm8
      go_wp2_with fail
      rw [HWL.out]
      dsimp only
      have hff := ((((((((((((Fr.refl (fun k => k = gS + 1) wr).setCell (p := ⟨gS + 1, 0, none⟩) (fun _ => rfl) (.int .u32 (at_ H1 0 : Nat))).setCell (p := ⟨gS + 1, 1, none⟩) (fun _ => rfl) (.int .u32 (at_ H1 1 : Nat))).setCell (p := ⟨gS + 1, 2, none⟩) (fun _ => rfl) (.int .u32 (at_ H1 2 : Nat))).setCell (p := ⟨gS + 1, 3, none⟩) (fun _ => rfl) (.int .u32 (at_ H1 3 : Nat))).setCell (p := ⟨gS + 1, 4, none⟩) (fun _ => rfl) (.int .u32 (at_ H1 4 : Nat))).setCell (p := ⟨gS + 1, 5, none⟩) (fun _ => rfl) (.int .u32 (at_ H1 5 : Nat))).setCell (p := ⟨gS + 1, 6, none⟩) (fun _ => rfl) (.int .u32 (at_ H1 6 : Nat))).setCell (p := ⟨gS + 1, 7, none⟩) (fun _ => rfl) (.int .u32 (at_ H1 7 : Nat))).setCell (p := ⟨gS + 1, 8, none⟩) (fun _ => rfl) (.slice A2 n1 c2)).setCell (p := ⟨gS + 1, 9, none⟩) (fun _ => rfl) (.int .u64 (N1 : Int))).setCell (p := ⟨gS + 1, 10, none⟩) (fun _ => rfl) (.int .i64 S))
      refine bodyPost_ret (v := .agg (dc H1 (.slice A2 n1 c2) N1 S)) (by simp [results, Tryz.results57, go_sem, m0, m1, m2, m3, m4, m5, m6, m7, m8, m9, m10, dc]) rfl ⟨.slice A2 n1 c2, rfl, ?_, ?_⟩
      · rw [HRL.out]
        exact (ho.out.fr hff (fun k hk e => by have := (ho.out.own_ne hk).1; omega)).base_ (fun k hk => by have := (ho.out.own_ne hk).1; omega)
      · exact (HF2.out.trans hf.out (fun k hk e => by omega)).trans hff (fun k hk e => by omega)
end Go.Proofs.YtjaocgmicdnghaaGreatDoor
