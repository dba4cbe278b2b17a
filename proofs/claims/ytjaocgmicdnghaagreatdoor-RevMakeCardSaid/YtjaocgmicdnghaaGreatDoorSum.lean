/-
  CONTRACT of digest's Sum.
-/
import Derived.Test.YtjaocgmicdnghaaGreatDoorWrite
import Derived.Laws.CopyRow
import Derived.Laws.CopyOwn
import Derived.Deep.OwnRows
namespace Go.Proofs.YtjaocgmicdnghaaGreatDoor
set_option linter.unusedSimpArgs false
set_option linter.unusedVariables false
open Go Go.RowKit

/-- copy onto a block known whole, the source a slice (nil let in). -/
theorem run_copy_blk (w : World) (ty t : TypeId) (g dl dcap L c : Nat) (cur : Array Value) (A : Option Addr) (l : List UInt8) (hB : Blk w g t cur) (hdl : dl = cur.size) (hr : Rd w A L (bv l)) (hL : L ≤ cur.size) :
    ∃ w', (Builtin.copy_ #[43, 43] ty #[.slice (some ⟨g, 0, none⟩) dl dcap, .slice A L c]).run Tryz.prog w = .ok (.int .i64 (L : Int)) w' ∧ Blk w' g t (bv l ++ cur.toList.drop L).toArray ∧ Fr (fun k => k = g) w w' := by
  have h1 : Fr (fun k => k = g) w (w.setRow g (bv l ++ cur.toList.drop L).toArray) := by
    have hb := below_setRow (Below.refl g w) (Nat.le_refl g) (bv l ++ cur.toList.drop L).toArray
    refine ⟨hb.os, hb.tape, hb.output, hb.size, fun k hk hn => ?_⟩
    unfold World.setRow
    simp [Array.getElem?_modify, Ne.symm hn]
  have h2 : Blk (w.setRow g (bv l ++ cur.toList.drop L).toArray) g t (bv l ++ cur.toList.drop L).toArray := setRow_heap w g cur _ t (0, 0) hB
  refine ⟨_, ?_, h2, h1⟩
  have hbl : (bv l).length = L := hr.1
  cases A with
  | none =>
    have hL0 : L = 0 := by
      rcases Nat.eq_zero_or_pos L with h0 | h0
      · exact h0
      · obtain ⟨ad, he, _⟩ := hr.2 h0
        cases he
    subst hL0
    have hlb : bv l = [] := List.eq_nil_of_length_eq_zero hbl
    rw [hlb]
    have := run_copy_row (P := Tryz.prog) w 43 43 ty 5 g 0 dl dcap ⟨g, 0, none⟩ 0 c cur t [] Tryz.underlying43 (by kernel_rfl) hB (by simp) (fun j v hv => by cases hv) (by simp) (fun v hv => by cases hv)
    simp only [List.take_zero, List.nil_append, List.length_nil, Nat.add_zero] at this
    rw [List.nil_append]
    refine Eq.trans ?_ this
    simp [Builtin.copy_, run_underlying Tryz.underlying43, Builtin.lenOf, Builtin.firstCells, go_sem]
  | some ad =>
    have hc : ∀ j v, (bv l)[j]? = some v → w.cell? (ad.add j) = some v := by
      intro j v hv
      have h0 : 0 < L := by
        rcases Nat.eq_zero_or_pos L with h0 | h0
        · have : bv l = [] := List.eq_nil_of_length_eq_zero (by rw [hbl, h0])
          rw [this] at hv
          cases hv
        · exact h0
      obtain ⟨ad', he, h3⟩ := hr.2 h0
      injection he with he
      subst he
      exact h3 j v hv
    have := run_copy_row (P := Tryz.prog) w 43 43 ty 5 g 0 dl dcap ad L c cur t (bv l) Tryz.underlying43 (by kernel_rfl) hB (by rw [hbl, hdl]; exact (Nat.min_eq_left hL).symm) hc (by rw [hbl]; omega) (bv_one l)
    rw [this, hbl, Nat.zero_add, List.take_zero, List.nil_append]
    rfl

theorem abs_world {P : Program} {c : Code} {Q : Exit → Act → World → Prop} {a : Act} {w : World} (Φ : World → Prop) (h : Φ w) (k : ∀ W, Φ W → c.wp P Q a W) : c.wp P Q a w := k w h
theorem dc_all (H : List Nat) (R : Value) (N : Nat) (S : Int) (a0 a1 a2 a3 a4 a5 a6 a7 a8 a9 a10 : Value) : (((((((((((dc H R N S).setIfInBounds 0 a0).setIfInBounds 1 a1).setIfInBounds 2 a2).setIfInBounds 3 a3).setIfInBounds 4 a4).setIfInBounds 5 a5).setIfInBounds 6 a6).setIfInBounds 7 a7).setIfInBounds 8 a8).setIfInBounds 9 a9).setIfInBounds 10 a10 = #[a0, a1, a2, a3, a4, a5, a6, a7, a8, a9, a10] := by simp [dc]

theorem bv_pad (r : List UInt8) (h : r.length ≤ 64) : bv r ++ (List.replicate 64 (Value.int .u8 0)).toArray.toList.drop r.length = bv (pad r) := by
  unfold pad
  rw [bv_append]
  congr 1
  show List.drop r.length (List.replicate 64 (Value.int .u8 0)) = _
  rw [List.drop_replicate]
  simp [bv]
theorem pad_len (r : List UInt8) (h : r.length ≤ 64) : (pad r).length = 64 := by simp [pad]; omega

theorem uset (M : List Nat) (h : Ws 8 M) : ((((((((uv (List.replicate 8 0)).setIfInBounds 0 (.int .u32 (at_ M 0 : Nat))).setIfInBounds 1 (.int .u32 (at_ M 1 : Nat))).setIfInBounds 2 (.int .u32 (at_ M 2 : Nat))).setIfInBounds 3 (.int .u32 (at_ M 3 : Nat))).setIfInBounds 4 (.int .u32 (at_ M 4 : Nat))).setIfInBounds 5 (.int .u32 (at_ M 5 : Nat))).setIfInBounds 6 (.int .u32 (at_ M 6 : Nat))).setIfInBounds 7 (.int .u32 (at_ M 7 : Nat)) = uv M := by
  rw [uv8 h, show uv (List.replicate 8 0) = #[.int .u32 0, .int .u32 0, .int .u32 0, .int .u32 0, .int .u32 0, .int .u32 0, .int .u32 0, .int .u32 0] from rfl]
  simp

/-- The bytes of a sum while they are laid. -/
def outP (H : List Nat) (S i : Nat) : List UInt8 := (List.range S).map fun j => if j < i then UInt8.ofNat (byteL H j) else 0
theorem outP_len (H : List Nat) (S i : Nat) : (outP H S i).length = S := by simp [outP]
theorem outP_all (H : List Nat) (S : Nat) : outP H S S = bytesL H S := by
  unfold outP bytesL
  apply List.map_congr_left
  intro j hj
  rw [if_pos (List.mem_range.1 hj)]
theorem outP_zero (H : List Nat) (S : Nat) : bv (outP H S 0) = List.replicate S (.int .u8 0) := by
  apply List.ext_getElem
  · simp [bv, outP]
  · intro j h1 h2
    simp [bv, outP]
theorem outP_step (H : List Nat) (S i : Nat) (hi : i < S) : (bv (outP H S i)).toArray.setIfInBounds i (.int .u8 (byteL H i : Nat)) = (bv (outP H S (i + 1))).toArray := by
  apply Array.ext_getElem?
  intro j
  rw [Array.getElem?_setIfInBounds]
  simp only [List.getElem?_toArray, List.size_toArray, bv_length, outP_len]
  by_cases h : i = j
  · subst h
    rw [if_pos rfl, if_pos hi, bv_get _ _ (by rw [outP_len]; exact hi)]
    congr 2
    simp only [outP, List.getElem_map, List.getElem_range]
    rw [if_pos (by omega)]
    have : byteL H i < 256 := Nat.mod_lt _ (by omega)
    simp [UInt8.toNat_ofNat', Nat.mod_eq_of_lt this]
  · rw [if_neg h]
    by_cases hj : j < S
    · rw [bv_get _ _ (by rw [outP_len]; exact hj), bv_get _ _ (by rw [outP_len]; exact hj)]
      congr 3
      simp only [outP, List.getElem_map, List.getElem_range]
      by_cases h3 : j < i
      · rw [if_pos h3, if_pos (by omega)]
      · rw [if_neg h3, if_neg (by omega)]
    · rw [List.getElem?_eq_none (by rw [bv_length, outP_len]; omega), List.getElem?_eq_none (by rw [bv_length, outP_len]; omega)]

theorem sum_no (w : World) (H : List Nat) (R : Value) (N : Nat) (S : Int) (hS : szB S = false) :
    Calls Tryz.prog 51 #[.agg (dc H R N S)] w fun e w' => e = .returned (.slice none 0 0) ∧ Fr (fun _ => False) w w' := by
  unfold dc
  go_enter Tryz.func51, Tryz.ntmps51
  go_wp2_with (go_at_call 72; refine (maySize_c _ S).mono ?_; rintro e w' ⟨rfl, rfl⟩; rw [hS])
  go_ret
  exact ⟨rfl, (Fr.refl _ w).alloc _⟩

set_option maxRecDepth 100000 in
set_option maxHeartbeats 1000000 in
theorem sum_c (w : World) (H : List Nat) (R : Option Addr) (rn rc : Nat) (r : List UInt8) (N S : Nat) (hH : Ws 8 H) (hR : Rd w R rn (bv r)) (hrc : rn ≤ rc ∧ rc ≤ maxLen) (hN : N < 18446744073709551616) (hl : r.length ≤ 1000000000000) (hS : szB (S : Int) = true) (hS2 : 1 ≤ S ∧ S ≤ 32) (hT : Tabs w) :
    Calls Tryz.prog 51 #[.agg (dc H (.slice R rn rc) N S)] w fun e w' => ∃ v, e = .returned v ∧ w'.ownsRow w.heap.size 5 1 v S (bv (sumL H N r S)) ∧ Fr (fun _ => False) w w' := by
  have q0 := Blk.new w 79 (dc H (.slice R rn rc) N S)
  have fa := (Fr.refl (fun _ => False) w).alloc (.cells (dc H (.slice R rn rc) N S) 79)
  have hw := write_c (w.alloc (.cells (dc H (.slice R rn rc) N S) 79)) H R rn rc r N S none 0 0 [] hH (hR.far fa) hrc (Rd.none_ _ _) ⟨Nat.le_refl _, by unfold maxLen; omega⟩ hN (by simpa using hl) (hT.far fa)
  rw [List.append_nil] at hw
  have hok := wrL_ok _ r H N (Nat.le_refl _) hH hN
  have e4 : sumL H N r S = bytesL (endL (wrL H N r).1 (wrL H N r).2.1 (wrL H N r).2.2) S := rfl
  obtain ⟨st, hst⟩ : ∃ st, wrL H N r = st := ⟨_, rfl⟩
  rw [hst] at hw hok e4
  clear hst
  obtain ⟨H1, N1, r1⟩ := st
  dsimp only at hw hok e4
  obtain ⟨⟨hH1, hN1⟩, hl1, -⟩ := hok
  dsimp only at hH1 hN1 hl1
  have Q0 := Lib.hid q0
  have FA := Lib.hid fa
  have HW := Lib.hid hw
  have HT := Lib.hid hT
  have E4 := Lib.hid e4
  have HH1 := Lib.hid hH1
  have HN1 := Lib.hid hN1
  clear q0 fa hw hT hR hH hN hl e4 hH1 hN1
  unfold dc
  go_enter Tryz.func51, Tryz.ntmps51
  go_wp2_with (go_at_call 72; refine (maySize_c _ _).mono ?_; rintro e w' ⟨rfl, rfl⟩; rw [hS])
  refine HW.out.mono ?_
  rintro e w1 ⟨v1, rfl, o1, f1⟩
  obtain ⟨A1, c1, rfl, hc1, hc2⟩ := own_slice o1
  have hb := Q0.out.fr f1 (fun h => h)
  have k0 := hb.cell 0
  have k1 := hb.cell 1
  have k2 := hb.cell 2
  have k3 := hb.cell 3
  have k4 := hb.cell 4
  have k5 := hb.cell 5
  have k6 := hb.cell 6
  have k7 := hb.cell 7
  have k8 := hb.cell 8
  have k9 := hb.cell 9
  have k10 := hb.cell 10
  have z0 := hb.frozen 0
  have z1 := hb.frozen 1
  have z2 := hb.frozen 2
  have z3 := hb.frozen 3
  have z4 := hb.frozen 4
  have z5 := hb.frozen 5
  have z6 := hb.frozen 6
  have z7 := hb.frozen 7
  have z8 := hb.frozen 8
  have z9 := hb.frozen 9
  have z10 := hb.frozen 10
  simp only [dc, List.getElem?_toArray, List.getElem?_cons_zero, List.getElem?_cons_succ] at k0 k1 k2 k3 k4 k5 k6 k7 k8 k9 k10
  have HB := Lib.hid hb
  have O1 := Lib.hid o1
  have F1 := Lib.hid (FA.out.trans f1 (fun _ _ h => h))
  have hsz1 : w.heap.size < w1.heap.size := by have := f1.size; simp at this; omega
  clear hb o1 f1 HW
  unfold dc
  go_wp2_with fail
  refine abs_world (fun W => Hid (Blk W w.heap.size 79 (dc H1 (.slice A1 r1.length c1) N1 S)) ∧ Hid (Blk W w1.heap.size 95 (List.replicate 64 (.int .u8 0)).toArray) ∧ Hid (Rd W A1 r1.length (bv r1)) ∧ Hid (∀ k, inA A1 k → k ≠ w1.heap.size) ∧ Hid (Fr (fun _ => False) w W)) ?_ ?_
  · have h1 := (((((((((((HB.out.set_ 0 (.int .u32 (at_ H1 0 : Nat))).set_ 1 (.int .u32 (at_ H1 1 : Nat))).set_ 2 (.int .u32 (at_ H1 2 : Nat))).set_ 3 (.int .u32 (at_ H1 3 : Nat))).set_ 4 (.int .u32 (at_ H1 4 : Nat))).set_ 5 (.int .u32 (at_ H1 5 : Nat))).set_ 6 (.int .u32 (at_ H1 6 : Nat))).set_ 7 (.int .u32 (at_ H1 7 : Nat))).set_ 8 (.slice A1 r1.length c1)).set_ 9 (.int .u64 (N1 : Int))).set_ 10 (.int .i64 (S : Int)))
    rw [dc_all] at h1
    have h2 := ((((((((((((Fr.refl (fun k => k = w.heap.size) w1).setCell (p := ⟨w.heap.size, 0, none⟩) (fun _ => rfl) (.int .u32 (at_ H1 0 : Nat))).setCell (p := ⟨w.heap.size, 1, none⟩) (fun _ => rfl) (.int .u32 (at_ H1 1 : Nat))).setCell (p := ⟨w.heap.size, 2, none⟩) (fun _ => rfl) (.int .u32 (at_ H1 2 : Nat))).setCell (p := ⟨w.heap.size, 3, none⟩) (fun _ => rfl) (.int .u32 (at_ H1 3 : Nat))).setCell (p := ⟨w.heap.size, 4, none⟩) (fun _ => rfl) (.int .u32 (at_ H1 4 : Nat))).setCell (p := ⟨w.heap.size, 5, none⟩) (fun _ => rfl) (.int .u32 (at_ H1 5 : Nat))).setCell (p := ⟨w.heap.size, 6, none⟩) (fun _ => rfl) (.int .u32 (at_ H1 6 : Nat))).setCell (p := ⟨w.heap.size, 7, none⟩) (fun _ => rfl) (.int .u32 (at_ H1 7 : Nat))).setCell (p := ⟨w.heap.size, 8, none⟩) (fun _ => rfl) (.slice A1 r1.length c1)).setCell (p := ⟨w.heap.size, 9, none⟩) (fun _ => rfl) (.int .u64 (N1 : Int))).setCell (p := ⟨w.heap.size, 10, none⟩) (fun _ => rfl) (.int .i64 (S : Int)))
    have ho := O1.out
    simp only [World.size_alloc] at ho
    refine ⟨h1.alloc _, ?_, (((Rd.of_own ho).fr h2 (fun k hk e => ?_)).alloc _), fun k hk e => ?_, (F1.out.trans h2 (fun k hk e => by omega)).alloc _⟩
    · have := Blk.new (World.setCell (World.setCell (World.setCell (World.setCell (World.setCell (World.setCell (World.setCell (World.setCell (World.setCell (World.setCell (World.setCell w1 ⟨w.heap.size, 0, none⟩ (.int .u32 (at_ H1 0 : Nat))) ⟨w.heap.size, 1, none⟩ (.int .u32 (at_ H1 1 : Nat))) ⟨w.heap.size, 2, none⟩ (.int .u32 (at_ H1 2 : Nat))) ⟨w.heap.size, 3, none⟩ (.int .u32 (at_ H1 3 : Nat))) ⟨w.heap.size, 4, none⟩ (.int .u32 (at_ H1 4 : Nat))) ⟨w.heap.size, 5, none⟩ (.int .u32 (at_ H1 5 : Nat))) ⟨w.heap.size, 6, none⟩ (.int .u32 (at_ H1 6 : Nat))) ⟨w.heap.size, 7, none⟩ (.int .u32 (at_ H1 7 : Nat))) ⟨w.heap.size, 8, none⟩ (.slice A1 r1.length c1)) ⟨w.heap.size, 9, none⟩ (.int .u64 (N1 : Int))) ⟨w.heap.size, 10, none⟩ (.int .i64 (S : Int))) 95 (List.replicate 64 (.int .u8 0)).toArray
      simp only [World.size_setCell] at this
      exact this
    · obtain ⟨ad, rfl, rfl⟩ := hk
      have := (ho.lt ad.block rfl).1
      omega
    · obtain ⟨ad, rfl, rfl⟩ := hk
      have := (ho.lt ad.block rfl).2
      omega
  clear k0 k1 k2 k3 k4 k5 k6 k7 k8 k9 k10 z0 z1 z2 z3 z4 z5 z6 z7 z8 z9 z10 Q0 FA HB O1
  rintro W ⟨hb, hg, hrd, hne, hf⟩
  obtain ⟨w3, hcp, hb3, hf3⟩ := run_copy_blk W.drew 3 95 w1.heap.size 64 64 r1.length c1 _ A1 r1 hg.out.drew rfl hrd.out.drew hl1
  rw [bv_pad _ hl1] at hb3
  have k8 := hb.out.drew.cell 8
  simp only [dc, List.getElem?_toArray, List.getElem?_cons_zero, List.getElem?_cons_succ] at k8
  refine (wpIn_wide (n := 9)).1 ?_
  refine wpIn_region_quietHead (k := 3) (by kernel_rfl) (by kernel_rfl) ?_
  iterate 3
    refine quietWalk_cons (a' := ?_) (v := ?_) ?_ ?_ ?_
    rotate_left 2
    · intro K hK
      gi_step
      exact hK
    · exact rfl
  refine quietWalk_nil ?_
  change wpAnyIn _ _ _ _ _ _ 2 _ _ _
  refine wpAnyIn_ready (rs := [3]) (by kernel_rfl) (by simp) ?_
  refine AllReadyIn.cons rfl (fun K hK => ?_) AllReadyIn.nil
  go_simp
  refine hK _ _ ?_
  clear hK K
  refine wpAnyIn_ready (rs := [4]) (by kernel_rfl) (by simp) ?_
  refine AllReadyIn.cons rfl (fun K hK => ?_) AllReadyIn.nil
  go_simp
  refine hK _ _ ?_
  clear hK K k8 hcp
  refine wpAnyIn_done (by kernel_rfl) ?_ _
  obtain ⟨N2, hN2⟩ : ∃ N2, (N1 + r1.length) % 18446744073709551616 = N2 := ⟨_, rfl⟩
  have hN2l : N2 < 18446744073709551616 := by rw [← hN2]; exact Nat.mod_lt _ (by omega)
  have e1 : IntKind.u64.wrap ((r1.length : Nat) : Int) = (r1.length : Int) := by rw [IntKind.wrap_u64]; omega
  have e2 : IntKind.u64.wrap ((N1 : Int) + (r1.length : Int)) = (N2 : Int) := by rw [IntKind.wrap_u64, ← hN2]; omega
  have hgw : w1.heap.size < W.heap.size := hg.out.lt
  have hfw : Fr (fun k => k = w1.heap.size) W w3 := ((Fr.refl (fun k => k = w1.heap.size) W).drew).trans hf3 (fun _ _ h => h)
  have hb4 := hb.out.fr hfw (by omega)
  have hf4 := hf.out.trans hfw (fun k hk e => by omega)
  obtain ⟨M, hM⟩ : ∃ M, endL H1 N1 r1 = M := ⟨_, rfl⟩
  have hMe : mixL H1 (wds (pad r1)) N2 true = M := by rw [← hM, ← hN2]; rfl
  have hMw : Ws 8 M := by rw [← hMe]; exact HH1.out.ofMix _ _ hN2l true
  have hmc : ∀ W2, Fr (fun _ => False) w3 W2 → Calls Tryz.prog 73 #[.agg (uv H1), .slice (some ⟨w1.heap.size, 0, none⟩) 64 64, .int .u64 (N2 : Int), .bool true] W2 fun e w' => e = .returned (.agg (uv M)) ∧ Fr (fun _ => False) W2 w' := fun W2 hW => by
    rw [← hMe]
    have hrd := (Rd.of_blk (n := 64) hb3 (by rw [List.size_toArray, bv_length, pad_len r1 hl1]; exact Nat.le_refl _)).far hW
    rw [List.take_of_length_le (by show (bv (pad r1)).length ≤ 64; rw [bv_length, pad_len r1 hl1]; exact Nat.le_refl _)] at hrd
    exact mix_c W2 H1 _ 64 (pad r1) N2 true HH1.out hrd hN2l ((HT.out.far hf4).far hW)
  rw [uv8 HH1.out, uv8 hMw] at hmc
  rw [hM] at E4
  have HMC := Lib.hid hmc
  have HMw := Lib.hid hMw
  have HB4 := Lib.hid hb4
  have HF4 := Lib.hid hf4
  clear hmc hMw hMe hM hb4 hf4 hb3 hf3 hb hg hrd hf hN2 hN2l hfw hne
  go_wp2_with fail
  refine (wpIn_wide (n := 9)).1 ?_
  refine wpIn_region_growMade (k := 9) (Fr (fun _ => False)) (fun v W2 => ∃ g, v = .pointer (some ⟨g, 0, none⟩) ∧ Blk W2 g 77 (uv (List.replicate 8 0)) ∧ w3.heap.size ≤ g) rfl (by kernel_rfl) (by kernel_rfl) (Fr.refl _ _) (fun a b c h1 h2 => h1.trans h2 (fun _ _ h => h))
    (fun v a b hab ⟨g, h1, h2, h3⟩ => ⟨g, h1, h2.fr hab (fun h => h), h3⟩) ?_
  iterate 8
    refine growWalk_cons (a' := ?_) (v := ?_) ?_ ?_ ?_
    rotate_left 2
    · intro W2 hW K hK
      have bl := HB4.out.drew.fr (fp := fun _ => False) hW (fun h => h)
      have k0 := bl.cell 0; have k1 := bl.cell 1; have k2 := bl.cell 2; have k3 := bl.cell 3; have k4 := bl.cell 4; have k5 := bl.cell 5; have k6 := bl.cell 6; have k7 := bl.cell 7; have k8 := bl.cell 8; have k9 := bl.cell 9; have k10 := bl.cell 10
      simp only [dc, List.getElem?_toArray, List.getElem?_cons_zero, List.getElem?_cons_succ] at k0 k1 k2 k3 k4 k5 k6 k7 k8 k9 k10
      clear bl
      gi_step
      exact hK _ (Fr.refl _ _)
    · exact rfl
  refine growWalk_cons (a' := ?_) (v := ?_) ?_ ?_ ?_
  rotate_left 2
  · intro W2 hW K hK
    gi_step
    refine ⟨trivial, ?_⟩
    refine (callsIn_wide.2 (HMC.out W2 (((Fr.refl (fun _ => False) w3).drew).trans hW (fun _ _ h => h)))).mono ?_
    rintro e W' ⟨rfl, fW⟩
    dsimp only
    exact hK _ fW
  · exact rfl
  refine growWalk_nil ⟨?_, ?_⟩
  · intro W2 hW K hK
    gi_step
    exact hK _ _ ((Fr.refl _ W2).alloc _) ⟨W2.heap.size, rfl, Blk.new W2 _ _, by have := hW.size; exact this⟩
  · rintro v W2 hW ⟨g, rfl, hbg, hge⟩
    change wpAnyIn _ _ _ _ _ _ 1 _ _ _
    refine wpAnyIn_ready (rs := [10]) (by kernel_rfl) (by simp) ?_
    refine AllReadyIn.cons rfl (fun K hK => ?_) AllReadyIn.nil
    have k0 := hbg.cell 0
    have z0 := hbg.frozen 0
    have k1 := hbg.cell 1
    have z1 := hbg.frozen 1
    have k2 := hbg.cell 2
    have z2 := hbg.frozen 2
    have k3 := hbg.cell 3
    have z3 := hbg.frozen 3
    have k4 := hbg.cell 4
    have z4 := hbg.frozen 4
    have k5 := hbg.cell 5
    have z5 := hbg.frozen 5
    have k6 := hbg.cell 6
    have z6 := hbg.frozen 6
    have k7 := hbg.cell 7
    have z7 := hbg.frozen 7
    rw [show uv (List.replicate 8 0) = #[.int .u32 0, .int .u32 0, .int .u32 0, .int .u32 0, .int .u32 0, .int .u32 0, .int .u32 0, .int .u32 0] from rfl] at k0 k1 k2 k3 k4 k5 k6 k7
    simp only [List.getElem?_toArray, List.getElem?_cons_zero, List.getElem?_cons_succ] at k0 k1 k2 k3 k4 k5 k6 k7
    go_simp
    refine hK _ _ ?_
    refine wpAnyIn_done (by kernel_rfl) ?_ _
    clear hK K k0 k1 k2 k3 k4 k5 k6 k7 z0 z1 z2 z3 z4 z5 z6 z7
    have hm := ((((((((hbg.set_ 0 (.int .u32 (at_ M 0 : Nat))).set_ 1 (.int .u32 (at_ M 1 : Nat))).set_ 2 (.int .u32 (at_ M 2 : Nat))).set_ 3 (.int .u32 (at_ M 3 : Nat))).set_ 4 (.int .u32 (at_ M 4 : Nat))).set_ 5 (.int .u32 (at_ M 5 : Nat))).set_ 6 (.int .u32 (at_ M 6 : Nat))).set_ 7 (.int .u32 (at_ M 7 : Nat)))
    rw [uset M HMw.out] at hm
    have hfm := (((((((((Fr.refl (fun k => k = g) W2).setCell (p := ⟨g, 0, none⟩) (fun _ => rfl) (.int .u32 (at_ M 0 : Nat))).setCell (p := ⟨g, 1, none⟩) (fun _ => rfl) (.int .u32 (at_ M 1 : Nat))).setCell (p := ⟨g, 2, none⟩) (fun _ => rfl) (.int .u32 (at_ M 2 : Nat))).setCell (p := ⟨g, 3, none⟩) (fun _ => rfl) (.int .u32 (at_ M 3 : Nat))).setCell (p := ⟨g, 4, none⟩) (fun _ => rfl) (.int .u32 (at_ M 4 : Nat))).setCell (p := ⟨g, 5, none⟩) (fun _ => rfl) (.int .u32 (at_ M 5 : Nat))).setCell (p := ⟨g, 6, none⟩) (fun _ => rfl) (.int .u32 (at_ M 6 : Nat))).setCell (p := ⟨g, 7, none⟩) (fun _ => rfl) (.int .u32 (at_ M 7 : Nat)))
    have hsz3 : w.heap.size < w3.heap.size := HB4.out.lt
    have hB5 := ((HB4.out.drew).fr hW (fun h => h)).fr hfm (by omega)
    have hF5 := ((HF4.out.drew).trans hW (fun _ _ h => h)).trans hfm (fun k hk e => by omega)
    have hgl := hm.lt
    generalize (World.setCell (World.setCell (World.setCell (World.setCell (World.setCell (World.setCell (World.setCell (World.setCell W2 ⟨g, 0, none⟩ (.int .u32 (at_ M 0 : Nat))) ⟨g, 1, none⟩ (.int .u32 (at_ M 1 : Nat))) ⟨g, 2, none⟩ (.int .u32 (at_ M 2 : Nat))) ⟨g, 3, none⟩ (.int .u32 (at_ M 3 : Nat))) ⟨g, 4, none⟩ (.int .u32 (at_ M 4 : Nat))) ⟨g, 5, none⟩ (.int .u32 (at_ M 5 : Nat))) ⟨g, 6, none⟩ (.int .u32 (at_ M 6 : Nat))) ⟨g, 7, none⟩ (.int .u32 (at_ M 7 : Nat))) = w4 at *
    have HM := Lib.hid hm
    have HB5 := Lib.hid hB5
    have HF5 := Lib.hid hF5
    have k10 := hB5.cell 10
    simp only [dc, List.getElem?_toArray, List.getElem?_cons_zero, List.getElem?_cons_succ] at k10
    have hS1 : (0 : Int) ≤ (S : Int) := by omega
    have hmk : ∀ W : World, (Instr.makeSlice 43 (.int .i64 (S : Int)) (.int .i64 (S : Int))).run Tryz.prog W = .ok (.slice (some ⟨W.heap.size, 0, none⟩) S S) (W.alloc (.cells (madeCells #[.int .u8 0] S) 5)) := run_make_row' (P := Tryz.prog) 43 5 _ 1 Tryz.underlying43 u8_info rfl .i64 .i64 S (by omega) (by omega)
    clear hm hfm hB5 hF5 HB4 HF4 hbg hW HMC
    have hb7 := Blk.new w4 5 (madeCells #[.int .u8 0] S)
    have hf7 := (Fr.refl (fun _ => False) w4).alloc (.cells (madeCells #[.int .u8 0] S) 5)
    have HB7 := Lib.hid hb7
    have HF7 := Lib.hid hf7
    have HMK := Lib.hid hmk
    clear hb7 hf7 hmk
    have hmk := HMK.out w4
    go_wp2_with fail
    clear hmk k10
    have hmc0 : madeCells #[.int .u8 0] S = (bv (outP M S 0)).toArray := by
      rw [outP_zero]
      apply Array.ext_getElem?
      intro j
      by_cases hj : j < S
      · simp [madeCells, hj, Nat.mod_one]
      · simp [madeCells, hj]
    have HB8 : Hid (Blk (w4.alloc (.cells (madeCells #[.int .u8 0] S) 5)) w4.heap.size 5 (bv (outP M S 0)).toArray) := by
      show Blk _ _ _ _
      rw [← hmc0]
      exact HB7.out
    go_loopw [32] (fun u wr => ∃ i : Nat, i ≤ S ∧ u = .int .i64 (i : Int) ∧ Hid (Blk wr w4.heap.size 5 (bv (outP M S i)).toArray) ∧ Hid (Fr (fun _ => False) w4 wr)) (fun u wr => S - (intOf u).toNat)
    case atStart => exact ⟨0, by omega, rfl, HB8.out, HF7.out⟩
    case round =>
      obtain ⟨i, hi, rfl, hb, hf⟩ := hrel
      by_cases h8 : i < S
      · have h8' : decide ((i : Int) < (S : Int)) = true := decide_eq_true (by omega)
        have hmm := HM.out.fr hf.out (fun h => h)
        have x1 : wr.cell? ⟨g, i / 4, none⟩ = some (.int .u32 (at_ M (i / 4) : Nat)) := by rw [hmm.cell, uv_get _ _ (by rw [HMw.out.1]; omega)]
        have hby := outP_step M S i h8
        obtain ⟨q, hq⟩ : ∃ q, i / 4 = q := ⟨_, rfl⟩
        have hqI : (i : Int) / 4 = (q : Int) := by omega
        have hq8 : (q : Int) < 8 := by omega
        have c0 : wr.cell? ⟨w4.heap.size, i, none⟩ = some (.int .u8 ((outP M S i)[i]'(by rw [outP_len]; exact h8)).toNat) := by
          rw [hb.out.cell]
          simp only [List.getElem?_toArray]
          rw [bv_get _ _ (by rw [outP_len]; exact h8)]
        have z0 := hb.out.frozen i
        generalize ((outP M S i)[i]'(by rw [outP_len]; exact h8)).toNat = old at *
        rw [hq] at x1
        have hX := at_lt HMw.out q
        obtain ⟨X, hXX⟩ : ∃ X, at_ M q = X := ⟨_, rfl⟩
        rw [hXX] at x1 hX
        have hr4 : i % 4 = 0 ∨ i % 4 = 1 ∨ i % 4 = 2 ∨ i % 4 = 3 := by omega
        have hbl : ∀ k, i % 4 = k → byteL M i = X / 2 ^ (8 * k) % 256 := fun k hk => by unfold byteL; rw [hq, hXX, hk]
        have HBY := Lib.hid hby
        have HXX := Lib.hid hXX
        have HQ := Lib.hid hq
        clear hmm hby hXX hq
        rcases hr4 with h4 | h4 | h4 | h4
        · have hbl2 := hbl _ h4
          have HBL : Hid (byteL M i = X / 1 % 256) := hbl2
          have h4I : (i : Int) % 4 = 0 := by omega
          clear hbl hbl2
          go_wp2_with fail
          have ev : (X : Int) % 256 = (byteL M i : Nat) := by rw [HBL.out]; omega
          rw [ev]
          have hs := hb.out.set_ i (.int .u8 (byteL M i : Nat))
          rw [HBY.out] at hs
          exact ⟨⟨i + 1, by omega, by go_num, hs, hf.out.setCell (p := ⟨w4.heap.size, i, none⟩) (fun h => absurd h (Nat.lt_irrefl _)) _⟩, by simp [intOf]; omega⟩
        · have hbl2 := hbl _ h4
          have HBL : Hid (byteL M i = X / 256 % 256) := hbl2
          have h4I : (i : Int) % 4 = 1 := by omega
          clear hbl hbl2
          go_wp2_with fail
          have ev : (X : Int) / 256 % 256 = (byteL M i : Nat) := by rw [HBL.out]; omega
          rw [ev]
          have hs := hb.out.set_ i (.int .u8 (byteL M i : Nat))
          rw [HBY.out] at hs
          exact ⟨⟨i + 1, by omega, by go_num, hs, hf.out.setCell (p := ⟨w4.heap.size, i, none⟩) (fun h => absurd h (Nat.lt_irrefl _)) _⟩, by simp [intOf]; omega⟩
        · have hbl2 := hbl _ h4
          have HBL : Hid (byteL M i = X / 65536 % 256) := hbl2
          have h4I : (i : Int) % 4 = 2 := by omega
          clear hbl hbl2
          go_wp2_with fail
          have ev : (X : Int) / 65536 % 256 = (byteL M i : Nat) := by rw [HBL.out]; omega
          rw [ev]
          have hs := hb.out.set_ i (.int .u8 (byteL M i : Nat))
          rw [HBY.out] at hs
          exact ⟨⟨i + 1, by omega, by go_num, hs, hf.out.setCell (p := ⟨w4.heap.size, i, none⟩) (fun h => absurd h (Nat.lt_irrefl _)) _⟩, by simp [intOf]; omega⟩
        · have hbl2 := hbl _ h4
          have HBL : Hid (byteL M i = X / 16777216 % 256) := hbl2
          have h4I : (i : Int) % 4 = 3 := by omega
          clear hbl hbl2
          go_wp2_with fail
          have ev : (X : Int) / 16777216 = (byteL M i : Nat) := by rw [HBL.out]; omega
          rw [ev]
          have hs := hb.out.set_ i (.int .u8 (byteL M i : Nat))
          rw [HBY.out] at hs
          exact ⟨⟨i + 1, by omega, by go_num, hs, hf.out.setCell (p := ⟨w4.heap.size, i, none⟩) (fun h => absurd h (Nat.lt_irrefl _)) _⟩, by simp [intOf]; omega⟩
      · have h8' : decide ((i : Int) < (S : Int)) = false := by simp; omega
        obtain rfl : i = S := by omega
        go_wp2_with fail
        go_ret
        have ho := hb.out
        rw [outP_all, ← E4.out] at ho
        have hsl : (sumL H N r i).length = i := by rw [E4.out]; exact bytesL_len _ _
        refine ⟨_, rfl, ⟨by rw [bv_length, hsl, Nat.mul_one], .inr ⟨w4.heap.size, i, _, rfl, by omega, ho, Nat.le_refl _, by unfold maxLen; omega, by simp [bv_length, hsl], ?_⟩⟩, HF5.out.trans hf.out (fun _ _ h => h)⟩
        rw [Nat.mul_one, List.take_of_length_le (by simp [bv_length, hsl])]
end Go.Proofs.YtjaocgmicdnghaaGreatDoor
