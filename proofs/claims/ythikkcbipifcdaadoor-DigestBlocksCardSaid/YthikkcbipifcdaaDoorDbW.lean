/-
  DigestBlocks, walked.
-/
import Derived.Test.YthikkcbipifcdaaDoorDbA
import Derived.Test.YthikkcbipifcdaaDoorPar4
import Derived.BigQuiet
import Derived.Deep.QuietTactic
import Derived.Deep.DeepCutAuto
import Derived.Deep.CutRange
namespace Go.Proofs.YthikkcbipifcdaaDoor
set_option linter.unusedSimpArgs false
set_option linter.unusedVariables false
open Go Go.RowKit
theorem uset8 (K M : List Nat) (hK : Ws 8 K) (hM : Ws 8 M) : ((((((((uv K).setIfInBounds 0 (.int .u32 (at_ M 0 : Nat))).setIfInBounds 1 (.int .u32 (at_ M 1 : Nat))).setIfInBounds 2 (.int .u32 (at_ M 2 : Nat))).setIfInBounds 3 (.int .u32 (at_ M 3 : Nat))).setIfInBounds 4 (.int .u32 (at_ M 4 : Nat))).setIfInBounds 5 (.int .u32 (at_ M 5 : Nat))).setIfInBounds 6 (.int .u32 (at_ M 6 : Nat))).setIfInBounds 7 (.int .u32 (at_ M 7 : Nat)) = uv M := by
  rw [uv8 hK, uv8 hM]
  simp
/-- What may become of memory within the region: old blocks stay; each block keeps its type and size; a block that holds M holds it on. -/
def Gr (B : Nat) (M : List Nat) (W W' : World) : Prop := Fr (fun q => B ≤ q) W W' ∧ (∀ q t cs, Blk W q t cs → ∃ cs', Blk W' q t cs' ∧ cs'.size = cs.size) ∧ ∀ q, Blk W q 23 (uv M) → Blk W' q 23 (uv M)
theorem Gr.refl (B : Nat) (M : List Nat) (W : World) : Gr B M W W := ⟨Fr.refl _ _, fun q t cs h => ⟨cs, h, rfl⟩, fun q h => h⟩
theorem Gr.trans {B : Nat} {M : List Nat} {a b c : World} (h : Gr B M a b) (k : Gr B M b c) : Gr B M a c :=
  ⟨h.1.trans k.1 (fun _ _ h => h), fun q t cs hb => by obtain ⟨c1, h1, e1⟩ := h.2.1 q t cs hb; obtain ⟨c2, h2, e2⟩ := k.2.1 q t c1 h1; exact ⟨c2, h2, e2.trans e1⟩, fun q hb => k.2.2 q (h.2.2 q hb)⟩
theorem Gr.of {B : Nat} {M : List Nat} {W W' : World} (h : Fr (fun _ => False) W W') : Gr B M W W' := ⟨h.mono (fun _ _ h => h.elim), fun q t cs b => ⟨cs, b.fr h (fun h => h), rfl⟩, fun q b => b.fr h (fun h => h)⟩
theorem Gr.store {B g : Nat} {M : List Nat} {W W' : World} {cs : Array Value} (hg : B ≤ g) (hb : Blk W g 23 cs) (hs : cs.size = (uv M).size) (h : Fr (fun k => k = g) W W') (hn : Blk W' g 23 (uv M)) : Gr B M W W' := by
  refine ⟨h.mono (fun _ _ h => by omega), fun q t cs2 b => ?_, fun q b => ?_⟩
  · by_cases hq : q = g
    · subst hq
      have e : some (Obj.cells cs2 t (0, 0)) = some (Obj.cells cs 23 (0, 0)) := b.symm.trans hb
      injection e with e
      injection e with e1 e2
      subst e1 e2
      exact ⟨_, hn, hs.symm⟩
    · exact ⟨_, b.fr h hq, rfl⟩
  · by_cases hq : q = g
    · subst hq; exact hn
    · exact b.fr h hq
/-- What each operation of the first loop's region gives. -/
def blkR (B : Nat) (Hk M : List Nat) (A : Option Addr) (n c : Nat) (D : Option Addr) (x y i q : Nat) (val : Nat → Value) (W : World) : Prop := match q with
  | 0 => val 0 = .agg (uv Hk)
  | 1 => val 1 = .slice A n c
  | 2 => val 2 = .int .i64 (i : Int)
  | 3 => val 3 = .int .i64 (x : Int)
  | 4 => val 4 = .int .i64 (i : Int)
  | 5 => val 5 = .int .i64 (x : Int)
  | 6 => val 6 = .int .i64 (y : Int)
  | 7 => val 7 = .slice D 64 (c - x)
  | 8 => val 8 = .int .i64 (i : Int)
  | 9 => val 9 = .int .i64 (x : Int)
  | 10 => val 10 = .int .i64 (y : Int)
  | 11 => val 11 = .int .u64 (y : Int)
  | 12 => val 12 = .tuple #[.agg (uv M), .int .i64 0]
  | 13 => val 13 = .tuple #[.agg (uv M), .int .i64 0]
  | 14 => val 14 = .agg (uv M)
  | 15 => val 15 = .int .i64 0
  | 16 => ∃ g1, val 16 = .pointer (some ⟨g1, 0, none⟩) ∧ B ≤ g1 ∧ ∃ cs, Blk W g1 23 cs ∧ cs.size = 8
  | 17 => ∃ g1, val 16 = .pointer (some ⟨g1, 0, none⟩) ∧ B ≤ g1 ∧ Blk W g1 23 (uv M)
  | 18 => val 18 = .int .i64 0
  | _ => True
theorem blkR_far {B : Nat} {Hk M : List Nat} {A : Option Addr} {n c : Nat} {D : Option Addr} {x y i : Nat} (q : Nat) (val val' : Nat → Value) (W W' : World) (he : ∀ j, j = q ∨ Anc [0, 0, 0, 4, 0, 16, 48, 126, 0, 256, 768, 1792, 4095, 8191, 16383, 16383, 0, 98303, 262143] q j = true → val j = val' j) (hg : Gr B M W W') (h : blkR B Hk M A n c D x y i q val W) : blkR B Hk M A n c D x y i q val' W' := by
  match q with
  | 0 => exact (he 0 (.inl rfl)).symm.trans h
  | 1 => exact (he 1 (.inl rfl)).symm.trans h
  | 2 => exact (he 2 (.inl rfl)).symm.trans h
  | 3 => exact (he 3 (.inl rfl)).symm.trans h
  | 4 => exact (he 4 (.inl rfl)).symm.trans h
  | 5 => exact (he 5 (.inl rfl)).symm.trans h
  | 6 => exact (he 6 (.inl rfl)).symm.trans h
  | 7 => exact (he 7 (.inl rfl)).symm.trans h
  | 8 => exact (he 8 (.inl rfl)).symm.trans h
  | 9 => exact (he 9 (.inl rfl)).symm.trans h
  | 10 => exact (he 10 (.inl rfl)).symm.trans h
  | 11 => exact (he 11 (.inl rfl)).symm.trans h
  | 12 => exact (he 12 (.inl rfl)).symm.trans h
  | 13 => exact (he 13 (.inl rfl)).symm.trans h
  | 14 => exact (he 14 (.inl rfl)).symm.trans h
  | 15 => exact (he 15 (.inl rfl)).symm.trans h
  | 16 => obtain ⟨g1, e, hb, cs, h1, h2⟩ := h; obtain ⟨c2, h3, h4⟩ := hg.2.1 _ _ _ h1; exact ⟨g1, (he 16 (.inl rfl)).symm.trans e, hb, c2, h3, h4.trans h2⟩
  | 17 => obtain ⟨g1, e, hb, h1⟩ := h; exact ⟨g1, (he 16 (.inr (by kernel_rfl))).symm.trans e, hb, hg.2.2 _ h1⟩
  | 18 => exact (he 18 (.inl rfl)).symm.trans h
  | (n + 19) => trivial
theorem ws_zero : Ws 8 (List.replicate 8 0) := ⟨by simp, fun x hx => by rw [List.mem_replicate] at hx; omega⟩
set_option maxRecDepth 100000 in
set_option maxHeartbeats 1000000 in
theorem blocks_c (w : World) (S : Int) (A : Option Addr) (n c : Nat) (l : List UInt8) (hr : Rd w A n (bv l)) (hn : n ≤ c) (hc : c ≤ 140737488355328) (hT : Tabs w) :
    Calls Tryd.prog 7 #[.int .i64 S, .slice A n c] w fun e w' => e = .returned (.bool true) ∧ Fr (fun _ => False) w w' := by
  have HT := Lib.hid hT
  have HR := Lib.hid hr
  have HC := Lib.hid hc
  clear hT hr hc
  by_cases hbig : 3840 < n ∨ n = 0
  · rcases hbig with hb | rfl
    · have hb1 : decide ((3840 : Int) < (n : Int)) = true := decide_eq_true (by omega)
      go_enter Tryd.func7, Tryd.ntmps7
      go_wp2_with fail
      refine (awake_c w HT.out).mono ?_
      rintro e w5 ⟨rfl, f5⟩
      go_wp2_with fail
      go_ret
      exact ⟨rfl, f5⟩
    · go_enter Tryd.func7, Tryd.ntmps7
      go_wp2_with fail
      refine (awake_c w HT.out).mono ?_
      rintro e w5 ⟨rfl, f5⟩
      go_wp2_with fail
      go_ret
      exact ⟨rfl, f5⟩
  have hb1 : decide ((3840 : Int) < (n : Int)) = false := decide_eq_false (by omega)
  have hb2 : ((n : Int) == 0) = false := by rw [beq_eq_false_iff_ne]; omega
  go_enter Tryd.func7, Tryd.ntmps7
  go_wp2_with fail
  refine (begin_c w S HT.out).mono ?_
  rintro e w1 ⟨H1, s1, rfl, hh1, f1⟩
  have HH1 := Lib.hid hh1
  have F1 := Lib.hid f1
  clear f1 hh1
  unfold dc
  obtain ⟨ea, hea⟩ : ∃ ea : Int, ez S = ea := ⟨_, rfl⟩
  rw [hea]
  have HEA := Lib.hid hea
  clear hea
  by_cases hS : szB S = true
  case neg =>
    have e1 : ea = 1 := by rw [← HEA.out, ez_no hS]
    subst e1
    go_wp2_with fail
    refine abs_calls (fun W => Hid (Fr (fun _ => False) w W)) (Lib.hid (F1.out.alloc _)) ?_
    intro W4 HF4
    refine (awake_c W4 (HT.out.far HF4.out)).mono ?_
    rintro e w5 ⟨rfl, f5⟩
    have F5 := Lib.hid (HF4.out.trans f5 (fun _ _ h => h))
    clear f5
    go_wp2_with fail
    go_ret
    exact ⟨rfl, F5.out⟩
  have e1 : ea = 0 := by rw [← HEA.out, ez_yes hS]
  subst e1
  obtain ⟨s, rfl, hs1, hs2⟩ := szB_nat hS
  obtain ⟨hH1, hs1'⟩ := HH1.out hS
  subst hs1'
  have HHB := Lib.hid (show H1 = begL s from hH1)
  have hw1 : Ws 8 H1 := by rw [hH1]; exact ws_begL s hs2
  have HW1 := Lib.hid hw1
  clear hH1 HH1 hw1
  go_upto_region 6 with fail
  refine abs_world (fun W => Hid (Blk W w1.heap.size 33 (dc H1 (.slice none 0 0) 0 s)) ∧ Hid (Fr (fun _ => False) w W)) ⟨Blk.new w1 _ _, F1.out.alloc _⟩ ?_
  rintro W4 ⟨HB1, HF4⟩
  have hz4 : w1.heap.size < W4.heap.size := HB1.out.lt
  have hz0 := HF4.out.size
  clear F1
  have k0 := HB1.out.cell 0
  have k1 := HB1.out.cell 1
  have k2 := HB1.out.cell 2
  have k3 := HB1.out.cell 3
  have k4 := HB1.out.cell 4
  have k5 := HB1.out.cell 5
  have k6 := HB1.out.cell 6
  have k7 := HB1.out.cell 7
  simp only [dc, List.getElem?_toArray, List.getElem?_cons_zero, List.getElem?_cons_succ] at k0 k1 k2 k3 k4 k5 k6 k7
  obtain ⟨N, hN⟩ : ∃ N, (n - 1) / 64 = N := ⟨_, rfl⟩
  have hN2 : ((n : Int) - 1).tdiv 64 = (N : Int) := by rw [Int.tdiv_eq_ediv_of_nonneg (by omega)]; omega
  have hN3 : ((n : Int) - 1) / 64 = (N : Int) := by omega
  go_upto_region 8 with fail
  refine abs_world (fun W => Hid (Blk W w1.heap.size 33 (dc H1 (.slice none 0 0) 0 s)) ∧ Hid (Blk W W4.heap.size 23 (uv H1)) ∧ Hid (Fr (fun _ => False) w W)) ⟨HB1.out.alloc _, by rw [uv8 HW1.out]; exact Blk.new W4 _ _, HF4.out.alloc _⟩ ?_
  rintro W5 ⟨HB5, HG5, HF5⟩
  clear HB1 HF4 k0 k1 k2 k3 k4 k5 k6 k7
  obtain ⟨g, hg⟩ : ∃ g, W4.heap.size = g := ⟨_, rfl⟩
  rw [hg] at HG5 hz4 hz0 ⊢
  clear hg W4
  have hN60 : N ≤ 60 := by omega
  have hll : l.length = n := by rw [← bv_length]; exact HR.out.1
  go_wp2_with fail
  go_loopw [9] (fun u wr => ∃ i : Nat, i ≤ N ∧ u = .int .i64 (i : Int) ∧ Hid (Blk wr g 23 (uv (hB H1 l i))) ∧ Hid (Fr (fun q => q = g) W5 wr)) (fun u wr => N - (intOf u).toNat)
  case atStart => exact ⟨0, by omega, rfl, HG5.out, Fr.refl _ _⟩
  case round =>
    obtain ⟨i, hi, rfl, hb, hf⟩ := hrel
    by_cases hlt : i < N
    · have hdl : decide ((i : Int) < (N : Int)) = true := decide_eq_true (by omega)
      obtain ⟨Hk, hHk⟩ : ∃ q, hB H1 l i = q := ⟨_, rfl⟩
      have hwk : Ws 8 Hk := by rw [← hHk]; exact ws_hB HW1.out l i (by omega)
      have hst := hB_succ H1 l i
      rw [hHk] at hst
      obtain ⟨M, hM⟩ : ∃ q, mixL Hk (wds ((l.drop (64 * i)).take 64)) (64 * i + 64) false = q := ⟨_, rfl⟩
      have hwM : Ws 8 M := by rw [← hM]; exact hwk.ofMix _ _ (by omega) false
      rw [hM] at hst
      have hb := hb.out
      rw [hHk] at hb
      have HST := Lib.hid hst
      have HWK := Lib.hid hwk
      have HWM := Lib.hid hwM
      have HMM := Lib.hid hM
      have HB := Lib.hid hb
      have hgl : g < wr.heap.size := hb.lt
      have HFI := Lib.hid hf.out
      clear hHk hst hwk hwM hM hb
      go_upto_region 11 with fail
      obtain ⟨x, hx⟩ : ∃ x, 64 * i = x := ⟨_, rfl⟩
      rw [hx] at HMM
      obtain ⟨y, hy⟩ : ∃ y, x + 64 = y := ⟨_, rfl⟩
      rw [hy] at HMM
      obtain ⟨D, hd, hdr⟩ := cut_mid A n c x y (by omega) (by omega) hn
      rw [show y - x = 64 by omega] at hd hdr
      have HD := Lib.hid hd
      have HDRUN := Lib.hid hdr
      clear hd hdr
      refine (wpIn_wide (n := 9)).1 ?_
      refine wpIn_region_factsR (ms := [0, 0, 0, 4, 0, 16, 48, 126, 0, 256, 768, 1792, 4095, 8191, 16383, 16383, 0, 98303, 262143]) (k := 19) (Gr wr.heap.size M) (blkR wr.heap.size Hk M A n c D x y i) (by kernel_rfl) (by kernel_rfl) (Gr.refl _ _) (fun a b c h1 h2 => h1.trans h2) blkR_far (lowMs_lt (by kernel_rfl)) ?walk
      case walk =>
        have hdr : ∀ W, Gr wr.heap.size M wr.drew W → Fr (fun q => wr.heap.size ≤ q) wr W := fun W h => ((Fr.refl (fun q => wr.heap.size ≤ q) wr).drew).trans h.1 (fun _ _ h => h)
        have HDR := Lib.hid hdr
        clear hdr
        refine factWalkR_cons (fun W hW hf K hK => ?_) (fun v0 => ?_)
        · skip
          have bl := HB.out.fr (HDR.out _ hW) (by omega)
          rw [uv8 HWK.out] at bl
          have k0 := bl.cell 0
          have k1 := bl.cell 1
          have k2 := bl.cell 2
          have k3 := bl.cell 3
          have k4 := bl.cell 4
          have k5 := bl.cell 5
          have k6 := bl.cell 6
          have k7 := bl.cell 7
          simp only [List.getElem?_toArray, List.getElem?_cons_zero, List.getElem?_cons_succ] at k0 k1 k2 k3 k4 k5 k6 k7
          clear bl
          refine ⟨by kernel_rfl, ?_⟩
          gi_step
          exact hK _ _ (Gr.refl _ _ _) (congrArg Value.agg (uv8 HWK.out).symm)
        simp only [Act.put, List.setIfInBounds_toArray, List.set_cons_succ, List.set_cons_zero]
        refine factWalkR_cons (fun W hW hf K hK => ?_) (fun v1 => ?_)
        · skip
          refine ⟨by kernel_rfl, ?_⟩
          gi_step
          exact hK _ _ (Gr.refl _ _ _) rfl
        simp only [Act.put, List.setIfInBounds_toArray, List.set_cons_succ, List.set_cons_zero]
        refine factWalkR_cons (fun W hW hf K hK => ?_) (fun v2 => ?_)
        · skip
          refine ⟨by kernel_rfl, ?_⟩
          gi_step
          exact hK _ _ (Gr.refl _ _ _) rfl
        simp only [Act.put, List.setIfInBounds_toArray, List.set_cons_succ, List.set_cons_zero]
        refine factWalkR_cons (fun W hW hf K hK => ?_) (fun v3 => ?_)
        · skip
          have e2 : v2 = .int .i64 (i : Int) := hf 2 (by omega) (by kernel_rfl)
          subst e2
          refine ⟨by kernel_rfl, ?_⟩
          gi_step
          exact hK _ _ (Gr.refl _ _ _) (congrArg (Value.int .i64) (by omega))
        simp only [Act.put, List.setIfInBounds_toArray, List.set_cons_succ, List.set_cons_zero]
        refine factWalkR_cons (fun W hW hf K hK => ?_) (fun v4 => ?_)
        · skip
          refine ⟨by kernel_rfl, ?_⟩
          gi_step
          exact hK _ _ (Gr.refl _ _ _) rfl
        simp only [Act.put, List.setIfInBounds_toArray, List.set_cons_succ, List.set_cons_zero]
        refine factWalkR_cons (fun W hW hf K hK => ?_) (fun v5 => ?_)
        · skip
          have e4 : v4 = .int .i64 (i : Int) := hf 4 (by omega) (by kernel_rfl)
          subst e4
          refine ⟨by kernel_rfl, ?_⟩
          gi_step
          exact hK _ _ (Gr.refl _ _ _) (congrArg (Value.int .i64) (by omega))
        simp only [Act.put, List.setIfInBounds_toArray, List.set_cons_succ, List.set_cons_zero]
        refine factWalkR_cons (fun W hW hf K hK => ?_) (fun v6 => ?_)
        · skip
          have e5 : v5 = .int .i64 (x : Int) := hf 5 (by omega) (by kernel_rfl)
          subst e5
          refine ⟨by kernel_rfl, ?_⟩
          gi_step
          exact hK _ _ (Gr.refl _ _ _) (congrArg (Value.int .i64) (by omega))
        simp only [Act.put, List.setIfInBounds_toArray, List.set_cons_succ, List.set_cons_zero]
        refine factWalkR_cons (fun W hW hf K hK => ?_) (fun v7 => ?_)
        · skip
          have e1 : v1 = .slice A n c := hf 1 (by omega) (by kernel_rfl)
          have e3 : v3 = .int .i64 (x : Int) := hf 3 (by omega) (by kernel_rfl)
          have e6 : v6 = .int .i64 (y : Int) := hf 6 (by omega) (by kernel_rfl)
          subst e1 e3 e6
          have hrun := HDRUN.out W
          refine ⟨by kernel_rfl, ?_⟩
          gi_step
          exact hK _ _ (Gr.refl _ _ _) rfl
        simp only [Act.put, List.setIfInBounds_toArray, List.set_cons_succ, List.set_cons_zero]
        refine factWalkR_cons (fun W hW hf K hK => ?_) (fun v8 => ?_)
        · skip
          refine ⟨by kernel_rfl, ?_⟩
          gi_step
          exact hK _ _ (Gr.refl _ _ _) rfl
        simp only [Act.put, List.setIfInBounds_toArray, List.set_cons_succ, List.set_cons_zero]
        refine factWalkR_cons (fun W hW hf K hK => ?_) (fun v9 => ?_)
        · skip
          have e8 : v8 = .int .i64 (i : Int) := hf 8 (by omega) (by kernel_rfl)
          subst e8
          refine ⟨by kernel_rfl, ?_⟩
          gi_step
          exact hK _ _ (Gr.refl _ _ _) (congrArg (Value.int .i64) (by omega))
        simp only [Act.put, List.setIfInBounds_toArray, List.set_cons_succ, List.set_cons_zero]
        refine factWalkR_cons (fun W hW hf K hK => ?_) (fun v10 => ?_)
        · skip
          have e9 : v9 = .int .i64 (x : Int) := hf 9 (by omega) (by kernel_rfl)
          subst e9
          refine ⟨by kernel_rfl, ?_⟩
          gi_step
          exact hK _ _ (Gr.refl _ _ _) (congrArg (Value.int .i64) (by omega))
        simp only [Act.put, List.setIfInBounds_toArray, List.set_cons_succ, List.set_cons_zero]
        refine factWalkR_cons (fun W hW hf K hK => ?_) (fun v11 => ?_)
        · skip
          have e10 : v10 = .int .i64 (y : Int) := hf 10 (by omega) (by kernel_rfl)
          subst e10
          refine ⟨by kernel_rfl, ?_⟩
          gi_step
          exact hK _ _ (Gr.refl _ _ _) (congrArg (Value.int .u64) (by omega))
        simp only [Act.put, List.setIfInBounds_toArray, List.set_cons_succ, List.set_cons_zero]
        refine factWalkR_cons (fun W hW hf K hK => ?_) (fun v12 => ?_)
        · skip
          have e0 : v0 = .agg (uv Hk) := hf 0 (by omega) (by kernel_rfl)
          have e7 : v7 = .slice D 64 (c - x) := hf 7 (by omega) (by kernel_rfl)
          have e11 : v11 = .int .u64 (y : Int) := hf 11 (by omega) (by kernel_rfl)
          subst e0 e7 e11
          have hz5 := HF5.out.size
          have hz6 := HFI.out.size
          have hfw := HF5.out.trans (Fr.trans (fp := fun q => q = g ∨ wr.heap.size ≤ q) (HFI.out.mono (fun _ _ h => .inl h)) (HDR.out W hW) (fun _ _ h => .inr h)) (fun k hk e => by omega)
          have hw := Mix_yes W Hk D (c - x) _ y false 0 rfl HWK.out (HD.out W l (HR.out.fr hfw (fun _ _ h => h))) (by omega) (HT.out.far hfw)
          rw [HMM.out] at hw
          clear hfw
          refine ⟨by kernel_rfl, ?_⟩
          gi_step
          refine ⟨trivial, ?_⟩
          refine (callsIn_wide.2 hw).mono ?_
          rintro e W' ⟨rfl, f2⟩
          dsimp only
          exact hK _ _ (Gr.of f2) rfl
        simp only [Act.put, List.setIfInBounds_toArray, List.set_cons_succ, List.set_cons_zero]
        refine factWalkR_cons (fun W hW hf K hK => ?_) (fun v13 => ?_)
        · skip
          have e12 : v12 = .tuple #[.agg (uv M), .int .i64 0] := hf 12 (by omega) (by kernel_rfl)
          subst e12
          refine ⟨by kernel_rfl, ?_⟩
          gi_step
          exact hK _ _ (Gr.refl _ _ _) rfl
        simp only [Act.put, List.setIfInBounds_toArray, List.set_cons_succ, List.set_cons_zero]
        refine factWalkR_cons (fun W hW hf K hK => ?_) (fun v14 => ?_)
        · skip
          have e13 : v13 = .tuple #[.agg (uv M), .int .i64 0] := hf 13 (by omega) (by kernel_rfl)
          subst e13
          refine ⟨by kernel_rfl, ?_⟩
          gi_step
          exact hK _ _ (Gr.refl _ _ _) rfl
        simp only [Act.put, List.setIfInBounds_toArray, List.set_cons_succ, List.set_cons_zero]
        refine factWalkR_cons (fun W hW hf K hK => ?_) (fun v15 => ?_)
        · skip
          have e13 : v13 = .tuple #[.agg (uv M), .int .i64 0] := hf 13 (by omega) (by kernel_rfl)
          subst e13
          refine ⟨by kernel_rfl, ?_⟩
          gi_step
          exact hK _ _ (Gr.refl _ _ _) rfl
        simp only [Act.put, List.setIfInBounds_toArray, List.set_cons_succ, List.set_cons_zero]
        refine factWalkR_cons (fun W hW hf K hK => ?_) (fun v16 => ?_)
        · skip
          refine ⟨by kernel_rfl, ?_⟩
          gi_step
          exact hK _ _ (Gr.of ((Fr.refl _ W).alloc _)) ⟨W.heap.size, rfl, (HDR.out W hW).size, _, Blk.new W _ _, rfl⟩
        simp only [Act.put, List.setIfInBounds_toArray, List.set_cons_succ, List.set_cons_zero]
        refine factWalkR_cons (fun W hW hf K hK => ?_) (fun v17 => ?_)
        · have e14 : v14 = .agg (uv M) := hf 14 (by omega) (by kernel_rfl)
          obtain ⟨g1, e16, hbg, cs, bl, hcs⟩ : ∃ g1, v16 = .pointer (some ⟨g1, 0, none⟩) ∧ wr.heap.size ≤ g1 ∧ ∃ cs, Blk W g1 23 cs ∧ cs.size = 8 := hf 16 (by omega) (by kernel_rfl)
          subst e14 e16
          obtain ⟨l8, rfl⟩ : ∃ l8 : List Value, cs = l8.toArray := ⟨cs.toList, by simp⟩
          obtain ⟨c0, c1, c2, c3, c4, c5, c6, c7, rfl⟩ : ∃ c0 c1 c2 c3 c4 c5 c6 c7, l8 = [c0, c1, c2, c3, c4, c5, c6, c7] := by
            match l8, hcs with
            | [a, b, c, d, e, f, g, h], _ => exact ⟨a, b, c, d, e, f, g, h, rfl⟩
          have k0 := bl.cell 0
          have k1 := bl.cell 1
          have k2 := bl.cell 2
          have k3 := bl.cell 3
          have k4 := bl.cell 4
          have k5 := bl.cell 5
          have k6 := bl.cell 6
          have k7 := bl.cell 7
          have z0 := bl.frozen 0
          have z1 := bl.frozen 1
          have z2 := bl.frozen 2
          have z3 := bl.frozen 3
          have z4 := bl.frozen 4
          have z5 := bl.frozen 5
          have z6 := bl.frozen 6
          have z7 := bl.frozen 7
          simp only [List.getElem?_toArray, List.getElem?_cons_zero, List.getElem?_cons_succ] at k0 k1 k2 k3 k4 k5 k6 k7
          have hs := ((((((((bl.set_ 0 (.int .u32 (at_ M 0 : Nat))).set_ 1 (.int .u32 (at_ M 1 : Nat))).set_ 2 (.int .u32 (at_ M 2 : Nat))).set_ 3 (.int .u32 (at_ M 3 : Nat))).set_ 4 (.int .u32 (at_ M 4 : Nat))).set_ 5 (.int .u32 (at_ M 5 : Nat))).set_ 6 (.int .u32 (at_ M 6 : Nat))).set_ 7 (.int .u32 (at_ M 7 : Nat)))
          simp only [List.setIfInBounds_toArray, List.set_cons_succ, List.set_cons_zero] at hs
          rw [← uv8 HWM.out] at hs
          have hs2 := hs
          have hff := (((((((((Fr.refl (fun k => k = g1) W).setCell (p := ⟨g1, 0, none⟩) (fun _ => rfl) (.int .u32 (at_ M 0 : Nat))).setCell (p := ⟨g1, 1, none⟩) (fun _ => rfl) (.int .u32 (at_ M 1 : Nat))).setCell (p := ⟨g1, 2, none⟩) (fun _ => rfl) (.int .u32 (at_ M 2 : Nat))).setCell (p := ⟨g1, 3, none⟩) (fun _ => rfl) (.int .u32 (at_ M 3 : Nat))).setCell (p := ⟨g1, 4, none⟩) (fun _ => rfl) (.int .u32 (at_ M 4 : Nat))).setCell (p := ⟨g1, 5, none⟩) (fun _ => rfl) (.int .u32 (at_ M 5 : Nat))).setCell (p := ⟨g1, 6, none⟩) (fun _ => rfl) (.int .u32 (at_ M 6 : Nat))).setCell (p := ⟨g1, 7, none⟩) (fun _ => rfl) (.int .u32 (at_ M 7 : Nat)))
          have hgr := Gr.store (B := wr.heap.size) hbg bl (by rw [uv8 HWM.out]; rfl) hff hs2
          have HS2 := Lib.hid hs2
          have HGR := Lib.hid hgr
          clear hs hs2 hff hgr bl
          rw [uv8 HWM.out] at hK ⊢
          refine ⟨by kernel_rfl, ?_⟩
          gi_step
          exact hK undef _ HGR.out ⟨g1, rfl, hbg, HS2.out⟩
        simp only [Act.put, List.setIfInBounds_toArray, List.set_cons_succ, List.set_cons_zero]
        refine factWalkR_cons (fun W hW hf K hK => ?_) (fun v18 => ?_)
        · skip
          have e15 : v15 = .int .i64 0 := hf 15 (by omega) (by kernel_rfl)
          subst e15
          refine ⟨by kernel_rfl, ?_⟩
          gi_step
          exact hK _ _ (Gr.refl _ _ _) rfl
        simp only [Act.put, List.setIfInBounds_toArray, List.set_cons_succ, List.set_cons_zero]
        refine factWalkR_nil (fun W hW hf => ?_)
        have e18 : v18 = .int .i64 0 := hf 18 (by omega)
        obtain ⟨g1, e16, l16, b17⟩ : ∃ g1, v16 = .pointer (some ⟨g1, 0, none⟩) ∧ wr.heap.size ≤ g1 ∧ Blk W g1 23 (uv M) := hf 17 (by omega)
        subst e18 e16
        have HFW2 := Lib.hid (HDR.out W hW)
        have B17 := Lib.hid b17
        clear hf hW HDR b17
        change wpAnyIn _ _ _ _ _ _ 0 _ _ _
        refine wpAnyIn_done (by kernel_rfl) ?_ _
        have hb7 := HB.out.fr HFW2.out (by omega)
        have hg1 : g ≠ g1 := by omega
        have hz8 := HFW2.out.size
        rw [uv8 HWK.out] at hb7
        have hb17 := B17.out
        rw [uv8 HWM.out] at hb17
        have k0 := hb17.cell 0
        have k1 := hb17.cell 1
        have k2 := hb17.cell 2
        have k3 := hb17.cell 3
        have k4 := hb17.cell 4
        have k5 := hb17.cell 5
        have k6 := hb17.cell 6
        have k7 := hb17.cell 7
        have j0 := hb7.cell 0
        have j1 := hb7.cell 1
        have j2 := hb7.cell 2
        have j3 := hb7.cell 3
        have j4 := hb7.cell 4
        have j5 := hb7.cell 5
        have j6 := hb7.cell 6
        have j7 := hb7.cell 7
        have z0 := hb7.frozen 0
        have z1 := hb7.frozen 1
        have z2 := hb7.frozen 2
        have z3 := hb7.frozen 3
        have z4 := hb7.frozen 4
        have z5 := hb7.frozen 5
        have z6 := hb7.frozen 6
        have z7 := hb7.frozen 7
        simp only [List.getElem?_toArray, List.getElem?_cons_zero, List.getElem?_cons_succ] at k0 k1 k2 k3 k4 k5 k6 k7 j0 j1 j2 j3 j4 j5 j6 j7
        rw [← uv8 HWK.out] at hb7
        have HB7 := Lib.hid hb7
        clear hb7 hb17 B17 HB HDRUN HD
        refine abs_then (fun W2 => W2 = W) rfl ?_
        rintro W2 rfl
        go_wp2_with fail
        have hs := ((((((((HB7.out.set_ 0 (.int .u32 (at_ M 0 : Nat))).set_ 1 (.int .u32 (at_ M 1 : Nat))).set_ 2 (.int .u32 (at_ M 2 : Nat))).set_ 3 (.int .u32 (at_ M 3 : Nat))).set_ 4 (.int .u32 (at_ M 4 : Nat))).set_ 5 (.int .u32 (at_ M 5 : Nat))).set_ 6 (.int .u32 (at_ M 6 : Nat))).set_ 7 (.int .u32 (at_ M 7 : Nat)))
        rw [uset8 _ _ HWK.out HWM.out] at hs
        have hff := (((((((((Fr.refl (fun k => k = g) W2).setCell (p := ⟨g, 0, none⟩) (fun _ => rfl) (.int .u32 (at_ M 0 : Nat))).setCell (p := ⟨g, 1, none⟩) (fun _ => rfl) (.int .u32 (at_ M 1 : Nat))).setCell (p := ⟨g, 2, none⟩) (fun _ => rfl) (.int .u32 (at_ M 2 : Nat))).setCell (p := ⟨g, 3, none⟩) (fun _ => rfl) (.int .u32 (at_ M 3 : Nat))).setCell (p := ⟨g, 4, none⟩) (fun _ => rfl) (.int .u32 (at_ M 4 : Nat))).setCell (p := ⟨g, 5, none⟩) (fun _ => rfl) (.int .u32 (at_ M 5 : Nat))).setCell (p := ⟨g, 6, none⟩) (fun _ => rfl) (.int .u32 (at_ M 6 : Nat))).setCell (p := ⟨g, 7, none⟩) (fun _ => rfl) (.int .u32 (at_ M 7 : Nat)))
        have hs2 : Hid (Blk _ g 23 (uv (hB H1 l (i + 1)))) := Lib.hid (by rw [HST.out]; exact hs)
        have hf2 := (Fr.trans (fp := fun q => q = g ∨ wr.heap.size ≤ q) (HFI.out.mono (fun _ _ h => .inl h)) HFW2.out (fun _ _ h => .inr h)).trans hff (fun _ _ h => .inl h)
        have hz9 := HFI.out.size
        have hf3 := Lib.hid (hf2.mono (fq := fun q => q = g ∨ wr.heap.size ≤ q) (fp := fun q => q = g) (fun k hk e => by omega))
        exact ⟨⟨i + 1, by omega, by go_num, hs2, hf3⟩, by simp [intOf]; omega⟩
    · have hdl : decide ((i : Int) < (N : Int)) = false := decide_eq_false (by omega)
      obtain rfl : i = N := by omega
      obtain ⟨HN, hHN⟩ : ∃ q, hB H1 l i = q := ⟨_, rfl⟩
      have hwN : Ws 8 HN := by rw [← hHN]; exact ws_hB HW1.out l i (by omega)
      have hwa := wrL_all H1 l (by omega) (by omega) i (by rw [hll]; exact hN.symm)
      have hsa := sumL_all H1 l (by omega) (by omega) i s (by rw [hll]; exact hN.symm)
      rw [hHN] at hwa hsa hb
      have HWN := Lib.hid hwN
      have HWA := Lib.hid hwa
      have HSA := Lib.hid hsa
      have hz5 := HF5.out.size
      have fw := Lib.hid (HF5.out.trans hf.out (fun k hk e => by omega))
      have bd := HB5.out.fr hf.out (by omega)
      have k0 := bd.cell 0
      have k1 := bd.cell 1
      have k2 := bd.cell 2
      have k3 := bd.cell 3
      have k4 := bd.cell 4
      have k5 := bd.cell 5
      have k6 := bd.cell 6
      have k7 := bd.cell 7
      have k8 := bd.cell 8
      have k9 := bd.cell 9
      have k10 := bd.cell 10
      simp only [dc, List.getElem?_toArray, List.getElem?_cons_zero, List.getElem?_cons_succ] at k0 k1 k2 k3 k4 k5 k6 k7 k8 k9 k10
      have hw := write_c wr H1 none 0 0 [] 0 s A n c l HW1.out (Rd.none_ _ _) ⟨Nat.le_refl _, by unfold maxLen; omega⟩ (HR.out.far fw.out) ⟨hn, by have := HC.out; unfold maxLen; omega⟩ (by omega) (by simp; omega) (HT.out.far fw.out)
      rw [List.nil_append, HWA.out] at hw
      dsimp only at hw
      have HW := Lib.hid hw
      clear hwN hwa hsa bd hw hf HB5 HG5 HF5 hHN
      go_wp2_with fail
      refine HW.out.mono ?_
      rintro e w6 ⟨v6, rfl, o6, f6⟩
      obtain ⟨A6, c6, rfl, h6, h6'⟩ := own_slice o6
      have HR6 := Lib.hid (Rd.of_own o6)
      have HB6 := Lib.hid (own_blks o6)
      have HG6 := Lib.hid (hb.out.fr f6 (fun h => h))
      have HF6 := Lib.hid (fw.out.trans f6 (fun _ _ h => h))
      clear o6 f6 HW k0 k1 k2 k3 k4 k5 k6 k7 k8 k9 k10 hb fw
      obtain ⟨mm, hmm⟩ : ∃ q, 64 * i = q := ⟨_, rfl⟩
      rw [hmm] at HSA HR6 h6 ⊢
      obtain ⟨rl, hrl⟩ : ∃ q, l.drop mm = q := ⟨_, rfl⟩
      rw [hrl] at HSA HR6 h6 ⊢
      obtain ⟨rn, hrn0⟩ : ∃ q, rl.length = q := ⟨_, rfl⟩
      rw [hrn0] at HR6 h6 ⊢
      have hrn : rn + mm = n := by rw [← hrn0, ← hrl, List.length_drop, hll]; omega
      have HRN := Lib.hid hrn0
      clear hrn0
      have HRL := Lib.hid hrl
      have hwa2 := HWA.out
      rw [hmm, hrl] at hwa2
      have hs0 := sum_again H1 0 l s HW1.out (by omega)
      rw [hwa2] at hs0
      have HS0 := Lib.hid (show sumL HN mm rl s = sumL H1 0 l s from hs0)
      clear hrl HWA hwa2 hs0
      unfold dc
      go_upto_region 16 with fail
      refine abs_world (fun W => ∃ gd, Hid (Blk W w6.heap.size 33 (dc HN (.slice A6 rn c6) mm s)) ∧ Hid (Blk W g 23 (uv HN)) ∧ Hid (Rd W A6 rn (bv rl)) ∧ Hid (Fr (fun _ => False) w W) ∧ gd = 0) ⟨0, Blk.new w6 _ _, HG6.out.alloc _, HR6.out.alloc _, HF6.out.alloc _, rfl⟩ ?_
      rintro W7 ⟨-, HB7, HG7, HR7, HF7, -⟩
      have bd := HB7.out
      have bg := HG7.out
      rw [uv8 HWN.out] at bg
      have k0 := bd.cell 0
      have k1 := bd.cell 1
      have k2 := bd.cell 2
      have k3 := bd.cell 3
      have k4 := bd.cell 4
      have k5 := bd.cell 5
      have k6 := bd.cell 6
      have k7 := bd.cell 7
      have k8 := bd.cell 8
      have k9 := bd.cell 9
      have k10 := bd.cell 10
      simp only [dc, List.getElem?_toArray, List.getElem?_cons_zero, List.getElem?_cons_succ] at k0 k1 k2 k3 k4 k5 k6 k7 k8 k9 k10
      have j0 := bg.cell 0
      have j1 := bg.cell 1
      have j2 := bg.cell 2
      have j3 := bg.cell 3
      have j4 := bg.cell 4
      have j5 := bg.cell 5
      have j6 := bg.cell 6
      have j7 := bg.cell 7
      simp only [List.getElem?_toArray, List.getElem?_cons_zero, List.getElem?_cons_succ] at j0 j1 j2 j3 j4 j5 j6 j7
      have E66 : ∀ W, (Op.equalIn 10000 23 (.agg (uv HN)) (.agg (uv HN))).run Tryd.prog W = .ok true W := fun W => (eq_states HN HN HWN.out HWN.out W).trans (by simp)
      rw [uv8 HWN.out] at E66
      have x1 : ((mm : Int) != 64 * (i : Int)) = false := by simp; omega
      have x2 : ((rn : Int) != (n : Int) - 64 * (i : Int)) = false := by simp; omega
      have e1 : IntKind.i64.wrap (64 * (i : Int)) = 64 * (i : Int) := IntWalk.i64_in _ (by omega)
      clear bd bg HG6 HF6 HR6 HB6
      obtain ⟨DE, hde, -, hder⟩ := cut_from A n c mm (64 * (i : Int)) (by omega) (by omega) hn
      go_upto_region 18 with fail
      have hrun := hder (W7.alloc (.cells #[] 5))
      obtain ⟨i0, hi0, hz0', hz1', hz2'⟩ := info_parts u8_info
      have HI := Lib.hid hi0
      have OE : Hid ((W7.alloc (.cells #[] 5)).ownsRow W7.heap.size 5 1 (.slice (some ⟨W7.heap.size, 0, none⟩) 0 0) 0 []) := own_empty _ _ _ 0 #[] (Nat.le_refl _) (heap_alloc_new W7 _) rfl (by unfold maxLen; omega)
      have RK : Hid (Rd (W7.alloc (.cells #[] 5)) DE (n - mm) (bv rl)) := by
        have r := hde _ _ ((HR.out.far HF7.out).alloc (.cells #[] 5))
        rw [← bv_drop, HRL.out] at r
        exact r
      have GE : Hid (Fr (fun _ => False) W7 (W7.alloc (.cells #[] 5))) := (Fr.refl _ W7).alloc _
      clear hde hder
      go_wp2_with (first
        | (at_builtin
           refine wpList_app rfl _ _ _ _ rfl W7.heap.size 5 i0 _ 1 1 Tryd.underlying24 HI.out hz0' hz1' hz2' rfl _ 0 _ rfl OE.out _ (n - mm) _ rfl (Src.rd Tryd.underlying24 _ RK.out (bv_one _)) (by omega) (by unfold maxLen; omega) GE.out.size ?_
           intro v8 w8 hown8 hf8 hn8
           rw [Nat.zero_add, List.nil_append] at hown8
           have G8 := Lib.hid (GE.out.trans hf8 (fun k hk hq => by have := (OE.out.lt k hq).1; omega))
           have H8 := Lib.hid hown8
           obtain ⟨A8, c8, rfl, hc8, hcm8⟩ := own_slice hown8
           have HCM8 := Lib.hid hcm8
           clear hown8 hf8 hn8 hcm8))
      have er : rl = rl ++ List.replicate (n - mm - rn) (0 : UInt8) := by rw [show n - mm - rn = 0 by omega]; simp
      have H8' : Hid (w8.ownsRow W7.heap.size 5 1 (.slice A8 (n - mm) c8) (n - mm) (bv (rl ++ List.replicate (n - mm - rn) (0 : UInt8)))) := by rw [← er]; exact H8
      clear H8 er RK OE GE hrun k0 k1 k2 k3 k4 k5 k6 k7 k8 k9 k10 j0 j1 j2 j3 j4 j5 j6 j7
      have hz7 := HF7.out.size
      go_loopw [13] (fun u wr => ∃ (Aq : Option Addr) (p cq : Nat), u = .slice Aq p cq ∧ n - mm ≤ p ∧ p ≤ 64 ∧ p ≤ cq ∧ Hid (cq ≤ maxLen) ∧ Hid (wr.ownsRow W7.heap.size 5 1 (.slice Aq p cq) p (bv (rl ++ List.replicate (p - rn) (0 : UInt8)))) ∧ Hid (Fr (fun _ => False) W7 wr)) (fun u _ => match u with | .slice _ p _ => 64 - p | _ => 0)
      case atStart => exact ⟨A8, n - mm, c8, rfl, Nat.le_refl _, by omega, hc8, HCM8.out, H8'.out, G8.out⟩
      case round =>
        obtain ⟨Aq, p, cq, rfl, hp1, hp2, hpc, hcm, ho, hf⟩ := hrel
        by_cases hlt : p < 64
        · have hdl2 : decide ((p : Int) < 64) = true := decide_eq_true (by omega)
          have BL := Lib.hid (Blk.new wr 5 #[.int .u8 0])
          have OW := Lib.hid (own_fr ho.out (fp := fun _ => False) ((Fr.refl _ wr).alloc (.cells #[.int .u8 0] 5)) (fun _ _ h => h))
          have GW := Lib.hid (hf.out.alloc (.cells #[.int .u8 0] 5))
          go_wp2_with (first
            | (at_builtin
               refine wpList_app rfl _ _ _ _ rfl W7.heap.size 5 i0 _ 1 1 Tryd.underlying24 HI.out hz0' hz1' hz2' rfl _ p _ rfl OW.out _ 1 _ rfl (Src.rd Tryd.underlying24 _ (Rd.of_blk (n := 1) BL.out (by simp)) (by simp [Value.oneCell'])) (by omega) (by unfold maxLen; omega) GW.out.size ?_
               intro v9 w9 hown9 hf9 hn9
               have G9 := Lib.hid (GW.out.trans hf9 (fun k hk hq => by have := (OW.out.lt k hq).1; omega))
               have H9 := Lib.hid hown9
               obtain ⟨A9, c9, rfl, hc9, hcm9⟩ := own_slice hown9
               have HCM9 := Lib.hid hcm9
               clear hown9 hf9 hn9 hcm9))
          have e9 : bv (rl ++ List.replicate (p - rn) (0 : UInt8)) ++ List.take 1 (#[Value.int .u8 0] : Array Value).toList = bv (rl ++ List.replicate (p + 1 - rn) (0 : UInt8)) := by
            rw [show p + 1 - rn = (p - rn) + 1 by omega, ← pad_step, bv_append (rl ++ _)]
            rfl
          have h9 := H9.out
          rw [e9] at h9
          exact ⟨⟨A9, p + 1, c9, rfl, by omega, by omega, hc9, HCM9.out, h9, G9.out⟩, (by show 64 - (p + 1) < 64 - p; omega)⟩
        · obtain rfl : p = 64 := by omega
          have hdl2 : decide (((64 : Nat) : Int) < 64) = false := by decide
          obtain ⟨Z, hZ⟩ : ∃ q, mixL HN (wds (pad rl)) l.length true = q := ⟨_, rfl⟩
          have hwZ : Ws 8 Z := by rw [← hZ]; exact HWN.out.ofMix _ _ (by omega) true
          have hrd := Rd.of_own ho.out
          have hpd : rl ++ List.replicate (64 - rn) (0 : UInt8) = pad rl := by rw [← HRN.out]; rfl
          rw [hpd] at hrd
          have hff := HF7.out.trans hf.out (fun _ _ h => h)
          have hmx := Mix_yes wr HN Aq cq (pad rl) n true 1 rfl HWN.out hrd (by omega) (HT.out.far hff)
          rw [← hll, hZ, hll] at hmx
          rw [uv8 HWN.out, uv8 hwZ] at hmx
          have HMX := Lib.hid hmx
          have HWZ := Lib.hid hwZ
          have hsZ : sumL HN mm rl s = bytesL Z s := by rw [HS0.out, HSA.out, hZ]
          have HSZ := Lib.hid hsZ
          have bg := HG7.out.fr hf.out (fun h => h)
          have HB9 := Lib.hid (HB7.out.fr hf.out (fun h => h))
          have HR9 := Lib.hid (HR7.out.far hf.out)
          have HF9 := Lib.hid hff
          rw [uv8 HWN.out] at bg
          have k0 := bg.cell 0
          have k1 := bg.cell 1
          have k2 := bg.cell 2
          have k3 := bg.cell 3
          have k4 := bg.cell 4
          have k5 := bg.cell 5
          have k6 := bg.cell 6
          have k7 := bg.cell 7
          simp only [List.getElem?_toArray, List.getElem?_cons_zero, List.getElem?_cons_succ] at k0 k1 k2 k3 k4 k5 k6 k7
          clear bg hmx hsZ hZ hwZ hrd hpd hff ho hf HB7 HG7 HR7 HF7
          go_wp2_with fail
          refine HMX.out.mono ?_
          rintro e w9 ⟨rfl, f9⟩
          have HB10 := Lib.hid (HB9.out.fr f9 (fun h => h))
          have HR10 := Lib.hid (HR9.out.far f9)
          have HF10 := Lib.hid (HF9.out.trans f9 (fun _ _ h => h))
          clear f9 HB9 HR9 HF9 HMX k0 k1 k2 k3 k4 k5 k6 k7
          go_upto_region 22 with fail
          refine abs_world (fun W => Hid (Blk W w9.heap.size 23 (uv Z)) ∧ Hid (Blk W w6.heap.size 33 (dc HN (.slice A6 rn c6) mm s)) ∧ Hid (Rd W A6 rn (bv rl)) ∧ Hid (Fr (fun _ => False) w W)) ⟨by rw [uv8 HWZ.out]; exact Blk.new w9 _ _, HB10.out.alloc _, HR10.out.alloc _, HF10.out.alloc _⟩ ?_
          rintro W10 ⟨HZ10, HD10, HR11, HF11⟩
          clear HB10 HR10 HF10
          have bd := HD10.out
          have k0 := bd.cell 0
          have k1 := bd.cell 1
          have k2 := bd.cell 2
          have k3 := bd.cell 3
          have k4 := bd.cell 4
          have k5 := bd.cell 5
          have k6 := bd.cell 6
          have k7 := bd.cell 7
          have k8 := bd.cell 8
          have k9 := bd.cell 9
          have k10 := bd.cell 10
          simp only [dc, List.getElem?_toArray, List.getElem?_cons_zero, List.getElem?_cons_succ] at k0 k1 k2 k3 k4 k5 k6 k7 k8 k9 k10
          have hsm := sum_c W10 HN A6 rn c6 rl mm s HWN.out HR11.out ⟨h6, h6'⟩ (by omega) (by rw [HRN.out]; omega) hS ⟨hs1, hs2⟩ (HT.out.far HF11.out)
          rw [HSZ.out] at hsm
          have HSM := Lib.hid hsm
          have hss : ((s : Int) != (s : Int)) = false := by simp
          clear bd hsm
          go_wp2_with fail
          refine HSM.out.mono ?_
          rintro e w11 ⟨v11, rfl, o11, f11⟩
          obtain ⟨A11, c11, rfl, h11, h11'⟩ := own_slice o11
          have hrd := Rd.of_own o11
          obtain ⟨ob, oo, rfl, hcel⟩ := hrd.lit (by omega)
          have HCEL := Lib.hid hcel
          have HRD := Lib.hid hrd
          have HZ11 := Lib.hid (HZ10.out.fr f11 (fun h => h))
          have HF12 := Lib.hid (HF11.out.trans f11 (fun _ _ h => h))
          clear hrd hcel o11 HSM k0 k1 k2 k3 k4 k5 k6 k7 k8 k9 k10 HZ10 HD10 HR11 HF11
          go_wp2_with fail
          go_loopw [17] (fun u wr => ∃ q : Nat, q ≤ s ∧ u = .int .i64 (q : Int) ∧ Hid (Fr (fun _ => False) w11 wr)) (fun u _ => s - (intOf u).toNat)
          case atStart => exact ⟨0, by omega, rfl, Fr.refl _ _⟩
          case round =>
            obtain ⟨q, hq, rfl, hf⟩ := hrel
            by_cases hlt : q < s
            · have hdl3 : decide ((q : Int) < (s : Int)) = true := decide_eq_true (by omega)
              have hz := HZ11.out.fr hf.out (fun h => h)
              have hr := HRD.out.far hf.out
              have x0 : wr.cell? ⟨ob, oo + q, none⟩ = some (.int .u8 (byteL Z q : Nat)) := by rw [hr.cell hlt, bytesL_get Z s q hlt]
              have x1 : wr.cell? ⟨w9.heap.size, q / 4, none⟩ = some (.int .u32 (at_ Z (q / 4) : Nat)) := by rw [hz.cell, uv_get _ _ (by rw [HWZ.out.1]; omega)]
              obtain ⟨p, hp⟩ : ∃ p, q / 4 = p := ⟨_, rfl⟩
              have hpI : (q : Int) / 4 = (p : Int) := by omega
              have hp8 : (p : Int) < 8 := by omega
              rw [hp] at x1
              have hX := at_lt HWZ.out p
              obtain ⟨X, hXX⟩ : ∃ X, at_ Z p = X := ⟨_, rfl⟩
              rw [hXX] at x1 hX
              have hr4 : q % 4 = 0 ∨ q % 4 = 1 ∨ q % 4 = 2 ∨ q % 4 = 3 := by omega
              have hbl : ∀ k, q % 4 = k → byteL Z q = X / 2 ^ (8 * k) % 256 := fun k hk => by unfold byteL; rw [hp, hXX, hk]
              obtain ⟨BY, hBY⟩ : ∃ y, byteL Z q = y := ⟨_, rfl⟩
              rw [hBY] at x0 hbl
              clear hz hr hXX hp hBY
              rcases hr4 with h4 | h4 | h4 | h4
              · have HBL : BY = X / 1 % 256 := hbl _ h4
                have h4I : (q : Int) % 4 = 0 := by omega
                have ev : ((BY : Int) != (X : Int) % 256) = false := by simp; omega
                clear hbl HBL
                go_upto_region 28 with fail
                go_quiet (fail)
                go_wp2_with fail
                exact ⟨⟨q + 1, by omega, by go_num, (by first | exact hf.out.drewN _ | exact hf.out.drew | exact hf.out)⟩, by simp [intOf]; omega⟩
              · have HBL : BY = X / 256 % 256 := hbl _ h4
                have h4I : (q : Int) % 4 = 1 := by omega
                have ev : ((BY : Int) != (X : Int) / 256 % 256) = false := by simp; omega
                clear hbl HBL
                go_upto_region 28 with fail
                go_quiet (fail)
                go_wp2_with fail
                exact ⟨⟨q + 1, by omega, by go_num, (by first | exact hf.out.drewN _ | exact hf.out.drew | exact hf.out)⟩, by simp [intOf]; omega⟩
              · have HBL : BY = X / 65536 % 256 := hbl _ h4
                have h4I : (q : Int) % 4 = 2 := by omega
                have ev : ((BY : Int) != (X : Int) / 65536 % 256) = false := by simp; omega
                clear hbl HBL
                go_upto_region 28 with fail
                go_quiet (fail)
                go_wp2_with fail
                exact ⟨⟨q + 1, by omega, by go_num, (by first | exact hf.out.drewN _ | exact hf.out.drew | exact hf.out)⟩, by simp [intOf]; omega⟩
              · have HBL : BY = X / 16777216 % 256 := hbl _ h4
                have h4I : (q : Int) % 4 = 3 := by omega
                have ev : ((BY : Int) != (X : Int) / 16777216) = false := by simp; omega
                clear hbl HBL
                go_upto_region 28 with fail
                go_quiet (fail)
                go_wp2_with fail
                exact ⟨⟨q + 1, by omega, by go_num, (by first | exact hf.out.drewN _ | exact hf.out.drew | exact hf.out)⟩, by simp [intOf]; omega⟩
            · obtain rfl : q = s := by omega
              have hdl3 : decide ((q : Int) < (q : Int)) = false := by simp
              go_wp2_with fail
              refine (awake_c wr (HT.out.far (HF12.out.trans hf.out (fun _ _ h => h)))).mono ?_
              rintro e w12 ⟨rfl, f12⟩
              have F12 := Lib.hid ((HF12.out.trans hf.out (fun _ _ h => h)).trans f12 (fun _ _ h => h))
              clear f12
              go_wp2_with fail
              go_ret
              exact ⟨rfl, F12.out⟩
end Go.Proofs.YthikkcbipifcdaaDoor
