/-
  THE ITERATOR of frame's records: what it hands to whatever loop.
-/
import Derived.Test.YtmaajihpkollcaaDoorFr7
import Derived.RangeFuncNested
import Derived.RangeFuncBound
import Derived.RangeFuncCalls
import Derived.RangeFuncLeaves
import Derived.Shelf.Abstract
import Derived.Shelf.RegionOpen
import Derived.OwnWalkIn
import Derived.TacticsInMore
import Derived.LoopNIn
import Derived.LoopIn
namespace Go.Proofs.YtmaajihpkollcaaDoor
set_option linter.unusedSimpArgs false
set_option linter.unusedVariables false
open Go Go.RowKit Go.Shelf
attribute [local go_sem] Oper.semAt_some

/-- Where a piece of a slice begins. -/
def plA (B : Option Addr) (start m : Nat) : Option Addr := if m = 0 then B else B.map fun a => ⟨a.block, a.off + start, none⟩
/-- What a round keeps of what the iterator reads. -/
def KpW (n0 Bs k0 : Nat) (W1 W' : World) : Prop := W1.heap.size ≤ W'.heap.size ∧ ∀ k, k < W1.heap.size → (k < n0 ∨ k = Bs ∨ k = k0) → W'.heap[k]? = W1.heap[k]?
/-- The place in the row of records. -/
def szAt (k0 : Nat) (w : World) : Nat := match w.cell? ⟨k0, 1, none⟩ with
  | some (.int _ z) => z.toNat
  | _ => 0
theorem le_sizes : ∀ l : List (List UInt8), l.length ≤ sizes l
  | [] => Nat.zero_le _
  | p :: r => by have := le_sizes r; rw [sizes_cons, List.length_cons]; omega
/-- What the iterator holds between two rounds. -/
structure ItS (n0 Bs k0 : Nat) (B : Option Addr) (nb cb : Nat) (b : List UInt8) (pre : List (List UInt8)) (W w : World) : Prop where
  bs : Blk w Bs 25 #[.slice B nb cb]
  tb : Blk w k0 30 #[.int .i64 (pre.length : Int), .int .i64 (sizes pre : Int), .int .u32 (rowS 0 pre : Int)]
  rd : Rd w B nb (bv b)
  nb_ : Nb w
  is_ : ∃ m, b = rowB 0 pre ++ m
  tl : (tells 0 b).1 = pre ++ (tells (rowS 0 pre) (b.drop (sizes pre))).1

theorem its_next {b : List UInt8} {pre : List (List UInt8)} {p : List UInt8} (hi : ∃ m, b = rowB 0 pre ++ m) (ht : (tells 0 b).1 = pre ++ (tells (rowS 0 pre) (b.drop (sizes pre))).1) (h1 : one (rowS 0 pre) (b.drop (sizes pre)) = some p) :
    (∃ m, b = rowB 0 pre ++ (recB (rowS 0 pre) p ++ m)) ∧ p.length ≤ 16384 ∧ (∃ m, b = rowB 0 (pre ++ [p]) ++ m) ∧ (tells 0 b).1 = (pre ++ [p]) ++ (tells (rowS 0 (pre ++ [p])) (b.drop (sizes (pre ++ [p])))).1 := by
  obtain ⟨m, hm⟩ := hi
  obtain ⟨g1, g2, g3⟩ := one_some h1
  have hd : b.drop (sizes pre) = m := by
    rw [hm, ← rowB_length 0 pre, List.drop_append_of_le_length (Nat.le_refl _), List.drop_of_length_le (Nat.le_refl _), List.nil_append]
  have hrow : rowB 0 (pre ++ [p]) = rowB 0 pre ++ recB (rowS 0 pre) p := by rw [rowB_append]; simp [rowB]
  have hs : rowS 0 (pre ++ [p]) = sumOf (rowS 0 pre) p := by rw [rowS_append]; simp [rowS]
  have hz : sizes (pre ++ [p]) = sizes pre + (8 + p.length) := by rw [sizes_append]; simp [sizes]
  have hb : b = rowB 0 pre ++ (recB (rowS 0 pre) p ++ m.drop (8 + p.length)) := by
    rw [hd] at g2
    rw [← g2, List.take_append_drop]
    exact hm
  refine ⟨⟨_, hb⟩, g1, ⟨m.drop (8 + p.length), by rw [hrow, List.append_assoc]; exact hb⟩, ?_⟩
  rw [ht, tells_some h1, hs, hz, List.drop_drop]
  simp
theorem Rd.kp {w w' : World} {A : Option Addr} {n : Nat} {xs : List Value} (h : Rd w A n xs) (hk : ∀ k, inA A k → w'.heap[k]? = w.heap[k]?) : Rd w' A n xs :=
  h.keep fun p hp => .inl (World.cell?_of_block (hk _ hp))
theorem Nb.kp {w w' : World} (h : Nb w) (hk : w'.heap[0]? = w.heap[0]?) : Nb w' := fun i hi => by
  rw [World.cell?_of_block hk]
  exact h i hi
theorem Blk.kp {w w' : World} {g : Nat} {t : TypeId} {cs : Array Value} (h : Blk w g t cs) (hk : w'.heap[g]? = w.heap[g]?) : Blk w' g t cs := hk.trans h
theorem ItS.fr {n0 Bs k0 : Nat} {B : Option Addr} {nb cb : Nat} {b : List UInt8} {pre : List (List UInt8)} {W w w' : World} (h : ItS n0 Bs k0 B nb cb b pre W w) (hf : Fr (fun _ => False) w w') : ItS n0 Bs k0 B nb cb b pre W w' :=
  ⟨h.bs.fr hf (fun h => h), h.tb.fr hf (fun h => h), h.rd.far hf, h.nb_.far hf, h.is_, h.tl⟩

set_option maxRecDepth 100000 in
set_option maxHeartbeats 4000000 in
theorem records1_c (n : Nat) (hn : 1 ≤ n) (l Bs n0 : Nat) (B : Option Addr) (nb cb : Nat) (b : List UInt8) (J : List (List UInt8) → World → Prop) (W : World)
    (hb : Blk W Bs 25 #[.slice B nb cb]) (hr : Rd W B nb (bv b)) (hin : 0 < nb → ∀ k, inA B k → k < n0) (hc1 : nb ≤ cb) (hc2 : cb ≤ maxLen) (hN : Nb W) (h0 : 0 < n0) (hn0 : n0 ≤ W.heap.size) (hl : nb ≤ 1000000000000)
    (hJ : ∀ pre A C, J pre A → Fr (fun k => k = W.heap.size) A C → J pre C)
    (hY : ∀ pre p W1, J pre W1 → (∃ m, b = rowB 0 pre ++ (recB (rowS 0 pre) p ++ m)) → p.length ≤ 16384 →
      YieldAt Fence.wide (n - 1) Tryd.prog l #[.slice (plA B (sizes pre + 8) p.length) p.length p.length, tailV ((pre.length : Int) + 1) ((sizes pre : Int) + (8 + (p.length : Int))) (sumOf (rowS 0 pre) p)] W1 fun e W' => e = .returned (.bool true) ∧ J (pre ++ [p]) W' ∧ KpW n0 Bs W.heap.size W1 W')
    (hJ0 : J [] W) :
    CallsIn Fence.wide n Tryd.prog 27 #[.func (.yield l) #[] #[], .pointer (some ⟨Bs, 0, none⟩)] W fun e W' => (∃ v, e = .returned v) ∧ J (tells 0 b).1 W' := by
  have hbl : b.length = nb := by rw [← hr.1, bv_length]
  have HY := Lib.hid hY
  have HJ := Lib.hid hJ
  have HIN := Lib.hid hin
  have HC2 := Lib.hid hc2
  have S0 : Hid (ItS n0 Bs W.heap.size B nb cb b [] W (W.alloc (.cells #[.int .i64 0, .int .i64 0, .int .u32 0] 30))) :=
    { bs := hb.alloc _, tb := Blk.new W _ _, rd := hr.alloc _, nb_ := hN.far ((Fr.refl _ W).alloc _), is_ := ⟨b, rfl⟩, tl := by rfl }
  have J0 := Lib.hid (hJ [] _ _ hJ0 (((Fr.refl (fun k => k = W.heap.size) W).alloc (.cells #[.int .i64 0, .int .i64 0, .int .u32 0] 30))))
  have hbs := hb.lt
  have HBL := Lib.hid hbl
  clear hY hJ hin hc2 hr hb hN hJ0 hbl
  refine callsIn_of_wp Tryd.func27 rfl trivial ?_ rfl
  simp only [Tryd.ntmps27, List.size_toArray, List.length_cons, List.length_nil, Nat.reduceAdd, Nat.reduceSub, Array.replicate_succ, Array.replicate_zero, List.push_toArray, List.append_toArray, List.nil_append, List.cons_append]
  gi_wp2_with fail
  generalize (W.alloc (.cells #[.int .i64 0, .int .i64 0, .int .u32 0] 30)) = w0 at *
  gi_loopw [4] (fun u wr => ∃ pre : List (List UInt8), Hid (ItS n0 Bs W.heap.size B nb cb b pre W wr) ∧ Hid (J pre wr)) (fun u wr => nb + 8 - szAt W.heap.size wr)
  case atStart => exact ⟨[], S0.out, J0.out⟩
  case round =>
    obtain ⟨pre, hs, hj⟩ := hrel
    have c0 := hs.out.bs.cell 0
    have d0 := hs.out.tb.cell 0
    have d1 := hs.out.tb.cell 1
    have d2 := hs.out.tb.cell 2
    obtain ⟨m, hm⟩ := hs.out.is_
    have hz : sizes pre ≤ nb := by rw [← HBL.out, hm, List.length_append, rowB_length]; omega
    have hnone : nb < sizes pre + 8 → Hid ((tells 0 b).1 = pre) := fun h8 => by
      show _ = _
      rw [hs.out.tl, tells_none (by unfold one; rw [if_pos (by rw [List.length_drop, HBL.out]; omega)]), List.append_nil]
    generalize hZ : sizes pre = Z at *
    have HZ := Lib.hid hZ
    clear hZ hm
    by_cases h8 : nb < Z + 8
    · have hd : decide ((8 : Int) ≤ (nb : Int) - (Z : Int)) = false := by simp; omega
      have hn2 := hnone h8
      clear hnone
      gi_wp2_with fail
      go_end0
      exact ⟨⟨_, rfl⟩, by rw [hn2.out]; exact hj.out⟩
    · clear hnone
      obtain ⟨bb, off, rfl, -⟩ := hs.out.rd.lit (by omega)
      have hz4 : Z + 4 - Z = 4 := by omega
      have hcZ : cb ≠ Z := by omega
      have r4 : Rd wr (some ⟨bb, off + Z, none⟩) 4 (bv ((b.drop Z).take 4)) := by
        have := (hs.out.rd.cut (k := Z) (cap := cb) (by omega) hc1).take (k := 4) (by omega)
        rw [if_neg hcZ, ← bv_drop, ← bv_take] at this
        simpa [Addr.add_lit] using this
      have R4 := Lib.hid r4
      have hdl : (b.drop Z).length = nb - Z := by rw [List.length_drop, HBL.out]
      have hnone : 16384 < num ((b.drop Z).take 4) ∨ nb - Z < 8 + num ((b.drop Z).take 4) → Hid ((tells 0 b).1 = pre) := fun h => by
        show _ = _
        rw [hs.out.tl, HZ.out, tells_none (by unfold one; rw [if_neg (by omega), if_pos (by rw [hdl]; exact h)]), List.append_nil]
      have hnm : num ((b.drop Z).take 4) < 4294967296 := by
        have := num_lt ((b.drop Z).take 4)
        rw [List.length_take, Nat.min_eq_left (by omega)] at this
        omega
      generalize hNN : num ((b.drop Z).take 4) = N at *
      have HNN := Lib.hid hNN
      clear r4 hNN
      gi_wp2_with fail
      refine ⟨trivial, ?_⟩
      refine (callsIn_wide.2 (number_c wr _ 4 _ _ R4.out (by omega))).mono ?_
      rintro e w1 ⟨rfl, rfl⟩
      rw [HNN.out]
      by_cases hg : 16384 < N
      · have hn2 := hnone (.inl hg)
        have hd1 : decide ((16384 : Int) < (N : Int)) = true := by simp; omega
        clear hnone
        gi_wp2_with fail
        refine bodyPost_ret (results_none rfl _ _ _) rfl ?_
        exact ⟨⟨_, rfl⟩, by rw [hn2.out]; exact hj.out⟩
      have hd1 : decide ((16384 : Int) < (N : Int)) = false := by simp; omega
      by_cases hg2 : nb - Z < 8 + N
      · have hn2 := hnone (.inr hg2)
        clear hnone
        have hd2 : decide ((nb : Int) - ((Z : Int) + 8) < (N : Int)) = true := by simp; omega
        gi_wp2_with fail
        refine bodyPost_ret (results_none rfl _ _ _) rfl ?_
        exact ⟨⟨_, rfl⟩, by rw [hn2.out]; exact hj.out⟩
      clear hnone
      have hd2 : decide ((nb : Int) - ((Z : Int) + 8) < (N : Int)) = false := by simp; omega
      have hnn1 : b.take (Z + 0) = b.take Z := rfl
      obtain ⟨p, hp⟩ : ∃ p, (b.drop (Z + 8)).take N = p := ⟨_, rfl⟩
      have hpl : p.length = N := by rw [← hp, List.length_take, List.length_drop, HBL.out]; omega
      have rp : Rd wr (plA (some ⟨bb, off, none⟩) (Z + 8) N) N (bv p) := by
        by_cases h0 : N = 0
        · subst h0
          have : p = [] := List.eq_nil_of_length_eq_zero hpl
          rw [this]
          exact Rd.none_ _ _
        · have := (hs.out.rd.cut (k := Z + 8) (cap := cb) (by omega) hc1).take (k := N) (by omega)
          rw [← bv_drop, ← bv_take, hp] at this
          unfold plA
          rw [if_neg h0]
          by_cases hcb : cb = Z + 8
          · omega
          · rw [if_neg hcb] at this
            simpa [Addr.add_lit] using this
      have RP := Lib.hid rp
      have HP := Lib.hid hp
      have HPL := Lib.hid hpl
      have hone : Hid (one (rowS 0 pre) (b.drop Z) = if be 4 (sumOf (rowS 0 pre) p) = (b.drop (Z + 4)).take 4 then some p else none) := by
        show _ = _
        unfold one
        rw [if_neg (by rw [List.length_drop, HBL.out]; omega), HNN.out, if_neg (by rw [List.length_drop, HBL.out]; omega), List.drop_drop, List.drop_drop, hp]
      have hl4 : Hid (be 4 N = (b.drop Z).take 4) := by
        show _ = _
        rw [← HNN.out]
        exact be_num 4 _ (by rw [List.length_take, List.length_drop, HBL.out]; omega)
      have hpw : plA (some ⟨bb, off, none⟩) (Z + 8) N = if N = 0 then some ⟨bb, off, none⟩ else some ⟨bb, off + (Z + 8), none⟩ := by
        unfold plA
        split <;> rfl
      have hS := rowS_lt 0 pre (by omega)
      clear rp hp hpl hnn1
      rcases Nat.eq_zero_or_pos N with hN0 | hN0
      · subst hN0
        rw [if_pos rfl] at hpw
        rw [hpw] at RP
        clear hpw
        gi_wp2_with fail
        refine ⟨trivial, ?_⟩
        refine (callsIn_wide.2 (chained_c wr pre.length Z (rowS 0 pre) hS _ _ 4 0 _ 0 ((b.drop Z).take 4) p R4.out RP.out (by omega) (by omega) (by have := HC2.out; unfold maxLen at *; omega) (by have := HC2.out; unfold maxLen at *; omega) hs.out.nb_)).mono ?_
        rintro e w2 ⟨rfl, f2⟩
        have hsum : Hid (check (le 4 (rowS 0 pre) ++ (b.drop Z).take 4 ++ p) = sumOf (rowS 0 pre) p) := by
          show _ = _
          rw [← hl4.out, ← HPL.out]; rfl
        rw [hsum.out]
        have hx := sumOf_lt (rowS 0 pre) p
        obtain ⟨x, hX⟩ : ∃ x, sumOf (rowS 0 pre) p = x := ⟨_, rfl⟩
        rw [hX] at hx ⊢
        have HX := Lib.hid hX
        have S2 := Lib.hid (hs.out.fr f2)
        have J2 := Lib.hid (HJ.out _ _ _ hj.out (f2.mono (fun _ _ h => h.elim)))
        clear hX f2 c0 d0 d1 d2
        have c0 := S2.out.bs.cell 0
        gi_wp2_with fail
        have e1 : IntKind.i64.wrap ((Z : Int) + 8 - 4) = (Z : Int) + 4 := by rw [IntWalk.i64_in _ (by omega)]; omega
        have e2 : IntKind.i64.wrap ((Z : Int) + 4) = (Z : Int) + 4 := IntWalk.i64_in _ (by omega)
        have e6 : (Z : Int) + 8 - 4 = (Z : Int) + 4 := by omega
        have e3 : ((Z : Int) + 4).toNat = Z + 4 := by omega
        have e4 : ((Z : Int) + 8).toNat = Z + 8 := by omega
        have e5 : Z + 8 - (Z + 4) = 4 := by omega
        have b1 : (0 : Int) ≤ (Z : Int) + 4 := by omega
        have b2 : (Z : Int) + 4 ≤ (Z : Int) + 8 := by omega
        have b3 : (Z : Int) + 8 ≤ (cb : Int) := by omega
        have b4 : cb ≠ Z + 4 := by omega
        have b5 : ¬ cb - (Z + 4) = 0 := by omega
        have rq : Rd w2 (some ⟨bb, off + (Z + 4), none⟩) 4 (bv ((b.drop (Z + 4)).take 4)) := by
          have := (S2.out.rd.cut (k := Z + 4) (cap := cb) (by omega) hc1).take (k := 4) (by omega)
          rw [if_neg b4, ← bv_drop, ← bv_take] at this
          simpa [Addr.add_lit] using this
        have r5 : Rd (w2.alloc (.cells (bv (be 4 x)).toArray 5)).drew (some ⟨w2.heap.size, 0, none⟩) 4 (bv (be 4 x)) := by
          have := Rd.of_blk (n := 4) (Blk.new w2 5 (bv (be 4 x)).toArray) (by simp [bv_length, be_length])
          have h2 : Rd (w2.alloc (.cells (bv (be 4 x)).toArray 5)) (some ⟨w2.heap.size, 0, none⟩) 4 (bv (be 4 x)) := by simpa [List.take_of_length_le, bv_length, be_length] using this
          exact h2.drew
        have F3 := Lib.hid (((Fr.refl (fun _ => False) w2).alloc (.cells (bv (be 4 x)).toArray 5)).drew)
        have RQ := Lib.hid (rq.far F3.out)
        have R5 := Lib.hid r5
        have S3 := Lib.hid (S2.out.fr F3.out)
        have J3 := Lib.hid (HJ.out _ _ _ J2.out (F3.out.mono (fun _ _ h => h.elim)))
        clear rq r5
        have hone2 : Hid (one (rowS 0 pre) (b.drop Z) = if decide (be 4 x = (b.drop (Z + 4)).take 4) then some p else none) := by
          show _ = _
          rw [hone.out, HX.out]
          simp only [decide_eq_true_eq]
        obtain ⟨same, hsame⟩ : ∃ same, decide (be 4 x = (b.drop (Z + 4)).take 4) = same := ⟨_, rfl⟩
        rw [hsame] at hone2
        have HSAME := Lib.hid hsame
        clear hsame
        refine wpIn_wide.2 ?_
        go_region_held3 (fun w' => w'.cell? ⟨Bs, 0, none⟩ = some (.slice (some ⟨bb, off, none⟩) nb cb))
          (exact (S2.out.bs.fr (by repeat (first | exact Fr.refl _ _ | refine Fr.drew ?_ | refine Fr.alloc ?_ _)) (fp := fun _ => False) (fun h => h)).cell 0)
          (first
            | (go_at_call 23; refine (first_c _ x _ rfl hx).mono ?_; rintro e w3 ⟨rfl, rfl⟩)
            | (go_at_call 29; refine (equal_c _ _ _ 4 4 _ _ _ _ R5.out RQ.out).mono ?_; rintro e w4 ⟨rfl, rfl⟩; rw [HSAME.out]))
        generalize (w2.alloc (.cells (bv (be 4 x)).toArray 5)).drew = w3 at *
        cases same with
        | false =>
          have hn2 : Hid ((tells 0 b).1 = pre) := by
            show _ = _
            rw [S3.out.tl, HZ.out, tells_none (by rw [hone2.out]; rfl), List.append_nil]
          gi_wp2_with fail
          refine bodyPost_ret (results_none rfl _ _ _) rfl ?_
          exact ⟨⟨_, rfl⟩, by rw [hn2.out]; exact J3.out⟩
        | true =>
          have d0 := S3.out.tb.cell 0
          have d1 := S3.out.tb.cell 1
          have d2 := S3.out.tb.cell 2
          rw [HZ.out] at d1
          have hprel : pre.length ≤ 1000000000000 := by
            have h1 := le_sizes pre
            rw [HZ.out] at h1
            omega
          gi_wp2_with fail
          refine ⟨trivial, ?_⟩
          refine (callsIn_wide.2 (after_c w3 pre.length Z (rowS 0 pre) x _ 0 0 (by omega) (by omega) (by omega) (by omega) (by omega))).mono ?_
          rintro e w4 ⟨rfl, f4⟩
          unfold tailV
          have S4 := S3.out.fr f4
          have J4 := Lib.hid (HJ.out _ _ _ J3.out (f4.mono (fun _ _ h => h.elim)))
          have t0 := S4.tb.cell 0
          have t1 := S4.tb.cell 1
          have t2 := S4.tb.cell 2
          have q0 := S4.tb.frozen 0
          have q1 := S4.tb.frozen 1
          have q2 := S4.tb.frozen 2
          rw [HZ.out] at t1
          have HS4 := Lib.hid S4
          have hnx := its_next S4.is_ S4.tl (by rw [HZ.out, hone2.out]; rfl)
          have fset : Fr (fun j => j = W.heap.size) w4 (((w4.setCell ⟨W.heap.size, 0, none⟩ (.int .i64 ((pre.length : Int) + 1))).setCell ⟨W.heap.size, 1, none⟩ (.int .i64 ((Z : Int) + 8))).setCell ⟨W.heap.size, 2, none⟩ (.int .u32 (x : Int))) :=
            (((Fr.refl _ w4).set_ _ _).set_ _ _).set_ _ _
          have J5 := Lib.hid (HJ.out _ _ _ J4.out fset)
          have T5 : Hid (Blk (((w4.setCell ⟨W.heap.size, 0, none⟩ (.int .i64 ((pre.length : Int) + 1))).setCell ⟨W.heap.size, 1, none⟩ (.int .i64 ((Z : Int) + 8))).setCell ⟨W.heap.size, 2, none⟩ (.int .u32 (x : Int))) W.heap.size 30 #[.int .i64 ((pre.length : Int) + 1), .int .i64 ((Z : Int) + 8), .int .u32 (x : Int)]) := by
            have := ((S4.tb.set_ 0 (.int .i64 ((pre.length : Int) + 1))).set_ 1 (.int .i64 ((Z : Int) + 8))).set_ 2 (.int .u32 (x : Int))
            simp at this
            exact this
          have FSET := Lib.hid fset
          obtain ⟨fn, tmps, assign, body, hy, hR⟩ := HY.out pre p _ J5.out hnx.1 hnx.2.1
          rw [HPL.out, HZ.out, HX.out] at hy
          unfold tailV plA at hy
          rw [if_pos rfl, show ((Z : Int) + (8 + ((0 : Nat) : Int))) = (Z : Int) + 8 from by omega] at hy
          have HNX := Lib.hid hnx
          have hR := Lib.hid hR
          clear f4 S4 d0 d1 d2 c0 fset hnx
          gi_wp2_with fail
          refine hR.out.mono ?_
          rintro e w6 ⟨rfl, j6, k6⟩
          have J6 := Lib.hid j6
          have K6 := Lib.hid k6
          clear j6 k6 t0 t1 t2 q0 q1 q2 hy
          gi_wp2_with fail
          have hk0 : ¬ inA (some ⟨bb, off, none⟩) W.heap.size := fun h => by have := HIN.out (by omega) _ h; omega
          have hsz5 := T5.out.lt
          have hbs5 := (HS4.out.bs.fr FSET.out (by omega)).lt
          have S6 : ItS n0 Bs W.heap.size (some ⟨bb, off, none⟩) nb cb b (pre ++ [p]) W w6 :=
            { bs := (HS4.out.bs.fr FSET.out (by omega)).kp (K6.out.2 _ hbs5 (.inr (.inl rfl)))
              tb := by
                have := T5.out.kp (K6.out.2 _ hsz5 (.inr (.inr rfl)))
                have e1 : (((pre ++ [p]).length : Nat) : Int) = (pre.length : Int) + 1 := by simp
                have e2 : ((sizes (pre ++ [p]) : Nat) : Int) = (Z : Int) + 8 := by rw [sizes_append, HZ.out, show sizes [p] = 8 + p.length from by simp [sizes], HPL.out]; omega
                have e3 : rowS 0 (pre ++ [p]) = x := by rw [rowS_append, ← HX.out]; simp [rowS]
                rw [e1, e2, e3]
                exact this
              rd := (HS4.out.rd.fr FSET.out (fun k hk e => hk0 (e ▸ hk))).kp (fun k hk => K6.out.2 k (by have := HIN.out (by omega) k hk; omega) (.inl (HIN.out (by omega) k hk)))
              nb_ := (HS4.out.nb_.fr FSET.out (by omega)).kp (K6.out.2 0 (by omega) (.inl h0))
              is_ := HNX.out.2.2.1
              tl := HNX.out.2.2.2 }
          have hz6 : szAt W.heap.size w6 = Z + (8 + 0) := by
            unfold szAt
            rw [S6.tb.cell 1, List.getElem?_toArray, List.getElem?_cons_succ, List.getElem?_cons_zero]
            simp only
            rw [sizes_append, HZ.out, show sizes [p] = 8 + p.length from by simp [sizes], HPL.out]
            rfl
          have hzr : szAt W.heap.size wr = Z := by
            unfold szAt
            rw [hs.out.tb.cell 1, List.getElem?_toArray, List.getElem?_cons_succ, List.getElem?_cons_zero]
            simp only
            rw [HZ.out]
            rfl
          exact ⟨⟨_, S6, J6.out⟩, by rw [hz6, hzr]; omega⟩
      · rw [if_neg (by omega)] at hpw
        rw [hpw] at RP
        clear hpw
        gi_wp2_with fail
        refine ⟨trivial, ?_⟩
        refine (callsIn_wide.2 (chained_c wr pre.length Z (rowS 0 pre) hS _ _ 4 N _ N ((b.drop Z).take 4) p R4.out RP.out (by omega) (by omega) (by have := HC2.out; unfold maxLen at *; omega) (by have := HC2.out; unfold maxLen at *; omega) hs.out.nb_)).mono ?_
        rintro e w2 ⟨rfl, f2⟩
        have hsum : Hid (check (le 4 (rowS 0 pre) ++ (b.drop Z).take 4 ++ p) = sumOf (rowS 0 pre) p) := by
          show _ = _
          rw [← hl4.out, ← HPL.out]; rfl
        rw [hsum.out]
        have hx := sumOf_lt (rowS 0 pre) p
        obtain ⟨x, hX⟩ : ∃ x, sumOf (rowS 0 pre) p = x := ⟨_, rfl⟩
        rw [hX] at hx ⊢
        have HX := Lib.hid hX
        have S2 := Lib.hid (hs.out.fr f2)
        have J2 := Lib.hid (HJ.out _ _ _ hj.out (f2.mono (fun _ _ h => h.elim)))
        clear hX f2 c0 d0 d1 d2
        have c0 := S2.out.bs.cell 0
        gi_wp2_with fail
        have e1 : IntKind.i64.wrap ((Z : Int) + 8 - 4) = (Z : Int) + 4 := by rw [IntWalk.i64_in _ (by omega)]; omega
        have e2 : IntKind.i64.wrap ((Z : Int) + 4) = (Z : Int) + 4 := IntWalk.i64_in _ (by omega)
        have e6 : (Z : Int) + 8 - 4 = (Z : Int) + 4 := by omega
        have e3 : ((Z : Int) + 4).toNat = Z + 4 := by omega
        have e4 : ((Z : Int) + 8).toNat = Z + 8 := by omega
        have e5 : Z + 8 - (Z + 4) = 4 := by omega
        have b1 : (0 : Int) ≤ (Z : Int) + 4 := by omega
        have b2 : (Z : Int) + 4 ≤ (Z : Int) + 8 := by omega
        have b3 : (Z : Int) + 8 ≤ (cb : Int) := by omega
        have b4 : cb ≠ Z + 4 := by omega
        have b5 : ¬ cb - (Z + 4) = 0 := by omega
        have rq : Rd w2 (some ⟨bb, off + (Z + 4), none⟩) 4 (bv ((b.drop (Z + 4)).take 4)) := by
          have := (S2.out.rd.cut (k := Z + 4) (cap := cb) (by omega) hc1).take (k := 4) (by omega)
          rw [if_neg b4, ← bv_drop, ← bv_take] at this
          simpa [Addr.add_lit] using this
        have r5 : Rd (w2.alloc (.cells (bv (be 4 x)).toArray 5)).drew (some ⟨w2.heap.size, 0, none⟩) 4 (bv (be 4 x)) := by
          have := Rd.of_blk (n := 4) (Blk.new w2 5 (bv (be 4 x)).toArray) (by simp [bv_length, be_length])
          have h2 : Rd (w2.alloc (.cells (bv (be 4 x)).toArray 5)) (some ⟨w2.heap.size, 0, none⟩) 4 (bv (be 4 x)) := by simpa [List.take_of_length_le, bv_length, be_length] using this
          exact h2.drew
        have F3 := Lib.hid (((Fr.refl (fun _ => False) w2).alloc (.cells (bv (be 4 x)).toArray 5)).drew)
        have RQ := Lib.hid (rq.far F3.out)
        have R5 := Lib.hid r5
        have S3 := Lib.hid (S2.out.fr F3.out)
        have J3 := Lib.hid (HJ.out _ _ _ J2.out (F3.out.mono (fun _ _ h => h.elim)))
        clear rq r5
        have hone2 : Hid (one (rowS 0 pre) (b.drop Z) = if decide (be 4 x = (b.drop (Z + 4)).take 4) then some p else none) := by
          show _ = _
          rw [hone.out, HX.out]
          simp only [decide_eq_true_eq]
        obtain ⟨same, hsame⟩ : ∃ same, decide (be 4 x = (b.drop (Z + 4)).take 4) = same := ⟨_, rfl⟩
        rw [hsame] at hone2
        have HSAME := Lib.hid hsame
        clear hsame
        refine wpIn_wide.2 ?_
        go_region_held3 (fun w' => w'.cell? ⟨Bs, 0, none⟩ = some (.slice (some ⟨bb, off, none⟩) nb cb))
          (exact (S2.out.bs.fr (by repeat (first | exact Fr.refl _ _ | refine Fr.drew ?_ | refine Fr.alloc ?_ _)) (fp := fun _ => False) (fun h => h)).cell 0)
          (first
            | (go_at_call 23; refine (first_c _ x _ rfl hx).mono ?_; rintro e w3 ⟨rfl, rfl⟩)
            | (go_at_call 29; refine (equal_c _ _ _ 4 4 _ _ _ _ R5.out RQ.out).mono ?_; rintro e w4 ⟨rfl, rfl⟩; rw [HSAME.out]))
        generalize (w2.alloc (.cells (bv (be 4 x)).toArray 5)).drew = w3 at *
        cases same with
        | false =>
          have hn2 : Hid ((tells 0 b).1 = pre) := by
            show _ = _
            rw [S3.out.tl, HZ.out, tells_none (by rw [hone2.out]; rfl), List.append_nil]
          gi_wp2_with fail
          refine bodyPost_ret (results_none rfl _ _ _) rfl ?_
          exact ⟨⟨_, rfl⟩, by rw [hn2.out]; exact J3.out⟩
        | true =>
          have d0 := S3.out.tb.cell 0
          have d1 := S3.out.tb.cell 1
          have d2 := S3.out.tb.cell 2
          rw [HZ.out] at d1
          have hprel : pre.length ≤ 1000000000000 := by
            have h1 := le_sizes pre
            rw [HZ.out] at h1
            omega
          gi_wp2_with fail
          refine ⟨trivial, ?_⟩
          refine (callsIn_wide.2 (after_c w3 pre.length Z (rowS 0 pre) x _ N N (by omega) (by omega) (by omega) (by omega) (by omega))).mono ?_
          rintro e w4 ⟨rfl, f4⟩
          unfold tailV
          have S4 := S3.out.fr f4
          have J4 := Lib.hid (HJ.out _ _ _ J3.out (f4.mono (fun _ _ h => h.elim)))
          have t0 := S4.tb.cell 0
          have t1 := S4.tb.cell 1
          have t2 := S4.tb.cell 2
          have q0 := S4.tb.frozen 0
          have q1 := S4.tb.frozen 1
          have q2 := S4.tb.frozen 2
          rw [HZ.out] at t1
          have HS4 := Lib.hid S4
          have hnx := its_next S4.is_ S4.tl (by rw [HZ.out, hone2.out]; rfl)
          have fset : Fr (fun j => j = W.heap.size) w4 (((w4.setCell ⟨W.heap.size, 0, none⟩ (.int .i64 ((pre.length : Int) + 1))).setCell ⟨W.heap.size, 1, none⟩ (.int .i64 ((Z : Int) + (8 + (N : Int))))).setCell ⟨W.heap.size, 2, none⟩ (.int .u32 (x : Int))) :=
            (((Fr.refl _ w4).set_ _ _).set_ _ _).set_ _ _
          have J5 := Lib.hid (HJ.out _ _ _ J4.out fset)
          have T5 : Hid (Blk (((w4.setCell ⟨W.heap.size, 0, none⟩ (.int .i64 ((pre.length : Int) + 1))).setCell ⟨W.heap.size, 1, none⟩ (.int .i64 ((Z : Int) + (8 + (N : Int))))).setCell ⟨W.heap.size, 2, none⟩ (.int .u32 (x : Int))) W.heap.size 30 #[.int .i64 ((pre.length : Int) + 1), .int .i64 ((Z : Int) + (8 + (N : Int))), .int .u32 (x : Int)]) := by
            have := ((S4.tb.set_ 0 (.int .i64 ((pre.length : Int) + 1))).set_ 1 (.int .i64 ((Z : Int) + (8 + (N : Int))))).set_ 2 (.int .u32 (x : Int))
            simp at this
            exact this
          have FSET := Lib.hid fset
          obtain ⟨fn, tmps, assign, body, hy, hR⟩ := HY.out pre p _ J5.out hnx.1 hnx.2.1
          rw [HPL.out, HZ.out, HX.out] at hy
          unfold tailV plA at hy
          rw [if_neg (by omega)] at hy
          simp only [Option.map_some] at hy
          have HNX := Lib.hid hnx
          have hR := Lib.hid hR
          clear f4 S4 d0 d1 d2 c0 fset hnx
          gi_wp2_with fail
          refine hR.out.mono ?_
          rintro e w6 ⟨rfl, j6, k6⟩
          have J6 := Lib.hid j6
          have K6 := Lib.hid k6
          clear j6 k6 t0 t1 t2 q0 q1 q2 hy
          gi_wp2_with fail
          have hk0 : ¬ inA (some ⟨bb, off, none⟩) W.heap.size := fun h => by have := HIN.out (by omega) _ h; omega
          have hsz5 := T5.out.lt
          have hbs5 := (HS4.out.bs.fr FSET.out (by omega)).lt
          have S6 : ItS n0 Bs W.heap.size (some ⟨bb, off, none⟩) nb cb b (pre ++ [p]) W w6 :=
            { bs := (HS4.out.bs.fr FSET.out (by omega)).kp (K6.out.2 _ hbs5 (.inr (.inl rfl)))
              tb := by
                have := T5.out.kp (K6.out.2 _ hsz5 (.inr (.inr rfl)))
                have e1 : (((pre ++ [p]).length : Nat) : Int) = (pre.length : Int) + 1 := by simp
                have e2 : ((sizes (pre ++ [p]) : Nat) : Int) = (Z : Int) + (8 + (N : Int)) := by rw [sizes_append, HZ.out, show sizes [p] = 8 + p.length from by simp [sizes], HPL.out]; omega
                have e3 : rowS 0 (pre ++ [p]) = x := by rw [rowS_append, ← HX.out]; simp [rowS]
                rw [e1, e2, e3]
                exact this
              rd := (HS4.out.rd.fr FSET.out (fun k hk e => hk0 (e ▸ hk))).kp (fun k hk => K6.out.2 k (by have := HIN.out (by omega) k hk; omega) (.inl (HIN.out (by omega) k hk)))
              nb_ := (HS4.out.nb_.fr FSET.out (by omega)).kp (K6.out.2 0 (by omega) (.inl h0))
              is_ := HNX.out.2.2.1
              tl := HNX.out.2.2.2 }
          have hz6 : szAt W.heap.size w6 = Z + (8 + N) := by
            unfold szAt
            rw [S6.tb.cell 1, List.getElem?_toArray, List.getElem?_cons_succ, List.getElem?_cons_zero]
            simp only
            rw [sizes_append, HZ.out, show sizes [p] = 8 + p.length from by simp [sizes], HPL.out]
            rfl
          have hzr : szAt W.heap.size wr = Z := by
            unfold szAt
            rw [hs.out.tb.cell 1, List.getElem?_toArray, List.getElem?_cons_succ, List.getElem?_cons_zero]
            simp only
            rw [HZ.out]
            rfl
          exact ⟨⟨_, S6, J6.out⟩, by rw [hz6, hzr]; omega⟩
end Go.Proofs.YtmaajihpkollcaaDoor
