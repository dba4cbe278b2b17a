/-
  CONTRACTS of the reference's Reader: sum, off.
-/
import Derived.Test.YtokhebplmldfkaaRef
import Derived.Laws.CopyOwn
import Derived.BigQuiet
import Derived.Deep.QuietTactic
namespace Go.Proofs.Ytokhebplmldfkaa
set_option linter.unusedSimpArgs false
set_option linter.unusedVariables false
open Go Go.RowKit

theorem num_cons_le (l : List UInt8) (h : l.length ≤ 8) : num l < 18446744073709551616 := Nat.lt_of_lt_of_le (num_lt l) (pow256_mono (b := 8) h)

set_option maxHeartbeats 1000000 in
/-- The sum of at most eight bytes. -/
theorem sum_c (w : World) (A : Option Addr) (n c : Nat) (l : List UInt8) (hr : Rd w A n (bv l)) (hn : n ≤ 8) (hc : n ≤ c) (hc2 : c ≤ maxLen) :
    Calls Try.prog 63 #[.slice A n c] w fun e w' => e = .returned (.int .u64 (num l : Int)) ∧ ∃ q, w' = w.drewN q := by
  have hl : l.length = n := by rw [← hr.1, bv_length]
  have HR := Lib.hid hr
  have HL := Lib.hid hl
  clear hr hl
  unfold maxLen at hc2
  go_enter Try.func63, Try.ntmps63
  go_wp2_with fail
  go_loopw [0, 3] (fun sv xv wr => ∃ (k : Nat) (A' : Option Addr) (c' : Nat), k ≤ n ∧ sv = .slice A' (n - k : Nat) c' ∧ xv = .int .u64 (num (l.take k)) ∧ n - k ≤ c' ∧ c' ≤ 9223372036854775807 ∧ Hid (Rd w A' (n - k) (bv (l.drop k))) ∧ Hid (∃ q, wr = w.drewN q)) (fun sv _ _ => match sv with | .slice _ m _ => m | _ => 0)
  case atStart => exact ⟨0, A, c, Nat.zero_le _, rfl, rfl, by omega, hc2, HR.out, 0, rfl⟩
  case round =>
    obtain ⟨k, A', c', hk, rfl, rfl, hc', hc3, hrd, hq⟩ := hrel
    by_cases hlt : k < n
    · obtain ⟨bb, off, rfl, -⟩ := hrd.out.lit (by omega)
      have c0 : wr.cell? ⟨bb, off, none⟩ = (bv (l.drop k))[0]? := by
        obtain ⟨q, e⟩ := hq.out
        rw [e]
        exact hrd.out.cell (k := 0) (by omega)
      rw [bv_get _ _ (by rw [List.length_drop, HL.out]; omega), List.getElem_drop] at c0
      simp only [Nat.add_zero] at c0
      have b0 := (l[k]'(by rw [HL.out]; exact hlt)).toNat_lt
      have b1 := num_lt (l.take k)
      have b2 : num (l.take k) < 72057594037927936 := Nat.lt_of_lt_of_le b1 (by rw [List.length_take]; exact pow256_mono (b := 7) (by omega))
      have hnx : bits .or .u64 ((num (l.take k) : Int) * 256) (((l[k]'(by rw [HL.out]; exact hlt)).toNat : Nat) : Int) = (num (l.take (k + 1)) : Int) := by
        rw [or_byte _ _ b2 (by omega), List.take_succ_eq_append_getElem (by rw [HL.out]; exact hlt), num_snoc]
      have HNX := Lib.hid hnx
      have cut := hrd.out.cut (k := 1) (cap := c') (by omega) hc'
      rw [← bv_drop, List.drop_drop] at cut
      have CUT := Lib.hid cut
      obtain ⟨m, hm⟩ : ∃ m, n - k = m + 1 := ⟨n - k - 1, by omega⟩
      clear b1 hnx cut
      rw [hm] at hc' CUT hrd ⊢
      go_wp2_with fail
      have he : n - (k + 1) = m := by omega
      refine ⟨⟨k + 1, if c' = 1 then some ⟨bb, off, none⟩ else some ⟨bb, off + 1, none⟩, c' - 1, hlt, by rw [he], by rw [HNX.out], by omega, by omega, ?_, hq.out⟩, by simp⟩
      rw [he]
      have h9 : Rd w (if c' = 1 then some ⟨bb, off, none⟩ else some ⟨bb, off + 1, none⟩) m (bv (l.drop (k + 1))) := by
        have := CUT.out
        simpa [Addr.add] using this
      exact h9
    · obtain rfl : k = n := by omega
      go_wp2_with fail
      go_ret
      refine ⟨?_, hq.out⟩
      rw [List.take_of_length_le (by rw [HL.out]; exact Nat.le_refl _)]
      rfl

/-- The reference's Reader lies in block b: the bytes l are left. -/
def Rm (w : World) (b : Nat) (A : Option Addr) (l : List UInt8) (bad : Bool) : Prop :=
  ∃ c, Blk w b 40 #[.slice A l.length c, .bool bad] ∧ Rd w A l.length (bv l) ∧ l.length ≤ c ∧ c ≤ maxLen ∧ ∀ k, inA A k → k ≠ b

theorem Rm.bad_ {w : World} {b : Nat} {A : Option Addr} {l : List UInt8} {bad : Bool} (h : Rm w b A l bad) (x : Bool) : Rm (w.setCell ⟨b, 1, none⟩ (.bool x)) b A l x := by
  obtain ⟨c, h1, h2, h3, h4, h5⟩ := h
  have e := h1.set_ 1 (.bool x)
  exact ⟨c, by simpa using e, h2.fr ((Fr.refl (fun k => k = b) w).setCell (fun _ => rfl) _) (fun k hk => h5 k hk), h3, h4, h5⟩

set_option maxHeartbeats 1000000 in
theorem off_bad (w : World) (b : Nat) (A : Option Addr) (l : List UInt8) (bad right : Bool) (n : Int) (hm0 : -9223372036854775808 ≤ n) (hm1 : n ≤ 9223372036854775807) (h : Rm w b A l bad)
    (hb : bad = true ∨ right = false ∨ n < 0 ∨ (l.length : Int) < n) :
    Calls Try.prog 48 #[.pointer (some ⟨b, 0, none⟩), .int .i64 n, .bool right] w fun e w' => e = .returned (.slice none 0 0) ∧ Rm w' b A l true ∧ Fr (fun k => k = b) w w' := by
  have H := Lib.hid (h.bad_ true)
  have HF := Lib.hid ((Fr.refl (fun k => k = b) w).setCell (p := ⟨b, 1, none⟩) (fun _ => rfl) (.bool true))
  have HB := Lib.hid (h.bad_ true)
  obtain ⟨c, h1, h2, h3, h4, h5⟩ := h
  have c0 := h1.cell 0
  have c1 := h1.cell 1
  have k1 := h1.frozen 1
  obtain ⟨c9, g1, -⟩ := HB.out
  have d1 := g1.cell 1
  clear h1 h2 h5 g1 HB
  have key : (bad = true) ∨ (bad = false ∧ right = false) ∨ (bad = false ∧ right = true ∧ n < 0) ∨ (bad = false ∧ right = true ∧ ¬ n < 0 ∧ (l.length : Int) < n) := by
    cases bad <;> cases right <;> simp_all <;> omega
  rcases key with rfl | ⟨rfl, rfl⟩ | ⟨rfl, rfl, h6⟩ | ⟨rfl, rfl, h6, h7⟩
  all_goals
    clear hb
    go_enter Try.func48, Try.ntmps48
    go_wp2_with fail
    go_ret
    exact ⟨rfl, H.out, HF.out⟩
theorem Rm.fr {w w' : World} {b : Nat} {A : Option Addr} {l : List UInt8} {bad : Bool} {fp : Nat → Prop} (h : Rm w b A l bad) (hf : Fr fp w w') (h1 : ¬ fp b) (h2 : ∀ k, inA A k → ¬ fp k) : Rm w' b A l bad := by
  obtain ⟨c, g1, g2, g3, g4, g5⟩ := h
  exact ⟨c, g1.fr hf h1, g2.fr hf h2, g3, g4, g5⟩

theorem Rm.cut {w : World} {b : Nat} {A : Option Addr} {l : List UInt8} {L c N : Nat} {x : Bool} (h1 : Blk w b 40 #[.slice A L c, .bool x]) (h2 : Rd w A L (bv l)) (hL : l.length = L) (h3 : L ≤ c) (h4 : c ≤ maxLen) (h5 : ∀ k, inA A k → k ≠ b) (hN : N ≤ L)
    (A' : Option Addr) (hA : A' = if c = N then A else A.map (·.add N)) :
    Rm (w.setCell ⟨b, 0, none⟩ (.slice A' (L - N) (c - N))) b A' (l.drop N) x ∧ ∀ k, inA A' k → inA A k := by
  subst hA
  have hin : ∀ k, inA (if c = N then A else A.map (·.add N)) k → inA A k := by
    intro k hk
    split at hk
    · exact hk
    · obtain ⟨ad, he, rfl⟩ := hk
      cases A with
      | none => cases he
      | some a0 =>
        injection he with he
        subst he
        exact ⟨a0, rfl, (block_of_add _ _).symm⟩
  refine ⟨⟨c - N, ?_, ?_, by rw [List.length_drop, hL]; omega, by omega, fun k hk => h5 k (hin k hk)⟩, hin⟩
  · rw [List.length_drop, hL]
    have := h1.set_ 0 (.slice (if c = N then A else A.map (·.add N)) (L - N) (c - N))
    simpa using this
  · rw [List.length_drop, hL, bv_drop]
    exact (h2.cut hN h3).fr ((Fr.refl (fun k => k = b) w).setCell (fun _ => rfl) _) (fun k hk => h5 k (hin k hk))

set_option maxRecDepth 100000 in
set_option maxHeartbeats 1000000 in
theorem off_ok (w : World) (b : Nat) (A : Option Addr) (l : List UInt8) (N : Nat) (n : Int) (hn : n = N) (hpos : 0 < N) (h : Rm w b A l false) (hN : N ≤ l.length) (hl : l.length ≤ 60000) :
    Calls Try.prog 48 #[.pointer (some ⟨b, 0, none⟩), .int .i64 n, .bool true] w fun e w' => ∃ g c', e = .returned (.slice (some ⟨g, 0, none⟩) N c') ∧ Rd w' (some ⟨g, 0, none⟩) N (bv (l.take N)) ∧ N ≤ c' ∧ c' ≤ maxLen ∧ w.heap.size ≤ g ∧ (∃ A'', Rm w' b A'' (l.drop N) false ∧ ∀ k, inA A'' k → inA A k) ∧ Fr (fun k => k = b) w w' := by
  subst hn
  have hb1 := h.bad_ false
  have hlt : b < w.heap.size := by obtain ⟨c, h1, _⟩ := h; exact h1.lt
  have HB := Lib.hid hb1
  have HF := Lib.hid ((Fr.refl (fun k => k = b) w).setCell (p := ⟨b, 1, none⟩) (fun _ => rfl) (.bool false))
  obtain ⟨c, h1, h2, h3, h4, h5⟩ := h
  have c0 := h1.cell 0
  have c1 := h1.cell 1
  have k1 := h1.frozen 1
  obtain ⟨c9, g1, -⟩ := hb1
  have d1 := g1.cell 1
  clear h1 h2 h5 g1
  have q0 : ¬ (N : Int) < 0 := by omega
  have q1 : ¬ (l.length : Int) < (N : Int) := by omega
  generalize hL : l.length = L at *
  have HL := Lib.hid hL
  clear hL
  go_enter Try.func48, Try.ntmps48
  go_wp2_with fail
  generalize hw1 : w.setCell ⟨b, 1, none⟩ (.bool false) = w1 at *
  refine (whole_i w1 0 N _ _ (by omega) (by omega) (by omega)).mono ?_
  rintro e w2 ⟨v2, rfl, o2, f2⟩
  have HZ : ((Try.prog.info? 5).map (·.size)) = some 1 := by kernel_rfl
  rcases o2.2 with ⟨_, hn0⟩ | ⟨g, cap, cur, rfl, hg, hblk, hnc, hcm, hcs, -⟩
  · omega
  have R2 := Lib.hid (HB.out.fr f2 (fun h => h) (fun _ _ h => h))
  have hbl1 : b < w1.heap.size := by obtain ⟨c, h1, _⟩ := HB.out; exact h1.lt
  obtain ⟨c', g1, g2, g3, g4, g5⟩ := R2.out
  rw [HL.out] at g1 g2 g3
  have d0 := g1.cell 0
  have k0 := g1.frozen 0
  have G2 := Lib.hid g2
  have G5 := Lib.hid g5
  have F2 := Lib.hid f2
  have HBL := Lib.hid hblk
  have hbg : b ≠ g := by omega
  have hcl : ((bv l).take N).length = N := by rw [List.length_take, bv_length, HL.out]; omega
  have HCL := Lib.hid hcl
  obtain ⟨ad, rfl, hcell⟩ := g2.2 (by omega)
  have HCE := Lib.hid hcell
  clear o2 f2 g1 g2 g5 hblk c0 c1 k1 d1 hw1 hcl hcell
  have HIN : Hid (∀ k, inA (some ad) k → k < w1.heap.size) := by
    obtain ⟨c1, _, j2, _⟩ := HB.out
    rw [HL.out] at j2
    exact fun k hk => j2.lt (by omega) hk
  have hrun := run_copy_row (P := Try.prog) w2 27 27 3 5 g 0 N cap ad L c' cur 5 ((bv l).take N) Try.underlying27 HZ HBL.out (by rw [HCL.out]; exact (Nat.min_eq_right hN).symm)
    (fun j v hv => by rw [List.getElem?_take] at hv; split at hv; exact HCE.out j v hv; cases hv) (by rw [HCL.out]; omega) (fun v hv => bv_one l v (List.mem_of_mem_take hv))
  have hg3 := setRow_heap w2 g cur (cur.toList.take 0 ++ (bv l).take N ++ cur.toList.drop (0 + ((bv l).take N).length)).toArray 5 (0, 0) HBL.out
  have hb3 := below_setRow (Below.refl w1.heap.size w2) hg (cur.toList.take 0 ++ (bv l).take N ++ cur.toList.drop (0 + ((bv l).take N).length)).toArray
  generalize hw3 : w2.setRow g (cur.toList.take 0 ++ (bv l).take N ++ cur.toList.drop (0 + ((bv l).take N).length)).toArray = w3 at *
  rw [HCL.out] at hrun hg3
  have F3 := Lib.hid (Fr.of_below hb3)
  have G3 := Lib.hid hg3
  have e0 := (F3.out.cell (p := ⟨b, 0, none⟩) (by have := F2.out.size; simp only; omega) (by simp only; omega)).trans d0
  have m0 := (F3.out.frozen (p := ⟨b, 0, none⟩) (by have := F2.out.size; simp only; omega) (by simp only; omega)).trans k0
  clear hb3 hg3 hw3
  have hw3b : Hid (Blk w3 b 40 #[.slice (some ad) L c', .bool false] ∧ Rd w3 (some ad) L (bv l)) := by
    obtain ⟨c1, j1, j2, _⟩ := R2.out
    rw [HL.out] at j1 j2
    have hc1 : c1 = c' := by
      have := (j1.cell 0).symm.trans d0
      simpa using this
    subst hc1
    refine ⟨j1.fr F3.out (by omega), j2.fr F3.out (fun k hk h => ?_)⟩
    have := HIN.out k hk
    omega
  have FF : Hid (Fr (fun k => k = b) w w3) := by
    have f1 : Fr (fun k => k = b) w w2 := HF.out.trans F2.out (fun _ _ h => h.elim)
    exact f1.trans F3.out (fun i hi h => by have := HF.out.size; omega)
  have hrd : Hid (Rd w3 (some ⟨g, 0, none⟩) N (bv (l.take N))) := by
    have r := Rd.of_blk (n := N) G3.out (by simp; have := HCL.out; simp at this; omega)
    rw [show ((cur.toList.take 0 ++ (bv l).take N ++ cur.toList.drop (0 + N)).toArray.toList.take N) = bv (l.take N) from ?_] at r
    · exact r
    · rw [bv_take]
      simp only [List.take_zero, List.nil_append]
      rw [List.take_append_of_le_length (by rw [HCL.out]; exact Nat.le_refl _), List.take_of_length_le (by rw [HCL.out]; exact Nat.le_refl _)]
  have hsz : w.heap.size ≤ g := by have := HF.out.size; omega
  by_cases hcN : c' = N
  · subst hcN
    have RC := Lib.hid (Rm.cut hw3b.out.1 hw3b.out.2 HL.out g3 g4 G5.out hN (some ad) (by rw [if_pos rfl]))
    go_wp2_with fail
    go_ret
    have e9 : Value.slice (some ad) 0 0 = .slice (some ad) (L - c') (c' - c') := by rw [Nat.sub_self, Nat.sub_eq_zero_of_le g3]
    rw [e9]
    exact ⟨g, cap, rfl, hrd.out.fr ((Fr.refl (fun k => k = b) w3).setCell (fun _ => rfl) _) (fun k hk h => by obtain ⟨a0, he, rfl⟩ := hk; injection he with he; subst he; exact hbg h.symm), hnc, hcm, hsz, ⟨_, RC.out⟩, FF.out.setCell (fun _ => rfl) _⟩
  · have RC := Lib.hid (Rm.cut hw3b.out.1 hw3b.out.2 HL.out g3 g4 G5.out hN (some (ad.add N)) (by rw [if_neg hcN]; rfl))
    go_wp2_with fail
    go_ret
    exact ⟨g, cap, rfl, hrd.out.fr ((Fr.refl (fun k => k = b) w3).setCell (fun _ => rfl) _) (fun k hk h => by obtain ⟨a0, he, rfl⟩ := hk; injection he with he; subst he; exact hbg h.symm), hnc, hcm, hsz, ⟨_, RC.out⟩, FF.out.setCell (fun _ => rfl) _⟩
end Go.Proofs.Ytokhebplmldfkaa
