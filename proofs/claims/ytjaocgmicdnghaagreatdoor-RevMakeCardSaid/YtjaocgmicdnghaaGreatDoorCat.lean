/-
  CONTRACTS: slices.Grow of nothing, slices.Concat, bytes.Clone; bytes as strings; rows of bytes.
-/
import Derived.Test.YtjaocgmicdnghaaGreatDoorApp
import Derived.Test.YtjaocgmicdnghaaGreatDoorChecked
import Derived.Lib.AppendZerosOnto
import Derived.Deep.RegionWith
import Derived.Deep.Draws
import Derived.BigQuiet
import Derived.Deep.QuietTactic
import Derived.Laws.BytesString
import Derived.Laws.BytesArg
import Derived.Lib.QuoteBits
import Derived.Deep.RegionHeld3
namespace Go.Proofs.YtjaocgmicdnghaaGreatDoor
set_option linter.unusedSimpArgs false
set_option linter.unusedVariables false
open Go Go.RowKit

theorem u8_info : (Tryz.prog.info? 5).map (fun i => (i.zero, i.size, i.bytes)) = some (some (.int .u8 0), 1, 1) := by kernel_rfl
/-- A new row without elements yet. -/
theorem own_empty (w : World) (base : Nat) (g cap : Nat) (cur : Array Value) (hb : base ≤ g) (h : w.heap[g]? = some (.cells cur 5 (0, 0))) (hc : cur.size = cap) (hm : cap ≤ maxLen) :
    w.ownsRow base 5 1 (.slice (some ⟨g, 0, none⟩) 0 cap) 0 [] :=
  ⟨rfl, .inr ⟨g, cap, cur, rfl, hb, h, Nat.zero_le _, hm, by rw [hc, Nat.mul_one], by simp⟩⟩
set_option maxRecDepth 100000 in
set_option maxHeartbeats 1000000 in
theorem grow_c (w : World) (n : Nat) (hn : n ≤ 140737488355328) :
    Calls Tryz.prog 75 #[.slice none 0 0, .int .i64 (n : Int)] w fun e w' => ∃ v, e = .returned v ∧ w'.ownsRow w.heap.size 5 1 v 0 [] ∧ Fr (fun _ => False) w w' := by
  obtain ⟨i0, hi, hz0, hz1, hz2⟩ := info_parts u8_info
  rcases Nat.eq_zero_or_pos n with h0 | hpos
  · subst h0
    go_enter Tryz.func75, Tryz.ntmps75
    go_wp2_with fail
    go_ret
    exact ⟨_, rfl, World.ownsRow_nil _ _ _ _, Fr.refl _ _⟩
  · have hold : (Builtin.firstCells i0.size 0 (.slice none 0 0)).run Tryz.prog w.drew = .ok #[] w.drew := run_firstCells_none w.drew i0.size 0 0 0
    have hrz : ∀ ty, (Builtin.append_ #[43, 3] ty #[.slice none 0 0, .int .i64 (n : Int)]).run Tryz.prog w =
        .ok (.slice (some ⟨w.heap.size, 0, none⟩) n (grownCap w n 0 5)) (w.drew.alloc (.cells (Builtin.zeroCells (Value.int .u8 0).cells n ++ Builtin.zeroCells (Value.int .u8 0).cells (grownCap w n 0 5 - n)) 5)) := fun ty => by
      have h := Lib.run_append_grow_zeros w 43 3 ty 5 i0 (.int .u8 0) .i64 .i64 Tryz.underlying43 Tryz.underlying3 hi hz0 none 0 0 [] hold n (by omega) (by omega) (by omega) (by omega)
        (by rw [hz2]; omega) (by rw [hz2, Nat.zero_add]; exact growslice_fits (by omega) (by omega))
      simpa using h
    have hG := grownCap_ge w n 0 5
    have hG2 := grownCap_le_maxLen w n 0 5 (by unfold maxLen; omega)
    have hG3 := hG2
    unfold maxLen at hG3
    generalize grownCap w n 0 5 = G at *
    clear hold
    go_enter Tryz.func75, Tryz.ntmps75
    have HRZ := Lib.hid hrz
    clear hrz
    go_wp2_with (at_builtin; refine Lib.wpList_append_run _ rfl _ _ _ _ rfl _ _ rfl rfl _ _ (HRZ.out _) ?_)
    go_ret
    refine ⟨_, rfl, own_empty _ _ _ _ _ (Nat.le_refl _) (heap_alloc_new w.drew _) ?_ hG2, ((Fr.refl _ w).drew).alloc _⟩
    simp [size_zeroCells]
    omega
/-- A slice of rows of bytes. -/
def RdB (w : World) (A : Option Addr) (n : Nat) (ls : List (List UInt8)) : Prop :=
  ls.length = n ∧ (0 < n → ∃ b off, A = some ⟨b, off, none⟩ ∧ ∀ i (h : i < ls.length), ∃ B c, w.cell? ⟨b, off + i, none⟩ = some (.slice B ls[i].length c) ∧ Rd w B ls[i].length (bv ls[i]) ∧ ls[i].length ≤ c ∧ c ≤ maxLen)
theorem RdB.far {w w' : World} {A : Option Addr} {n : Nat} {ls : List (List UInt8)} (h : RdB w A n ls) (hf : Fr (fun _ => False) w w') : RdB w' A n ls := by
  refine ⟨h.1, fun hn => ?_⟩
  obtain ⟨b, off, rfl, hc⟩ := h.2 hn
  refine ⟨b, off, rfl, fun i hi => ?_⟩
  obtain ⟨B, c, h1, h2, h3, h4⟩ := hc i hi
  exact ⟨B, c, by rw [hf.cell (World.block_lt_of_cell? w _ h1) (fun h => h)]; exact h1, h2.far hf, h3, h4⟩
theorem flat_take (ls : List (List UInt8)) (k : Nat) : (ls.take k).flatten.length ≤ ls.flatten.length := by
  have h : ls.flatten = (ls.take k).flatten ++ (ls.drop k).flatten := by rw [← List.flatten_append, List.take_append_drop]
  rw [h, List.length_append]
  omega
theorem flat_succ (ls : List (List UInt8)) (k : Nat) (h : k < ls.length) : (ls.take (k + 1)).flatten = (ls.take k).flatten ++ ls[k] := by
  rw [List.take_succ_eq_append_getElem h, List.flatten_append]
  simp
set_option maxRecDepth 100000 in
set_option maxHeartbeats 2000000 in
theorem concat_c (w : World) (A : Option Addr) (n c : Nat) (ls : List (List UInt8)) (hr : RdB w A n ls) (hn : n ≤ 9223372036854775807) (hl : ls.flatten.length ≤ 140737488355328) :
    Calls Tryz.prog 53 #[.slice A n c] w fun e w' => ∃ v, e = .returned v ∧ w'.ownsRow w.heap.size 5 1 v ls.flatten.length (bv ls.flatten) ∧ Fr (fun _ => False) w w' := by
  have HR := Lib.hid hr
  have HLL := Lib.hid hl
  clear hr hl
  go_enter Tryz.func53, Tryz.ntmps53
  go_wp2_with fail
  go_loop [3, 11] (fun sv iv => ∃ (k s : Nat), k ≤ n ∧ iv = .int .i64 k ∧ sv = .int .i64 (s : Int) ∧ s ≤ 140737488355328 ∧ Hid (s = (ls.take k).flatten.length)) (fun _ iv => n - (intOf iv).toNat)
  case atStart => exact ⟨0, 0, Nat.zero_le _, rfl, rfl, by omega, rfl⟩
  case round =>
    obtain ⟨k, s, hk, rfl, rfl, hs, hst⟩ := hrel
    by_cases hlt : k < n
    · obtain ⟨b, off, rfl, hc⟩ := HR.out.2 (by omega)
      obtain ⟨B, m, c0, r0, hm, hm2⟩ := hc k (by rw [HR.out.1]; exact hlt)
      have hsum : Hid (s + (ls[k]'(by rw [HR.out.1]; exact hlt)).length = (ls.take (k + 1)).flatten.length) := by
        show _ = _
        rw [flat_succ _ _ (by rw [HR.out.1]; exact hlt), List.length_append, ← hst.out]
      have hsb : s + (ls[k]'(by rw [HR.out.1]; exact hlt)).length ≤ 140737488355328 := by
        rw [hsum.out]
        exact Nat.le_trans (flat_take _ _) HLL.out
      generalize (ls[k]'(by rw [HR.out.1]; exact hlt)).length = M at *
      clear hc r0
      go_wp2_with fail
      exact ⟨⟨k + 1, s + M, hlt, by go_num, by go_num, hsb, hsum.out⟩, by simp [intOf]; omega⟩
    · obtain rfl : k = n := by omega
      go_wp2_with fail
      refine (grow_c _ s hs).mono ?_
      rintro e w1 ⟨v1, rfl, o1, f1⟩
      have O1 := Lib.hid o1
      have F1 := Lib.hid f1
      clear o1 f1
      obtain ⟨i0, hi, hz0, hz1, hz2⟩ := info_parts u8_info
      go_wp2_with fail
      go_loopw [6, 27] (fun sv iv wr => ∃ (q : Nat) (aA : Option Addr) (ac L : Nat), q ≤ k ∧ iv = .int .i64 q ∧ sv = .slice aA L ac ∧ Hid (L = (ls.take q).flatten.length) ∧ Hid (wr.ownsRow w.heap.size 5 1 sv L (bv (ls.take q).flatten)) ∧ Hid (Fr (fun _ => False) w wr)) (fun _ iv _ => k - (intOf iv).toNat)
      case atStart =>
        obtain ⟨A1, c1, rfl, _, _⟩ := own_slice O1.out
        exact ⟨0, A1, c1, 0, Nat.zero_le _, rfl, rfl, rfl, O1.out, F1.out⟩
      case round =>
        obtain ⟨q, aA, ac, L, hq, rfl, rfl, hL, ho, hf⟩ := hrel
        by_cases hlt : q < k
        · obtain ⟨b, off, rfl, hc⟩ := (HR.out.far hf.out).2 (by omega)
          obtain ⟨B, m, c0, r0, hm, hm2⟩ := hc q (by rw [HR.out.1]; exact hlt)
          have hsum : Hid (L + (ls[q]'(by rw [HR.out.1]; exact hlt)).length = (ls.take (q + 1)).flatten.length) := by
            show _ = _
            rw [flat_succ _ _ (by rw [HR.out.1]; exact hlt), List.length_append, ← hL.out]
          have hbv : Hid (bv (ls.take (q + 1)).flatten = bv (ls.take q).flatten ++ bv (ls[q]'(by rw [HR.out.1]; exact hlt))) := by
            show _ = _
            rw [flat_succ _ _ (by rw [HR.out.1]; exact hlt), bv_append]
          have hsb : L + (ls[q]'(by rw [HR.out.1]; exact hlt)).length ≤ 140737488355328 := by
            rw [hsum.out]
            exact Nat.le_trans (flat_take _ _) HLL.out
          generalize (ls[q]'(by rw [HR.out.1]; exact hlt)) = l at *
          obtain ⟨M, hM⟩ : ∃ M, l.length = M := ⟨_, rfl⟩
          rw [hM] at c0 r0 hm hsb hsum
          have R0 := Lib.hid r0
          clear hc r0 hM
          go_wp2_with (
            (at_builtin
             refine wpList_app rfl _ _ _ _ rfl w.heap.size 5 i0 _ 1 1 Tryz.underlying43 hi hz0 hz1 hz2 rfl _ L _ rfl ho.out _ M _ rfl (Src.rd Tryz.underlying43 _ R0.out (bv_one _)) (by omega) (by unfold maxLen; omega) hf.out.size ?_
             intro v3 w3 hown3 hf3 hn3
             obtain ⟨A3, c3, rfl, _, _⟩ := own_slice hown3
             have H3 := Lib.hid hown3
             have F3 := Lib.hid (hf.out.trans hf3 (fun i hi hq => by have := (ho.out.lt i hq).1; omega))
             clear hown3 hf3 hn3))
          exact ⟨⟨q + 1, A3, c3, L + M, hlt, by go_num, rfl, hsum.out, by rw [hbv.out]; exact H3.out, F3.out⟩, by simp [intOf]; omega⟩
        · obtain rfl : q = k := by omega
          have he : Hid ((ls.take q) = ls) := List.take_of_length_le (by rw [HR.out.1]; exact Nat.le_refl _)
          go_wp2_with fail
          go_ret
          have h1 := ho.out
          have h2 := hL.out
          rw [he.out] at h1 h2
          exact ⟨_, rfl, by rw [← h2]; exact h1, hf.out⟩
set_option maxHeartbeats 400000 in
/-- A copy in new memory: a row of the call's own. -/
theorem clone_c (w : World) (A : Option Addr) (n c : Nat) (l : List UInt8) (hr : Rd w A n (bv l)) (hb : n ≤ 140737488355328) :
    Calls Tryz.prog 74 #[.slice A n c] w fun e w' => ∃ v, e = .returned v ∧ w'.ownsRow w.heap.size 5 1 v n (bv l) ∧ Fr (fun _ => False) w w' := by
  have hs1 := fun W => Lib.run_eql_slice_nil (P := Tryz.prog) W 43 5 A n c 0 0 Tryz.underlying43
  cases A with
  | none =>
    have hn : n = 0 := by
      rcases Nat.eq_zero_or_pos n with h0 | h0
      · exact h0
      · obtain ⟨ad, he, _⟩ := hr.2 h0
        cases he
    subst hn
    have hl : bv l = [] := List.eq_nil_of_length_eq_zero hr.1
    rw [hl]
    clear hl hr
    go_enter Tryz.func74, Tryz.ntmps74
    go_wp2_with fail
    go_ret
    exact ⟨_, rfl, World.ownsRow_nil _ _ _ _, Fr.refl _ _⟩
  | some ad =>
    obtain ⟨i0, hi, hz0, hz1, hz2⟩ := info_parts u8_info
    have HR := Lib.hid hr
    clear hr
    go_enter Tryz.func74, Tryz.ntmps74
    go_wp2_with (
      (at_builtin
       refine wpList_app rfl (.tmp 5) (.tmp 6) _ _ rfl w.heap.size 5 i0 _ 1 1 Tryz.underlying43 hi hz0 hz1 hz2 rfl _ 0 [] rfl (World.ownsRow_lit w #[] 0 (Nat.le_refl _) (Nat.zero_le _) rfl) _ n (bv l) rfl (Src.rd Tryz.underlying43 c (HR.out.alloc _) (bv_one l)) (by omega) (by unfold maxLen; omega) (by simp) ?_
       intro v1 w1 hown1 hf1 hn1
       have H1 := Lib.hid hown1
       clear hown1))
    go_ret
    refine ⟨v1, rfl, by simpa using H1.out, (((Fr.refl _ w).alloc _).trans hf1 (fun i hi hq => ?_))⟩
    have hq' : Value.ownBlock (.slice (some ⟨w.heap.size, 0, none⟩) 0 0) = some i := hq
    have hq2 : w.heap.size = i := by simpa [Value.ownBlock] using hq'
    omega
def strOf (l : List UInt8) : ByteArray := ⟨l.toArray⟩
theorem conv_str (w : World) (A : Option Addr) (n c : Nat) (l : List UInt8) (h : Rd w A n (bv l)) : (convert 43 9 (.slice A n c)).run Tryz.prog w = .ok (.string (strOf l)) w := by
  rw [run_convert_bytes_string w 43 9 5 A n c Tryz.underlying43 Tryz.underlying5 Tryz.underlying9]
  have hl : l.length = n := by rw [← h.1, bv_length]
  have hbv : bv l = (l.map fun b => (b.toNat : Int)).map (Value.int .u8) := by simp [bv]
  cases A with
  | none =>
    have hn : n = 0 := by
      rcases Nat.eq_zero_or_pos n with h0 | h0
      · exact h0
      · obtain ⟨ad, he, _⟩ := h.2 h0
        cases he
    subst hn
    obtain rfl : l = [] := List.eq_nil_of_length_eq_zero hl
    rfl
  | some ad =>
    have hload : (loadCells ad n).run Tryz.prog w = .ok ((l.map fun b => (b.toNat : Int)).map (Value.int .u8)).toArray w := by
      have := run_loadCells_list (P := Tryz.prog) w ad ((l.map fun b => (b.toNat : Int)).map (Value.int .u8)) (fun j u hj => by
        rw [← hbv] at hj
        have hjl : 0 < n := by
          rcases Nat.eq_zero_or_pos n with h0 | h0
          · subst h0
            obtain rfl : l = [] := List.eq_nil_of_length_eq_zero hl
            simp [bv] at hj
          · exact h0
        obtain ⟨ad', he, hc⟩ := h.2 hjl
        injection he with he
        subst he
        exact hc j u hj)
      simpa [hl] using this
    rw [run_bytesToString w ad n c _ hload, foldl_push_bytes]
    congr 1
    have e : l.map ((fun n : Int => UInt8.ofNat n.toNat) ∘ fun b : UInt8 => (b.toNat : Int)) = l := by
      conv => rhs; rw [← List.map_id l]
      apply List.map_congr_left
      intro b _
      simp
    simp [strOf, ByteArray.empty, ByteArray.emptyWithCapacity]
    exact e
theorem bbeq (Y : ByteArray) : (Y == Y) = true := by
  cases Y with | mk d => show ByteArray.beq _ _ = true; simp [ByteArray.beq]
theorem strOf_toList (l : List UInt8) : (strOf l).toList = l := by simp [strOf]
theorem beq_str (l m : List UInt8) : ((strOf l).toList == (strOf m).toList) = decide (l = m) := by
  rw [strOf_toList, strOf_toList]
  by_cases h : l = m
  · subst h; simp
  · simp [h]
theorem sizeOf_u8 (W : World) : (sizeOf (Tryz.prog.elem 43)).run Tryz.prog W = .ok 1 W := by
  have e : Tryz.prog.elem 43 = 5 := by kernel_rfl
  rw [e]
  simp [go_sem]
/-- l[k:]. -/
theorem cut_from (A : Option Addr) (n c k : Nat) (l : Int) (hl : l = (k : Int)) (hk : k ≤ n) (hn : n ≤ c) :
    ∃ AD, (∀ W xs, Rd W A n xs → Rd W AD (n - k) (xs.drop k)) ∧ (∀ q, inA AD q → inA A q) ∧ ∀ W, (Instr.sliceAt 43 (.slice A n c) (some (.int .i64 l)) none none).run Tryz.prog W = .ok (.slice AD (n - k) (c - k)) W := by
  subst hl
  refine ⟨if c = k then A else A.map (·.add k), fun W xs h => h.cut hk hn, fun q hq => ?_, fun W => ?_⟩
  · split at hq
    · exact hq
    · obtain ⟨ad, he, hb⟩ := hq
      cases A with
      | none => cases he
      | some a => exact ⟨a, rfl, by simp at he; rw [← hb, ← he, block_of_add]⟩
  have ht : Tryz.prog.underlying 43 = some (.slice (Tryz.prog.elem 43)) := by kernel_rfl
  rw [run_sliceAt_slice _ _ _ _ _ _ ht, run_slice_l _ _ _ _ _ ht .i64 (k : Int) (by omega) (by omega), sizeOf_u8]
  simp [sliced, Result.andThen]
end Go.Proofs.YtjaocgmicdnghaaGreatDoor
