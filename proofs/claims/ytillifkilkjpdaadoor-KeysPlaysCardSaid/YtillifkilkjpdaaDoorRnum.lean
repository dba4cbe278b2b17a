/-
  CONTRACT of the reference's Number.
-/
import Derived.Test.YtillifkilkjpdaaDoorNum
namespace Go.Proofs.YtillifkilkjpdaaDoor
set_option linter.unusedSimpArgs false
set_option linter.unusedVariables false
open Go Go.RowKit Go.Shelf

/-- k digits of n, the last one last. -/
def digs : Nat → Nat → List UInt8
  | 0, _ => []
  | k + 1, n => digs k (n / 10) ++ [UInt8.ofNat (48 + n % 10)]
theorem digs_length : ∀ k n, (digs k n).length = k
  | 0, _ => rfl
  | k + 1, n => by rw [digs, List.length_append, digs_length]; rfl
theorem rep_snoc (c : Nat) : Lib.repeatL [48] (c + 1) = Lib.repeatL [48] c ++ [48] := by
  induction c with
  | zero => rfl
  | succ c ih =>
    show [48] ++ Lib.repeatL [48] (c + 1) = ([48] ++ Lib.repeatL [48] c) ++ [48]
    rw [ih, List.append_assoc]
theorem digs_zero : ∀ k, digs k 0 = Lib.repeatL [48] k
  | 0 => rfl
  | k + 1 => by rw [digs, digs_zero k, rep_snoc]; rfl
theorem digs_dec : ∀ (k n : Nat), n < 10 ^ (k + 1) → digs (k + 1) n = Lib.repeatL [48] (k + 1 - Lib.nDigits n) ++ Lib.decDigits n
  | 0, n, h => by
    have h' : n < 10 := by simpa using h
    rw [Lib.nDigits_small h', Lib.decDigits, dif_pos h']
    show [] ++ [UInt8.ofNat (48 + n % 10)] = _
    rw [Nat.mod_eq_of_lt h']
    rfl
  | k + 1, n, h => by
    by_cases h' : n < 10
    · rw [Lib.nDigits_small h', Lib.decDigits, dif_pos h', digs, Nat.div_eq_of_lt h', digs_zero, Nat.mod_eq_of_lt h']
      rfl
    · have h2 : n / 10 < 10 ^ (k + 1) := by rw [Nat.div_lt_iff_lt_mul (by decide)]; rw [Nat.pow_succ] at h; exact h
      have hd := nDigits_le k (n / 10) h2
      rw [Lib.decDigits, dif_neg h', Lib.nDigits, dif_neg h', digs, digs_dec k (n / 10) h2, show k + 1 + 1 - (Lib.nDigits (n / 10) + 1) = k + 1 - Lib.nDigits (n / 10) by omega, List.append_assoc]
theorem keyNum_digs (n : Nat) (h : n ≤ 9999999999) : keyNum n = digs 10 n := (digs_dec 9 n (by omega)).symm

theorem conv_str (w : World) (A : Option Addr) (n c : Nat) (l : List UInt8) (h : Rd w A n (bv l)) : (convert 86 9 (.slice A n c)).run Tryd.prog w = .ok (.string (strOf l)) w := by
  rw [run_convert_bytes_string w 86 9 5 A n c Tryd.underlying86 Tryd.underlying5 Tryd.underlying9]
  have hl : l.length = n := by rw [← h.1, bv_length]
  have hbv : bv l = (l.map fun b => (b.toNat : Int)).map (Value.int .u8) := by simp [bv]
  cases A with
  | none =>
    have hn : n = 0 := by
      rcases Nat.eq_zero_or_pos n with h0 | h0
      · exact h0
      · obtain ⟨ad, he, _⟩ := h.2 h0
        cases he
    subst hn
    obtain rfl : l = [] := List.eq_nil_of_length_eq_zero hl
    rfl
  | some ad =>
    have hload : (loadCells ad n).run Tryd.prog w = .ok ((l.map fun b => (b.toNat : Int)).map (Value.int .u8)).toArray w := by
      have := run_loadCells_list (P := Tryd.prog) w ad ((l.map fun b => (b.toNat : Int)).map (Value.int .u8)) (fun j u hj => by
        rw [← hbv] at hj
        have hjl : 0 < n := by
          rcases Nat.eq_zero_or_pos n with h0 | h0
          · subst h0
            obtain rfl : l = [] := List.eq_nil_of_length_eq_zero hl
            simp [bv] at hj
          · exact h0
        obtain ⟨ad', he, hc⟩ := h.2 hjl
        injection he with he
        subst he
        exact hc j u hj)
      simpa [hl] using this
    rw [run_bytesToString w ad n c _ hload, foldl_push_bytes]
    congr 1
    have e : l.map ((fun n : Int => UInt8.ofNat n.toNat) ∘ fun b : UInt8 => (b.toNat : Int)) = l := by
      conv => rhs; rw [← List.map_id l]
      apply List.map_congr_left
      intro b _
      simp
    simp [strOf, ByteArray.empty, ByteArray.emptyWithCapacity]
    exact e

set_option maxRecDepth 100000 in
set_option maxHeartbeats 1000000 in
theorem rnumber_c (w : World) (n : Int) (h0 : -9223372036854775808 ≤ n) (h1 : n ≤ 9223372036854775807) :
    Calls Tryd.prog 23 #[.int .i64 n] w fun e w' => e = .returned (.string (strOf (keyNum (clampN n)))) ∧ Fr (fun _ => False) w w' := by
  obtain ⟨x, hx⟩ : ∃ x, clampN n = x := ⟨_, rfl⟩
  have hxl : x ≤ 9999999999 := by rw [← hx]; unfold clampN; omega
  have HX := Lib.hid hx
  clear hx
  have hcase : (n < 0 ∧ (x : Int) = 0) ∨ (0 ≤ n ∧ 9999999999 < n ∧ (x : Int) = 9999999999) ∨ (0 ≤ n ∧ n ≤ 9999999999 ∧ (x : Int) = n) := by
    have := HX.out
    unfold clampN at this
    omega
  go_enter Tryd.func23, Tryd.ntmps23
  rcases hcase with ⟨c1, c2⟩ | ⟨c1, c2, c3⟩ | ⟨c1, c2, c3⟩
  all_goals
    go_wp2_with fail
    go_loopw [4, 0] (fun iv yv wr => ∃ (j y : Nat) (D : List UInt8), iv = .int .i64 (9 - (j : Int)) ∧ j ≤ 10 ∧ yv = .int .i64 (y : Int) ∧ y ≤ 9999999999 ∧ Hid (D.length = j) ∧ Hid (digs 10 x = digs (10 - j) y ++ D) ∧ Hid (Blk wr w.heap.size 85 (bv (List.replicate (10 - j) (0 : UInt8) ++ D)).toArray) ∧ Hid (Fr (fun _ => False) w wr)) (fun iv _ _ => (intOf iv + 1).toNat)
    case atStart => exact ⟨0, x, [], rfl, by omega, by first | rw [c2] | rw [c3], hxl, rfl, by show _ = _; rw [List.append_nil], Blk.new w _ _, (Fr.refl _ w).alloc _⟩
    case round =>
      obtain ⟨j, y, D, rfl, hj, rfl, hy, hD, hd, hb, hf⟩ := hrel
      by_cases hlt : j < 10
      · have d9 : decide ((0 : Int) ≤ 9 - (j : Int)) = true := decide_eq_true (by omega)
        obtain ⟨i, hi⟩ : ∃ i, 9 - j = i := ⟨_, rfl⟩
        have e9 : (9 : Int) - (j : Int) = (i : Int) := by omega
        rw [e9] at d9 ⊢
        have hi10 : (i : Int) < 10 := by omega
        obtain ⟨r, hr⟩ : ∃ r, y % 10 = r := ⟨_, rfl⟩
        have er : (y : Int) % 10 = (r : Int) := by rw [← hr]; omega
        obtain ⟨y', hy'⟩ : ∃ y', y / 10 = y' := ⟨_, rfl⟩
        have ey : (y : Int) / 10 = (y' : Int) := by rw [← hy']; omega
        have hr10 : r < 10 := by omega
        have hcl := hb.out.lt
        have x1 := hb.out.frozen i
        have x0 : wr.cell? ⟨w.heap.size, i, none⟩ = some (.int .u8 0) := by
          rw [hb.out.cell, List.getElem?_toArray, bv_append, List.getElem?_append_left (by rw [bv_length, List.length_replicate]; omega), bv_get _ _ (by rw [List.length_replicate]; omega)]
          simp
        have HB := Lib.hid hb.out
        have HF := Lib.hid hf.out
        clear hb hf
        go_wp2_with fail
        have e48 : (.int .u8 (48 + (r : Int)) : Value) = .int .u8 ((UInt8.ofNat (48 + r)).toNat : Int) := by
          rw [show (UInt8.ofNat (48 + r)).toNat = 48 + r from by simp [UInt8.toNat_ofNat']; omega]
          push_cast
          rfl
        have hset : (bv (List.replicate (10 - j) (0 : UInt8) ++ D)).toArray.setIfInBounds i (.int .u8 (48 + (r : Int))) = (bv (List.replicate (10 - (j + 1)) (0 : UInt8) ++ (UInt8.ofNat (48 + r) :: D))).toArray := by
          rw [e48, List.setIfInBounds_toArray, show 10 - j = i + 1 by omega, show 10 - (j + 1) = i by omega]
          congr 1
          unfold bv
          rw [List.map_append, List.map_append, List.set_append_left _ _ (by simp), List.map_cons, List.map_replicate, List.map_replicate, List.replicate_succ']
          rw [List.set_append_right _ _ (by simp)]
          simp
        have hb' := HB.out.set_ i (.int .u8 (48 + (r : Int)))
        rw [hset] at hb'
        refine ⟨⟨j + 1, y', UInt8.ofNat (48 + r) :: D, by congr 1; push_cast; omega, by omega, rfl, by omega, by show _ = _; rw [List.length_cons, hD.out], ?_, hb', HF.out.setCell (fun h => absurd h (Nat.lt_irrefl _)) _⟩, by simp only [intOf]; omega⟩
        show _ = _
        rw [hd.out, show 10 - j = (10 - (j + 1)) + 1 by omega, digs, hy', hr, List.append_assoc]
        rfl
      · have d9 : decide ((0 : Int) ≤ 9 - (j : Int)) = false := decide_eq_false (by omega)
        obtain rfl : j = 10 := by omega
        have hD2 : D = digs 10 x := by have := hd.out; rw [show 10 - 10 = 0 from rfl, digs, List.nil_append] at this; exact this.symm
        have hb2 : Blk wr w.heap.size 85 (bv D).toArray := hb.out
        have hDl : D.length = 10 := hD.out
        have hrd : Rd wr (some ⟨w.heap.size, 0, none⟩) 10 (bv D) := by
          have := Rd.of_blk (n := 10) hb2 (by simp [bv_length, hDl])
          rwa [List.take_of_length_le (by simp [bv_length, hDl])] at this
        have hcv := fun c => conv_str wr _ 10 c D hrd
        have HF := Lib.hid hf.out
        have HD2 := Lib.hid hD2
        clear hD2 hb2 hrd hb hf hd hD hDl
        go_wp2_with fail
        go_ret
        refine ⟨?_, HF.out⟩
        rw [HX.out, keyNum_digs x hxl, ← HD2.out]
        rfl
end Go.Proofs.YtillifkilkjpdaaDoor
