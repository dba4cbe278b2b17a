/-
  CONTRACTS of the reference's 'whole', 'needs', 'Short', 'Four', 'Text'.
-/
import Derived.Test.YtokhebplmldfkaaItem3
import Derived.Deep.OwnRows
namespace Go.Proofs.Ytokhebplmldfkaa
set_option linter.unusedSimpArgs false
set_option linter.unusedVariables false
open Go Go.RowKit

set_option maxHeartbeats 1000000 in
theorem whole_c (w : World) (X N : Nat) (hN : N ≤ 140737488355328) :
    Calls Try.prog 40 #[.int .u64 (X : Int), .int .i64 (N : Int)] w fun e w' => ∃ v', e = .returned v' ∧ w'.ownsRow w.heap.size 5 1 v' N (bv (be N X)) ∧ Fr (fun _ => False) w w' := by
  have hmk := run_make_row' (P := Try.prog) 27 5 _ 1 Try.underlying27 u8_info rfl .i64 .i64 N (by omega) (by omega)
  go_enter Try.func40, Try.ntmps40
  go_wp2_with fail
  clear hmk
  go_loopw [0, 6] (fun xv iv wr => ∃ (t : Nat) (cs : Array Value), t ≤ N ∧ iv = .int .i64 ((N : Int) - 1 - t) ∧ xv = .int .u64 ((X / 256 ^ t : Nat) : Int) ∧ Blk wr w.heap.size 5 cs ∧ cs.size = N ∧ Hid ((cs.toList.take N).drop (N - t) = bv (be t X)) ∧ Fr (fun _ => False) w wr) (fun _ iv _ => (intOf iv + 1).toNat)
  case atStart => exact ⟨0, _, by omega, by simp, by simp, Blk.new _ _ _, size_madeCells _ _, by simp [Hid, be, bv, size_madeCells], (Fr.refl _ _).alloc _⟩
  case round =>
    obtain ⟨t, cs, ht, rfl, rfl, hb, hcs, hl, hfr⟩ := hrel
    by_cases hlt : t < N
    · have c0 := hb.cell (N - 1 - t)
      rw [Array.getElem?_eq_getElem (by omega)] at c0
      have k0 := hb.frozen (N - 1 - t)
      go_wp2
      refine ⟨⟨t + 1, _, hlt, by congr 1; omega, by rw [shift_step], hb.set_ _ _, by simp [hcs], ?_, hfr.setCell (p := ⟨w.heap.size, _, none⟩) (fun h => absurd h (Nat.lt_irrefl _)) _⟩, by simp [intOf]; omega⟩
      rw [stored_drop cs N t hlt (by omega), hl.out, bv_be_step]
      rfl
    · obtain rfl : t = N := by omega
      have hl1 := hl.out
      rw [Nat.sub_self, List.drop_zero] at hl1
      have Hl := Lib.hid hl1
      clear hl hl1
      go_wp2_with fail
      go_ret
      refine ⟨_, rfl, ⟨by rw [bv_length, be_length, Nat.mul_one], .inr ⟨w.heap.size, t, cs, rfl, Nat.le_refl _, hb, Nat.le_refl _, by unfold maxLen; omega, by omega, by rw [Nat.mul_one]; exact Hl.out⟩⟩, hfr⟩

theorem whole_i (w : World) (X N : Nat) (x n : Int) (hx : x = X) (hn : n = N) (hN : N ≤ 140737488355328) :
    Calls Try.prog 40 #[.int .u64 x, .int .i64 n] w fun e w' => ∃ v', e = .returned v' ∧ w'.ownsRow w.heap.size 5 1 v' N (bv (be N X)) ∧ Fr (fun _ => False) w w' := by
  subst hx hn
  exact whole_c w X N hN

theorem need_of (X t : Nat) (h1 : X ≤ 18446744073709551615) (ht : t ≤ 8) (h2 : t = 0 ∨ 256 ^ (t - 1) ≤ X) (h3 : t = 8 ∨ X < 256 ^ t) : t = need X := by
  have : t = 0 ∨ t = 1 ∨ t = 2 ∨ t = 3 ∨ t = 4 ∨ t = 5 ∨ t = 6 ∨ t = 7 ∨ t = 8 := by omega
  unfold need
  rcases this with rfl | rfl | rfl | rfl | rfl | rfl | rfl | rfl | rfl <;> simp at h2 h3 <;> (repeat' split) <;> omega

theorem shift_nat (X t : Nat) : (X : Int) / 2 ^ (8 * t) = ((X / 256 ^ t : Nat) : Int) := by
  rw [Int.natCast_ediv, Int.natCast_pow, Int.pow_mul]
  rfl
theorem shift_lt (X t : Nat) (h : (X : Int) / 2 ^ (8 * t) ≤ 0) : X < 256 ^ t := by
  rw [shift_nat] at h
  generalize hq : X / 256 ^ t = q at h
  obtain rfl : q = 0 := by omega
  exact Nat.lt_of_div_eq_zero (Nat.pow_pos (by omega)) hq
theorem shift_ge (X t : Nat) (h : 0 < (X : Int) / 2 ^ (8 * t)) : 256 ^ t ≤ X := by
  rw [shift_nat] at h
  rcases Nat.lt_or_ge X (256 ^ t) with h1 | h1
  · rw [Nat.div_eq_of_lt h1] at h; simp at h
  · exact h1

set_option maxHeartbeats 1000000 in
theorem needs_c (w : World) (X : Nat) (h1 : X ≤ 18446744073709551615) :
    Calls Try.prog 41 #[.int .u64 (X : Int)] w fun e w' => e = .returned (.int .i64 (need X : Int)) ∧ w = w' := by
  go_enter Try.func41, Try.ntmps41
  go_wp2_with fail
  go_loop [3] (fun i => ∃ t : Nat, t ≤ 8 ∧ i = .int .i64 t ∧ Hid (t = 0 ∨ 256 ^ (t - 1) ≤ X)) (fun i => 8 - (intOf i).toNat)
  case atStart => exact ⟨0, by omega, rfl, .inl rfl⟩
  case round =>
    obtain ⟨t, ht, rfl, hx⟩ := hrel
    by_cases h8 : t = 8
    · have h9 := need_of X t h1 ht hx.out (.inl h8)
      have H9 := Lib.hid h9
      clear h9
      subst h8
      go_wp2_with fail
      go_ret
      exact ⟨by rw [← H9.out]; rfl, rfl⟩
    · by_cases hp : 0 < (X : Int) / 2 ^ (8 * t)
      · have hg := Lib.hid (shift_ge X t hp)
        go_wp2_with fail
        exact ⟨⟨t + 1, by omega, by go_num, .inr hg.out⟩, by simp [intOf]; omega⟩
      · have h9 := need_of X t h1 ht hx.out (.inr (shift_lt X t (by omega)))
        have H9 := Lib.hid h9
        clear h9
        go_wp2_with fail
        go_ret
        exact ⟨by rw [← H9.out]; rfl, rfl⟩

set_option maxRecDepth 100000 in
theorem four_c (w : World) (X : Nat) (hX : X ≤ 4294967295) :
    Calls Try.prog 36 #[.int .u32 (X : Int)] w fun e w' => ∃ v', e = .returned v' ∧ w'.ownsRow w.heap.size 5 1 v' 4 (bv (be 4 X)) ∧ Fr (fun _ => False) w w' := by
  go_enter Try.func36, Try.ntmps36
  go_wp2_with fail
  refine (whole_i w X 4 _ _ (by omega) (by omega) (by omega)).mono ?_
  rintro e w1 ⟨v1, rfl, h1, f1⟩
  have H1 := Lib.hid h1
  clear h1
  go_wp2_with fail
  go_ret
  exact ⟨_, rfl, H1.out, f1⟩

set_option maxRecDepth 100000 in
set_option maxHeartbeats 1000000 in
theorem short_c (w : World) (X : Nat) (h1 : X ≤ 18446744073709551615) :
    Calls Try.prog 16 #[.int .u64 (X : Int)] w fun e w' => ∃ v', e = .returned v' ∧ w'.ownsRow w.heap.size 5 1 v' (size X) (bv (enc X)) ∧ Fr (fun _ => False) w w' := by
  by_cases hs : X < 248
  · go_enter Try.func16, Try.ntmps16
    go_wp2_with fail
    refine (whole_i w X 1 _ _ (by omega) (by omega) (by omega)).mono ?_
    rintro e w1 ⟨v1, rfl, h1, f1⟩
    have H1 := Lib.hid h1
    clear h1
    go_wp2_with fail
    go_ret
    refine ⟨_, rfl, ?_, f1⟩
    have := H1.out
    have hz : size X = 1 := by unfold size; rw [if_pos (by omega)]
    rw [hz, enc_one X hz]
    exact this
  · obtain ⟨i0, hi, hz0, hz1, hz2⟩ := info_parts u8_info
    have hn := need_le X
    go_enter Try.func16, Try.ntmps16
    go_wp2_with fail
    refine (needs_c w X h1).mono ?_
    rintro e w1 ⟨rfl, rfl⟩
    generalize hN : need X = N at *
    have HN := Lib.hid hN
    clear hN
    go_wp2_with fail
    refine (whole_i w (247 + N) 1 _ _ (by omega) (by omega) (by omega)).mono ?_
    rintro e w1 ⟨v1, rfl, h1, f1⟩
    have H1 := Lib.hid h1
    have F1 := Lib.hid f1
    clear h1 f1
    go_wp2_with fail
    refine (whole_i w1 X N _ _ (by omega) (by omega) (by omega)).mono ?_
    rintro e w2 ⟨v2, rfl, h2, f2⟩
    obtain ⟨A1, c1, rfl, _, _⟩ := own_slice H1.out
    obtain ⟨A2, c2, rfl, _, _⟩ := own_slice h2
    have H12 := Lib.hid (own_fr H1.out f2 (fun _ _ h => h))
    have H2 := Lib.hid (Rd.of_own (own_base h2 (base' := 0) (fun _ _ => Nat.zero_le _)))
    have F2 := Lib.hid (F1.out.trans f2 (fun _ _ h => h))
    clear h2 f2
    go_wp2_with (
      (at_builtin
       refine wpList_app rfl _ _ _ _ rfl w.heap.size 5 i0 _ 1 1 Try.underlying27 hi hz0 hz1 hz2 rfl _ 1 _ rfl H12.out _ N _ rfl (Src.rd Try.underlying27 c2 H2.out (bv_one _)) (by omega) (by unfold maxLen; omega) F2.out.size ?_
       intro v3 w3 hown3 hf3 hn3
       have H3 := Lib.hid hown3
       have F3 := Lib.hid hf3
       clear hown3 hf3 hn3))
    go_ret
    refine ⟨v3, rfl, ?_, F2.out.trans F3.out (fun i hi hq => ?_)⟩
    · have := H3.out
      have hz : size X = 1 + N := by unfold size; rw [if_neg (by omega), HN.out]
      rw [hz]
      have he : enc X = be 1 (247 + N) ++ be N X := by unfold enc; rw [if_neg (by omega), HN.out]; simp [be]
      rw [he, bv_append]
      exact this
    · have := (H12.out.lt i hq).1
      omega

set_option maxRecDepth 100000 in
set_option maxHeartbeats 1000000 in
theorem rtext_doc (w : World) (s : ByteArray) (hs : s.size ≤ 32000) :
    Calls Try.prog 37 #[.string s] w fun e w' => ∃ v', e = .returned v' ∧ w'.ownsRow w.heap.size 5 1 v' (size s.size + s.size) (bv (enc s.size ++ sb s)) ∧ Fr (fun _ => False) w w' := by
  obtain ⟨i0, hi, hz0, hz1, hz2⟩ := info_parts u8_info
  have hz := size_le s.size
  have hcv := fun W => Lib.run_convert_string_bytes (P := Try.prog) W 9 27 5 s Try.underlying9 Try.underlying27 Try.underlying5
  go_enter Try.func37, Try.ntmps37
  go_wp2_with fail
  refine (short_c w s.size (by omega)).mono ?_
  rintro e w1 ⟨v1, rfl, h1, f1⟩
  have H1 := Lib.hid h1
  have F1 := Lib.hid f1
  clear h1 f1
  have HF := Lib.hid (conv_fr w1 s)
  have HC := Lib.hid (conv_rd w1 s)
  obtain ⟨A1, c1, rfl, _, _⟩ := own_slice H1.out
  have H12 := Lib.hid (own_fr H1.out HF.out (fun _ _ h => h))
  go_wp2_with (
    (at_builtin
     refine wpList_app rfl _ _ _ _ rfl w.heap.size 5 i0 _ 1 1 Try.underlying27 hi hz0 hz1 hz2 rfl _ (size s.size) _ rfl H12.out _ s.size _ rfl (Src.rd Try.underlying27 _ HC.out (bv_one _)) (by omega) (by unfold maxLen; omega) (F1.out.trans HF.out (fun _ _ h => h)).size ?_
     intro v3 w3 hown3 hf3 hn3
     have H3 := Lib.hid hown3
     have F3 := Lib.hid hf3
     clear hown3 hf3 hn3))
  go_ret
  refine ⟨v3, rfl, ?_, (F1.out.trans HF.out (fun _ _ h => h)).trans F3.out (fun i hi hq => ?_)⟩
  · rw [bv_append]
    exact H3.out
  · have := (H12.out.lt i hq).1
    omega
end Go.Proofs.Ytokhebplmldfkaa
