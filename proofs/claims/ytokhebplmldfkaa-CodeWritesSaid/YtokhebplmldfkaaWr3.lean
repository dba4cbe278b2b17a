/-
  CONTRACTS of code.Writer: Uint, Text, Put, Bytes; bytes.Clone.
-/
import Derived.Test.YtokhebplmldfkaaWr2
namespace Go.Proofs.Ytokhebplmldfkaa
set_option linter.unusedSimpArgs false
set_option linter.unusedVariables false
open Go Go.RowKit

theorem enc_le (x : Nat) : (enc x).length ≤ 9 := by rw [enc_length]; exact (size_le x).2

theorem wuint_c (w : World) (b : Nat) (v : Value) (l : List UInt8) (x : Int) (h0 : 0 ≤ x) (h1 : x ≤ 18446744073709551615) (h : Wr w b v l) (hb : l.length + 9 ≤ 140737488355328) :
    Calls Try.prog 28 #[.pointer (some ⟨b, 0, none⟩), .int .u64 x] w fun e w' => e = .returned (.tuple #[]) ∧ WStep b v (l ++ enc x.toNat) w w' := by
  refine wuint_any w _ x h0 h1 (fun w' => WStep b v (l ++ enc x.toNat) w w') fun w1 A c hf hr => ?_
  refine (add_c w1 b v l _ A _ c (h.fr hf (fun h => h) (fun _ _ h => h)) hr (by have := enc_le x.toNat; omega)).mono ?_
  rintro e w' ⟨rfl, hs⟩
  exact ⟨rfl, WStep.trans (hf.mono (fun _ _ h => h.elim)) (fun _ h => .inl h) hs⟩
theorem wuint_nil (w : World) (x : Int) (h0 : 0 ≤ x) (h1 : x ≤ 18446744073709551615) :
    Calls Try.prog 28 #[.pointer none, .int .u64 x] w fun e w' => e = .returned (.tuple #[]) ∧ Fr (fun _ => False) w w' := by
  refine wuint_any w _ x h0 h1 (fun w' => Fr (fun _ => False) w w') fun w1 A c hf hr => ?_
  refine (add_nil w1 _).mono ?_
  rintro e w' ⟨rfl, rfl⟩
  exact ⟨rfl, hf⟩

/-- The bytes of a string. -/
def sb (s : ByteArray) : List UInt8 := s.data.toList
theorem sb_length (s : ByteArray) : (sb s).length = s.size := Array.length_toList

/-- []byte(s): a new row. -/
theorem conv_rd (w : World) (s : ByteArray) : Rd (Lib.bytesWorld w 5 s) (some ⟨w.heap.size, 0, none⟩) s.size (bv (sb s)) := by
  refine ⟨by rw [bv_length, sb_length], fun _ => ⟨_, rfl, fun j u hu => ?_⟩⟩
  have hj : j < (sb s).length := by
    rcases Nat.lt_or_ge j (sb s).length with h | h
    · exact h
    · rw [List.getElem?_eq_none (by rw [bv_length]; exact h)] at hu; cases hu
  rw [Addr.add_lit, Nat.zero_add, Lib.bytesWorld_cell w 5 s j (by rw [← sb_length]; exact hj)]
  rw [bv_get _ _ hj] at hu
  rw [← hu, List.getD_eq_getElem?_getD]
  show some (Value.int .u8 ((sb s)[j]?.getD 0).toNat) = _
  rw [List.getElem?_eq_getElem hj]
  rfl
theorem conv_fr (w : World) (s : ByteArray) : Fr (fun _ => False) w (Lib.bytesWorld w 5 s) :=
  ⟨rfl, rfl, rfl, by rw [Lib.bytesWorld_size]; omega, fun k hk _ => Lib.bytesWorld_at_old w _ s k hk⟩

set_option maxHeartbeats 400000 in
theorem wtext_any (w : World) (P : Value) (s : ByteArray) (hs : s.size ≤ maxLen) (R1 : World → Prop) (R : World → Prop)
    (hu : Calls Try.prog 28 #[P, .int .u64 (s.size : Int)] w fun e w' => e = .returned (.tuple #[]) ∧ R1 w')
    (hadd : ∀ (w0 w1 : World) (A : Option Addr) (n c : Nat), R1 w0 → Fr (fun _ => False) w0 w1 → Rd w1 A n (bv (sb s)) → Calls Try.prog 49 #[P, .slice A n c] w1 fun e w' => e = .returned (.tuple #[]) ∧ R w') :
    Calls Try.prog 31 #[P, .string s] w fun e w' => e = .returned (.tuple #[]) ∧ R w' := by
  have Hadd := Lib.hid hadd
  have Hu := Lib.hid hu
  clear hadd hu
  unfold maxLen at hs
  go_enter Try.func31, Try.ntmps31
  go_wp2_with fail
  refine (Hu.out).mono ?_
  rintro e w1 ⟨rfl, hr1⟩
  have HR := Lib.hid hr1
  clear hr1
  have hcv := fun W => Lib.run_convert_string_bytes (P := Try.prog) W 9 27 5 s Try.underlying9 Try.underlying27 Try.underlying5
  go_wp2_with fail
  refine (Hadd.out w1 _ _ _ _ HR.out (conv_fr w1 s) (conv_rd w1 s)).mono ?_
  rintro e w2 ⟨rfl, hr2⟩
  have HR2 := Lib.hid hr2
  clear hr2
  go_wp2_with fail
  go_end0
  exact ⟨rfl, HR2.out⟩

theorem wtext_c (w : World) (b : Nat) (v : Value) (l : List UInt8) (s : ByteArray) (hs : s.size ≤ maxLen) (h : Wr w b v l) (hb : l.length + 9 + s.size ≤ 140737488355328) :
    Calls Try.prog 31 #[.pointer (some ⟨b, 0, none⟩), .string s] w fun e w' => e = .returned (.tuple #[]) ∧ WStep b v (l ++ (enc s.size ++ sb s)) w w' := by
  refine wtext_any w _ s hs (WStep b v (l ++ enc s.size) w) _ ?_ ?_
  · have := wuint_c w b v l (s.size : Int) (by omega) (by omega) h (by omega)
    simpa using this
  · rintro w0 w1 A n c ⟨v0, h0, f0, n0⟩ hf hr
    have hl := enc_le s.size
    refine (add_c w1 b v0 _ (sb s) A n c (h0.fr hf (fun h => h) (fun _ _ h => h)) hr (by rw [List.length_append, sb_length]; omega)).mono ?_
    rintro e w' ⟨rfl, h2⟩
    refine ⟨rfl, ?_⟩
    rw [← List.append_assoc]
    exact WStep.trans f0 n0 (WStep.trans (hf.mono (fun _ _ h => h.elim)) (fun _ h => .inl h) h2)
theorem wtext_nil (w : World) (s : ByteArray) (hs : s.size ≤ maxLen) :
    Calls Try.prog 31 #[.pointer none, .string s] w fun e w' => e = .returned (.tuple #[]) ∧ Fr (fun _ => False) w w' := by
  refine wtext_any w _ s hs (Fr (fun _ => False) w) _ (wuint_nil w _ (by omega) (by unfold maxLen at hs; omega)) ?_
  intro w0 w1 A n c h0 hf hr
  refine (add_nil w1 _).mono ?_
  rintro e w' ⟨rfl, rfl⟩
  exact ⟨rfl, h0.trans hf (fun _ _ h => h)⟩

/-- The encodings of numbers, one behind the other. -/
def encs (l : List Nat) : List UInt8 := (l.map enc).flatten
theorem encs_snoc (l : List Nat) (x : Nat) : encs (l ++ [x]) = encs l ++ enc x := by simp [encs]
theorem encs_length (l : List Nat) : (encs l).length ≤ 9 * l.length := by
  induction l with
  | nil => simp [encs]
  | cons x l ih => have := enc_le x; simp only [encs, List.map_cons, List.flatten_cons, List.length_append, List.length_cons] at ih ⊢; omega

set_option maxHeartbeats 400000 in
theorem wput_c (w : World) (b : Nat) (v : Value) (l : List UInt8) (A : Option Addr) (n c : Nat) (xs : List Nat) (h : Wr w b v l) (hx : ∀ x ∈ xs, x ≤ 18446744073709551615)
    (hr : Rd w A n (xs.map fun x : Nat => Value.int .u64 x)) (hd : 0 < n → ∀ k, inA A k → k ≠ b ∧ v.ownBlock ≠ some k) (hb : l.length + 9 * n + 9 ≤ 140737488355328) :
    Calls Try.prog 26 #[.pointer (some ⟨b, 0, none⟩), .slice A n c] w fun e w' => e = .returned (.tuple #[]) ∧ WStep b v (l ++ encs xs) w w' := by
  have hn : xs.length = n := by have := hr.1; simpa using this
  rcases Nat.eq_zero_or_pos n with h0 | hpos
  · subst h0
    have hxs : xs = [] := List.eq_nil_of_length_eq_zero hn
    subst hxs
    clear hn hx hd
    go_enter Try.func26, Try.ntmps26
    go_wp2_with fail
    go_loop [8] (fun i => i = .int .i64 0) (fun _ => 0)
    case atStart => rfl
    case round =>
      subst hrel
      go_wp2
      go_end0
      exact ⟨rfl, v, by simpa [encs] using h, Fr.refl _ _, fun _ h => .inl h⟩
  obtain ⟨bb, off, rfl, _⟩ := hr.lit hpos
  have HX := Lib.hid hx
  have HD := Lib.hid hd
  have HN := Lib.hid hn
  clear hx hd hn
  have hmax : n ≤ 140737488355328 := by omega
  go_enter Try.func26, Try.ntmps26
  go_wp2_with fail
  go_loopw [8] (fun i wr => ∃ (k : Nat), k ≤ n ∧ i = .int .i64 k ∧ WStep b v (l ++ encs (xs.take k)) w wr) (fun i _ => n - (intOf i).toNat)
  case atStart => exact ⟨0, Nat.zero_le _, rfl, v, by simpa [encs] using h, Fr.refl _ _, fun _ h => .inl h⟩
  case round =>
    obtain ⟨k, hk, rfl, v1, h1, f1, n1⟩ := hrel
    by_cases hlt : k < n
    · have hl := encs_length (xs.take k)
      rw [List.length_take] at hl
      have c0 := (hr.fr f1 (fun j hj e => by have := HD.out hpos j hj; rcases e with e | e <;> simp_all)).cell hlt
      rw [List.getElem?_map, List.getElem?_eq_getElem (by rw [HN.out]; exact hlt)] at c0
      have hx1 := HX.out (xs[k]'(by rw [HN.out]; exact hlt)) (List.getElem_mem _)
      obtain ⟨X, hX⟩ : ∃ X, X = xs[k]'(by rw [HN.out]; exact hlt) := ⟨_, rfl⟩
      rw [← hX] at c0 hx1
      have HXX := Lib.hid hX
      clear hX
      have H1 := Lib.hid h1
      have F1 := Lib.hid f1
      have N1 := Lib.hid n1
      clear h1 f1 n1
      simp only [Option.map_some] at c0
      go_wp2_with fail
      refine (wuint_c _ b v1 _ (X : Int) (by omega) (by omega) H1.out (by rw [List.length_append]; omega)).mono ?_
      rintro e w2 ⟨rfl, h2⟩
      have H2 := Lib.hid h2
      clear h2
      go_wp2_with fail
      refine ⟨⟨k + 1, hlt, by go_num, ?_⟩, by simp [intOf]; omega⟩
      have := WStep.trans F1.out N1.out H2.out
      rw [Int.toNat_natCast, HXX.out, List.append_assoc, ← encs_snoc, ← List.take_succ_eq_append_getElem] at this
      exact this
    · obtain rfl : k = n := by omega
      go_wp2
      go_end0
      rw [List.take_of_length_le (by rw [HN.out]; exact Nat.le_refl _)] at h1
      exact ⟨rfl, v1, h1, f1, n1⟩
end Go.Proofs.Ytokhebplmldfkaa
