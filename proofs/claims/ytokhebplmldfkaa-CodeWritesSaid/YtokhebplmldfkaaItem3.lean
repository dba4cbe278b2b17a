/-
  CONTRACTS: 'write' of the laws of layer 2: what an item's bytes are, and what is read of them again.
-/
import Derived.Test.YtokhebplmldfkaaItem2
namespace Go.Proofs.Ytokhebplmldfkaa
set_option linter.unusedSimpArgs false
set_option linter.unusedVariables false
open Go Go.RowKit

/-- The bytes of an item. -/
def encItem (t : It) : List UInt8 :=
  if t.kind % 5 = 0 then [by8 (t.x % 256)]
  else if t.kind % 5 = 1 then be 4 (t.x % 4294967296)
  else if t.kind % 5 = 2 then enc t.x
  else if t.kind % 5 = 3 then enc t.s.size ++ sb t.s
  else sb t.s
theorem encItem_le (t : It) : (encItem t).length ≤ 9 + t.s.size := by
  have h1 := enc_le t.x
  have h2 := enc_le t.s.size
  unfold encItem
  split
  · simp; omega
  split
  · rw [be_length]; omega
  split
  · omega
  split
  · rw [List.length_append, sb_length]; omega
  · rw [sb_length]; omega

/-- What is read of it. -/
def itemGives (t : It) : Nat × List UInt8 :=
  if t.kind % 5 = 0 then (t.x % 256, [])
  else if t.kind % 5 = 1 then (t.x % 4294967296, [])
  else if t.kind % 5 = 2 then (t.x, [])
  else (0, sb t.s)
def It.self (t : It) : It := { t with most := (t.s.size : Int) }
theorem rdFix_be (n x : Nat) (h : x < 256 ^ n) (r : List UInt8) : rdFix n (be n x ++ r) = some (x, n) := by
  unfold rdFix
  rw [if_pos (by rw [List.length_append, be_length]; omega), List.take_append_of_le_length (by rw [be_length]; exact Nat.le_refl _), List.take_of_length_le (by rw [be_length]; exact Nat.le_refl _), num_be, Nat.mod_eq_of_lt h]
theorem rdText_enc (s : List UInt8) (hs : s.length < 18446744073709551616) (r : List UInt8) : rdText (s.length : Int) ((enc s.length ++ s) ++ r) = some (s, size s.length + s.length) := by
  unfold rdText
  rw [List.append_assoc, rdNum_enc _ hs]
  simp only
  rw [if_neg (by omega), List.drop_append_of_le_length (by rw [enc_length]; exact Nat.le_refl _), List.drop_of_length_le (by rw [enc_length]; exact Nat.le_refl _), List.nil_append, if_pos (by rw [List.length_append]; omega), List.take_append_of_le_length (Nat.le_refl _), List.take_of_length_le (Nat.le_refl _)]
theorem rdRaw_self (s r : List UInt8) : rdRaw (s.length : Int) (s ++ r) = some (s, s.length) := by
  unfold rdRaw
  rw [if_neg (by omega), Int.toNat_natCast, if_pos (by rw [List.length_append]; omega), List.take_append_of_le_length (Nat.le_refl _), List.take_of_length_le (Nat.le_refl _)]
theorem rdItem_enc (t : It) (ht : t.Ok) (r : List UInt8) : rdItem t.self (encItem t ++ r) = some (itemGives t, (encItem t).length) := by
  have hx := ht.x1
  have hs := ht.s1
  unfold maxLen at hs
  have hl := sb_length t.s
  unfold rdItem encItem itemGives It.self
  simp only
  by_cases h0 : t.kind % 5 = 0
  · simp only [if_pos h0]
    have := rdFix_be 1 (t.x % 256) (by omega) r
    simp only [be, Nat.pow_zero, Nat.div_one, List.nil_append] at this
    rw [this]
    rfl
  by_cases h1 : t.kind % 5 = 1
  · simp only [if_neg h0, if_pos h1]
    rw [rdFix_be 4 (t.x % 4294967296) (by omega) r, be_length]
    rfl
  by_cases h2 : t.kind % 5 = 2
  · simp only [if_neg h0, if_neg h1, if_pos h2]
    rw [rdNum_enc _ (by omega), enc_length]
    rfl
  by_cases h3 : t.kind % 5 = 3
  · simp only [if_neg h0, if_neg h1, if_neg h2, if_pos h3]
    rw [← hl, rdText_enc _ (by omega), List.length_append, enc_length]
    rfl
  · simp only [if_neg h0, if_neg h1, if_neg h2, if_neg h3]
    rw [← hl, rdRaw_self]
    rfl
theorem rdNum_more {m : List UInt8} {x n : Nat} (h : rdNum m = some (x, n)) (r : List UInt8) : rdNum (m ++ r) = some (x, n) := by
  obtain ⟨h1, h2, h3, h4⟩ := rdNum_some h
  rw [← List.take_append_drop n m, h2, List.append_assoc, rdNum_enc _ h4, h3]
theorem rdNum_cut (x : Nat) (hx : x < 18446744073709551616) (c : Nat) (hc : c < size x) : rdNum ((enc x).take c) = none := by
  cases h : rdNum ((enc x).take c) with
  | none => rfl
  | some p =>
    obtain ⟨y, n⟩ := p
    have h1 := rdNum_more h ((enc x).drop c)
    rw [List.take_append_drop] at h1
    have h2 := rdNum_enc x hx []
    rw [List.append_nil, h1] at h2
    injection h2 with h2
    injection h2 with h3 h4
    have := (rdNum_some h).1
    rw [List.length_take] at this
    omega
theorem rdItem_cut (t : It) (ht : t.Ok) (r : List UInt8) (c : Nat) (hc : c < (encItem t).length) : rdItem t.self ((encItem t ++ r).take c) = none := by
  have hx := ht.x1
  have hs := ht.s1
  unfold maxLen at hs
  have hl := sb_length t.s
  rw [List.take_append_of_le_length (Nat.le_of_lt hc)]
  have hcl : ((encItem t).take c).length = c := by rw [List.length_take]; omega
  unfold rdItem It.self
  simp only
  by_cases h0 : t.kind % 5 = 0
  · rw [if_pos h0]
    have : (encItem t).length = 1 := by unfold encItem; rw [if_pos h0]; rfl
    unfold rdFix
    rw [if_neg (by omega)]
    rfl
  by_cases h1 : t.kind % 5 = 1
  · rw [if_neg h0, if_pos h1]
    have : (encItem t).length = 4 := by unfold encItem; rw [if_neg h0, if_pos h1, be_length]
    unfold rdFix
    rw [if_neg (by omega)]
    rfl
  by_cases h2 : t.kind % 5 = 2
  · rw [if_neg h0, if_neg h1, if_pos h2]
    have he : encItem t = enc t.x := by unfold encItem; rw [if_neg h0, if_neg h1, if_pos h2]
    rw [he, enc_length] at hc
    rw [he, rdNum_cut _ (by omega) _ hc]
    rfl
  by_cases h3 : t.kind % 5 = 3
  · rw [if_neg h0, if_neg h1, if_neg h2, if_pos h3]
    have he : encItem t = enc t.s.size ++ sb t.s := by unfold encItem; rw [if_neg h0, if_neg h1, if_neg h2, if_pos h3]
    rw [he, List.length_append, enc_length, hl] at hc
    rw [he]
    unfold rdText
    by_cases hb : c < size t.s.size
    · rw [List.take_append_of_le_length (by rw [enc_length]; omega), rdNum_cut _ (by omega) _ hb]
      rfl
    · rw [List.take_append, List.take_of_length_le (by rw [enc_length]; omega), rdNum_enc _ (by omega)]
      simp only
      rw [if_neg (by omega), List.drop_append_of_le_length (by rw [enc_length]; exact Nat.le_refl _), List.drop_of_length_le (by rw [enc_length]; exact Nat.le_refl _), List.nil_append, if_neg (by rw [List.length_take, enc_length]; omega)]
      rfl
  · rw [if_neg h0, if_neg h1, if_neg h2, if_neg h3]
    have he : encItem t = sb t.s := by unfold encItem; rw [if_neg h0, if_neg h1, if_neg h2, if_neg h3]
    rw [he, hl] at hc
    unfold rdRaw
    rw [if_neg (by omega), if_neg (by omega)]
    rfl

set_option maxHeartbeats 2000000 in
theorem write_c (w : World) (b : Nat) (v : Value) (l : List UInt8) (t : It) (ht : t.Ok) (h : Wr w b v l) (hb : l.length + 9 + t.s.size ≤ 140737488355328) :
    Calls Try.prog 12 #[.pointer (some ⟨b, 0, none⟩), t.val] w fun e w' => e = .returned (.tuple #[]) ∧ WStep b v (l ++ encItem t) w w' := by
  obtain ⟨k, m, x, s⟩ := t
  have hk : k % 5 = 0 ∨ k % 5 = 1 ∨ k % 5 = 2 ∨ k % 5 = 3 ∨ k % 5 = 4 := by omega
  have hx := ht.x1
  have hs := ht.s1
  simp only at hx hs hb
  have HT := Lib.hid ht
  have H := Lib.hid h
  clear ht h
  have kc : ∀ W, Calls Try.prog 25 #[.agg #[.int .i64 k, .int .i64 m, .int .u64 (x : Int), .string s]] W fun e w' => e = .returned (.int .i64 (k % 5)) ∧ Fr (fun _ => False) W w' := fun W => kind_c W ⟨k, m, x, s⟩ HT.out
  have KC := Lib.hid kc
  clear kc
  have hz : (((x : Int) % 256).toNat) = x % 256 := by omega
  have hz4 : (((x : Int) % 4294967296).toNat) = x % 4294967296 := by omega
  have HZ := Lib.hid hz
  have HZ4 := Lib.hid hz4
  clear hz hz4
  unfold It.val encItem
  simp only
  rcases hk with hk | hk | hk | hk | hk
  · have HK := Lib.hid hk
    rw [if_pos hk]
    clear hk
    go_enter Try.func12, Try.ntmps12
    go_wp2_with fail
    refine (KC.out _).mono ?_
    rintro e w1 ⟨rfl, f1⟩
    rw [HK.out]
    have hk9 := (Blk.new w 31 #[.int .i64 k, .int .i64 m, .int .u64 (x : Int), .string s]).fr f1 (fun h => h)
    have c2 := hk9.cell 2
    have c3 := hk9.cell 3
    have F1 := Lib.hid (((Fr.refl (fun _ => False) w).alloc (.cells #[.int .i64 k, .int .i64 m, .int .u64 (x : Int), .string s] 31)).trans f1 (fun _ _ h => h))
    clear f1 hk9
    go_wp2_with fail
    refine (wu8_c w1 b v l ((x : Int) % 256) (by omega) (by omega) (H.out.fr F1.out (fun h => h) (fun _ _ h => h)) (by omega)).mono ?_
    rintro e w2 ⟨rfl, h2⟩
    rw [HZ.out] at h2
    have H2 := Lib.hid (WStep.trans (F1.out.mono (fun _ _ h => h.elim)) (fun _ h => .inl h) h2)
    clear h2
    go_wp2_with fail
    go_end0
    exact ⟨rfl, H2.out⟩
  · have HK := Lib.hid hk
    rw [if_neg (by omega), if_pos hk]
    clear hk
    go_enter Try.func12, Try.ntmps12
    go_wp2_with fail
    refine (KC.out _).mono ?_
    rintro e w1 ⟨rfl, f1⟩
    rw [HK.out]
    have hk9 := (Blk.new w 31 #[.int .i64 k, .int .i64 m, .int .u64 (x : Int), .string s]).fr f1 (fun h => h)
    have c2 := hk9.cell 2
    have c3 := hk9.cell 3
    have F1 := Lib.hid (((Fr.refl (fun _ => False) w).alloc (.cells #[.int .i64 k, .int .i64 m, .int .u64 (x : Int), .string s] 31)).trans f1 (fun _ _ h => h))
    clear f1 hk9
    go_wp2_with fail
    refine (wu32_c w1 b v l ((x : Int) % 4294967296) (by omega) (by omega) (H.out.fr F1.out (fun h => h) (fun _ _ h => h)) (by omega)).mono ?_
    rintro e w2 ⟨rfl, h2⟩
    rw [HZ4.out] at h2
    have H2 := Lib.hid (WStep.trans (F1.out.mono (fun _ _ h => h.elim)) (fun _ h => .inl h) h2)
    clear h2
    go_wp2_with fail
    go_end0
    exact ⟨rfl, H2.out⟩
  · have HK := Lib.hid hk
    rw [if_neg (by omega), if_neg (by omega), if_pos hk]
    clear hk
    go_enter Try.func12, Try.ntmps12
    go_wp2_with fail
    refine (KC.out _).mono ?_
    rintro e w1 ⟨rfl, f1⟩
    rw [HK.out]
    have hk9 := (Blk.new w 31 #[.int .i64 k, .int .i64 m, .int .u64 (x : Int), .string s]).fr f1 (fun h => h)
    have c2 := hk9.cell 2
    have c3 := hk9.cell 3
    have F1 := Lib.hid (((Fr.refl (fun _ => False) w).alloc (.cells #[.int .i64 k, .int .i64 m, .int .u64 (x : Int), .string s] 31)).trans f1 (fun _ _ h => h))
    clear f1 hk9
    go_wp2_with fail
    refine (wuint_c w1 b v l (x : Int) (by omega) (by omega) (H.out.fr F1.out (fun h => h) (fun _ _ h => h)) (by omega)).mono ?_
    rintro e w2 ⟨rfl, h2⟩
    rw [Int.toNat_natCast] at h2
    have H2 := Lib.hid (WStep.trans (F1.out.mono (fun _ _ h => h.elim)) (fun _ h => .inl h) h2)
    clear h2
    go_wp2_with fail
    go_end0
    exact ⟨rfl, H2.out⟩
  · have HK := Lib.hid hk
    rw [if_neg (by omega), if_neg (by omega), if_neg (by omega), if_pos hk]
    clear hk
    go_enter Try.func12, Try.ntmps12
    go_wp2_with fail
    refine (KC.out _).mono ?_
    rintro e w1 ⟨rfl, f1⟩
    rw [HK.out]
    have hk9 := (Blk.new w 31 #[.int .i64 k, .int .i64 m, .int .u64 (x : Int), .string s]).fr f1 (fun h => h)
    have c2 := hk9.cell 2
    have c3 := hk9.cell 3
    have F1 := Lib.hid (((Fr.refl (fun _ => False) w).alloc (.cells #[.int .i64 k, .int .i64 m, .int .u64 (x : Int), .string s] 31)).trans f1 (fun _ _ h => h))
    clear f1 hk9
    go_wp2_with fail
    refine (wtext_c w1 b v l s hs (H.out.fr F1.out (fun h => h) (fun _ _ h => h)) (by omega)).mono ?_
    rintro e w2 ⟨rfl, h2⟩
    have H2 := Lib.hid (WStep.trans (F1.out.mono (fun _ _ h => h.elim)) (fun _ h => .inl h) h2)
    clear h2
    go_wp2_with fail
    go_end0
    exact ⟨rfl, H2.out⟩
  · have HK := Lib.hid hk
    rw [if_neg (by omega), if_neg (by omega), if_neg (by omega), if_neg (by omega)]
    clear hk
    go_enter Try.func12, Try.ntmps12
    go_wp2_with fail
    refine (KC.out _).mono ?_
    rintro e w1 ⟨rfl, f1⟩
    rw [HK.out]
    have hk9 := (Blk.new w 31 #[.int .i64 k, .int .i64 m, .int .u64 (x : Int), .string s]).fr f1 (fun h => h)
    have c2 := hk9.cell 2
    have c3 := hk9.cell 3
    have F1 := Lib.hid (((Fr.refl (fun _ => False) w).alloc (.cells #[.int .i64 k, .int .i64 m, .int .u64 (x : Int), .string s] 31)).trans f1 (fun _ _ h => h))
    clear f1 hk9
    have hcv := fun W => Lib.run_convert_string_bytes (P := Try.prog) W 9 27 5 s Try.underlying9 Try.underlying27 Try.underlying5
    go_wp2_with fail
    refine (wraw_c _ b v l (sb s) _ _ _ ((H.out.fr F1.out (fun h => h) (fun _ _ h => h)).fr (conv_fr w1 s) (fun h => h) (fun _ _ h => h)) (conv_rd w1 s) (by rw [sb_length]; omega)).mono ?_
    rintro e w2 ⟨rfl, h2⟩
    have h2 := WStep.trans ((conv_fr w1 s).mono (fun _ _ h => h.elim)) (fun _ h => .inl h) h2
    have H2 := Lib.hid (WStep.trans (F1.out.mono (fun _ _ h => h.elim)) (fun _ h => .inl h) h2)
    clear h2
    go_wp2_with fail
    go_end0
    exact ⟨rfl, H2.out⟩
end Go.Proofs.Ytokhebplmldfkaa
