/-
  CONTRACTS: 'write' of the laws of layer 2 into nobody's Writer; 'bytes'.
-/
import Derived.Test.YtokhebplmldfkaaRef
namespace Go.Proofs.Ytokhebplmldfkaa
set_option linter.unusedSimpArgs false
set_option linter.unusedVariables false
open Go Go.RowKit

set_option maxRecDepth 100000 in
set_option maxHeartbeats 2000000 in
theorem write_nil (w : World) (t : It) (ht : t.Ok) :
    Calls Try.prog 12 #[.pointer none, t.val] w fun e w' => e = .returned (.tuple #[]) ∧ Fr (fun _ => False) w w' := by
  obtain ⟨k, m, x, s⟩ := t
  have hk : k % 5 = 0 ∨ k % 5 = 1 ∨ k % 5 = 2 ∨ k % 5 = 3 ∨ k % 5 = 4 := by omega
  have hx := ht.x1
  have hs := ht.s1
  simp only at hx hs
  have HT := Lib.hid ht
  clear ht
  have kc : ∀ W, Calls Try.prog 25 #[.agg #[.int .i64 k, .int .i64 m, .int .u64 (x : Int), .string s]] W fun e w' => e = .returned (.int .i64 (k % 5)) ∧ Fr (fun _ => False) W w' := fun W => kind_c W ⟨k, m, x, s⟩ HT.out
  have KC := Lib.hid kc
  clear kc
  unfold It.val 
  simp only
  rcases hk with hk | hk | hk | hk | hk
  · have HK := Lib.hid hk
    clear hk
    go_enter Try.func12, Try.ntmps12
    go_wp2_with fail
    refine (KC.out _).mono ?_
    rintro e w1 ⟨rfl, f1⟩
    rw [HK.out]
    have hk9 := (Blk.new w 31 #[.int .i64 k, .int .i64 m, .int .u64 (x : Int), .string s]).fr f1 (fun h => h)
    have c2 := hk9.cell 2
    have c3 := hk9.cell 3
    have F1 := Lib.hid (((Fr.refl (fun _ => False) w).alloc (.cells #[.int .i64 k, .int .i64 m, .int .u64 (x : Int), .string s] 31)).trans f1 (fun _ _ h => h))
    clear f1 hk9
    go_wp2_with fail
    refine (wu8_nil w1 ((x : Int) % 256)).mono ?_
    rintro e w2 ⟨rfl, f2⟩
    have F2 := Lib.hid (F1.out.trans f2 (fun _ _ h => h))
    clear f2
    go_wp2_with fail
    go_end0
    exact ⟨rfl, F2.out⟩
  · have HK := Lib.hid hk
    clear hk
    go_enter Try.func12, Try.ntmps12
    go_wp2_with fail
    refine (KC.out _).mono ?_
    rintro e w1 ⟨rfl, f1⟩
    rw [HK.out]
    have hk9 := (Blk.new w 31 #[.int .i64 k, .int .i64 m, .int .u64 (x : Int), .string s]).fr f1 (fun h => h)
    have c2 := hk9.cell 2
    have c3 := hk9.cell 3
    have F1 := Lib.hid (((Fr.refl (fun _ => False) w).alloc (.cells #[.int .i64 k, .int .i64 m, .int .u64 (x : Int), .string s] 31)).trans f1 (fun _ _ h => h))
    clear f1 hk9
    go_wp2_with fail
    refine (wu32_nil w1 ((x : Int) % 4294967296) (by omega) (by omega)).mono ?_
    rintro e w2 ⟨rfl, f2⟩
    have F2 := Lib.hid (F1.out.trans f2 (fun _ _ h => h))
    clear f2
    go_wp2_with fail
    go_end0
    exact ⟨rfl, F2.out⟩
  · have HK := Lib.hid hk
    clear hk
    go_enter Try.func12, Try.ntmps12
    go_wp2_with fail
    refine (KC.out _).mono ?_
    rintro e w1 ⟨rfl, f1⟩
    rw [HK.out]
    have hk9 := (Blk.new w 31 #[.int .i64 k, .int .i64 m, .int .u64 (x : Int), .string s]).fr f1 (fun h => h)
    have c2 := hk9.cell 2
    have c3 := hk9.cell 3
    have F1 := Lib.hid (((Fr.refl (fun _ => False) w).alloc (.cells #[.int .i64 k, .int .i64 m, .int .u64 (x : Int), .string s] 31)).trans f1 (fun _ _ h => h))
    clear f1 hk9
    go_wp2_with fail
    refine (wuint_nil w1 (x : Int) (by omega) (by omega)).mono ?_
    rintro e w2 ⟨rfl, f2⟩
    have F2 := Lib.hid (F1.out.trans f2 (fun _ _ h => h))
    clear f2
    go_wp2_with fail
    go_end0
    exact ⟨rfl, F2.out⟩
  · have HK := Lib.hid hk
    clear hk
    go_enter Try.func12, Try.ntmps12
    go_wp2_with fail
    refine (KC.out _).mono ?_
    rintro e w1 ⟨rfl, f1⟩
    rw [HK.out]
    have hk9 := (Blk.new w 31 #[.int .i64 k, .int .i64 m, .int .u64 (x : Int), .string s]).fr f1 (fun h => h)
    have c2 := hk9.cell 2
    have c3 := hk9.cell 3
    have F1 := Lib.hid (((Fr.refl (fun _ => False) w).alloc (.cells #[.int .i64 k, .int .i64 m, .int .u64 (x : Int), .string s] 31)).trans f1 (fun _ _ h => h))
    clear f1 hk9
    go_wp2_with fail
    refine (wtext_nil w1 s hs).mono ?_
    rintro e w2 ⟨rfl, f2⟩
    have F2 := Lib.hid (F1.out.trans f2 (fun _ _ h => h))
    clear f2
    go_wp2_with fail
    go_end0
    exact ⟨rfl, F2.out⟩
  · have HK := Lib.hid hk
    clear hk
    go_enter Try.func12, Try.ntmps12
    go_wp2_with fail
    refine (KC.out _).mono ?_
    rintro e w1 ⟨rfl, f1⟩
    rw [HK.out]
    have hk9 := (Blk.new w 31 #[.int .i64 k, .int .i64 m, .int .u64 (x : Int), .string s]).fr f1 (fun h => h)
    have c2 := hk9.cell 2
    have c3 := hk9.cell 3
    have F1 := Lib.hid (((Fr.refl (fun _ => False) w).alloc (.cells #[.int .i64 k, .int .i64 m, .int .u64 (x : Int), .string s] 31)).trans f1 (fun _ _ h => h))
    clear f1 hk9
    have hcv := fun W => Lib.run_convert_string_bytes (P := Try.prog) W 9 27 5 s Try.underlying9 Try.underlying27 Try.underlying5
    go_wp2_with fail
    refine (wraw_nil _ _).mono ?_
    rintro e w2 ⟨rfl, rfl⟩
    have F2 := Lib.hid (F1.out.trans (conv_fr w1 s) (fun _ _ h => h))
    go_wp2_with fail
    go_end0
    exact ⟨rfl, F2.out⟩

set_option maxRecDepth 100000 in
set_option maxHeartbeats 2000000 in
theorem bytes_c (w : World) (t : It) (ht : t.Ok) (hsz : t.s.size ≤ 32000) :
    Calls Try.prog 13 #[t.val] w fun e w' => ∃ A n c, e = .returned (.slice A n c) ∧ Rd w' A n (bv (encItem t)) ∧ Fr (fun _ => False) w w' := by
  obtain ⟨k, m, x, s⟩ := t
  have hk : k % 5 = 0 ∨ k % 5 = 1 ∨ k % 5 = 2 ∨ k % 5 = 3 ∨ k % 5 = 4 := by omega
  have hx := ht.x1
  have hs := ht.s1
  simp only at hsz
  simp only at hx hs
  have HT := Lib.hid ht
  clear ht
  have kc : ∀ W, Calls Try.prog 25 #[.agg #[.int .i64 k, .int .i64 m, .int .u64 (x : Int), .string s]] W fun e w' => e = .returned (.int .i64 (k % 5)) ∧ Fr (fun _ => False) W w' := fun W => kind_c W ⟨k, m, x, s⟩ HT.out
  have KC := Lib.hid kc
  clear kc
  unfold It.val encItem
  simp only
  rcases hk with hk | hk | hk | hk | hk
  · have HK := Lib.hid hk
    rw [if_pos hk]
    clear hk
    go_enter Try.func13, Try.ntmps13
    go_wp2_with fail
    refine (KC.out _).mono ?_
    rintro e w1 ⟨rfl, f1⟩
    rw [HK.out]
    have hk9 := (Blk.new w 31 #[.int .i64 k, .int .i64 m, .int .u64 (x : Int), .string s]).fr f1 (fun h => h)
    have c2 := hk9.cell 2
    have c3 := hk9.cell 3
    have F1 := Lib.hid (((Fr.refl (fun _ => False) w).alloc (.cells #[.int .i64 k, .int .i64 m, .int .u64 (x : Int), .string s] 31)).trans f1 (fun _ _ h => h))
    clear f1 hk9
    go_wp2_with fail
    go_ret
    refine ⟨_, 1, _, rfl, ?_, F1.out.alloc _⟩
    have hr := Rd.of_blk (n := 1) (Blk.new w1 5 #[.int .u8 ((x : Int) % 256)]) (by simp)
    have hb : bv [by8 (x % 256)] = [.int .u8 ((x : Int) % 256)] := by simp only [bv, List.map_cons, List.map_nil, by8_toNat]; congr 2; omega
    rw [hb]
    exact hr
  · have HK := Lib.hid hk
    rw [if_neg (by omega), if_pos hk]
    clear hk
    go_enter Try.func13, Try.ntmps13
    go_wp2_with fail
    refine (KC.out _).mono ?_
    rintro e w1 ⟨rfl, f1⟩
    rw [HK.out]
    have hk9 := (Blk.new w 31 #[.int .i64 k, .int .i64 m, .int .u64 (x : Int), .string s]).fr f1 (fun h => h)
    have c2 := hk9.cell 2
    have c3 := hk9.cell 3
    have F1 := Lib.hid (((Fr.refl (fun _ => False) w).alloc (.cells #[.int .i64 k, .int .i64 m, .int .u64 (x : Int), .string s] 31)).trans f1 (fun _ _ h => h))
    clear f1 hk9
    have hz4 : ((x % 4294967296 : Nat) : Int) = (x : Int) % 4294967296 := by omega
    have fc := four_c w1 (x % 4294967296) (by omega)
    rw [hz4] at fc
    have FC := Lib.hid fc
    clear fc hz4
    go_wp2_with fail
    refine (FC.out).mono ?_
    rintro e w2 ⟨v2, rfl, h2, f2⟩
    obtain ⟨A2, c2, rfl, _, _⟩ := own_slice h2
    have H2 := Lib.hid (Rd.of_own (own_base h2 (base' := 0) (fun _ _ => Nat.zero_le _)))
    have F2 := Lib.hid (F1.out.trans f2 (fun _ _ h => h))
    clear h2 f2
    go_wp2_with fail
    go_ret
    exact ⟨_, _, _, rfl, H2.out, F2.out⟩
  · have HK := Lib.hid hk
    rw [if_neg (by omega), if_neg (by omega), if_pos hk]
    clear hk
    go_enter Try.func13, Try.ntmps13
    go_wp2_with fail
    refine (KC.out _).mono ?_
    rintro e w1 ⟨rfl, f1⟩
    rw [HK.out]
    have hk9 := (Blk.new w 31 #[.int .i64 k, .int .i64 m, .int .u64 (x : Int), .string s]).fr f1 (fun h => h)
    have c2 := hk9.cell 2
    have c3 := hk9.cell 3
    have F1 := Lib.hid (((Fr.refl (fun _ => False) w).alloc (.cells #[.int .i64 k, .int .i64 m, .int .u64 (x : Int), .string s] 31)).trans f1 (fun _ _ h => h))
    clear f1 hk9
    go_wp2_with fail
    refine (short_c w1 x hx).mono ?_
    rintro e w2 ⟨v2, rfl, h2, f2⟩
    obtain ⟨A2, c2, rfl, _, _⟩ := own_slice h2
    have H2 := Lib.hid (Rd.of_own (own_base h2 (base' := 0) (fun _ _ => Nat.zero_le _)))
    have F2 := Lib.hid (F1.out.trans f2 (fun _ _ h => h))
    clear h2 f2
    go_wp2_with fail
    go_ret
    exact ⟨_, _, _, rfl, H2.out, F2.out⟩
  · have HK := Lib.hid hk
    rw [if_neg (by omega), if_neg (by omega), if_neg (by omega), if_pos hk]
    clear hk
    go_enter Try.func13, Try.ntmps13
    go_wp2_with fail
    refine (KC.out _).mono ?_
    rintro e w1 ⟨rfl, f1⟩
    rw [HK.out]
    have hk9 := (Blk.new w 31 #[.int .i64 k, .int .i64 m, .int .u64 (x : Int), .string s]).fr f1 (fun h => h)
    have c2 := hk9.cell 2
    have c3 := hk9.cell 3
    have F1 := Lib.hid (((Fr.refl (fun _ => False) w).alloc (.cells #[.int .i64 k, .int .i64 m, .int .u64 (x : Int), .string s] 31)).trans f1 (fun _ _ h => h))
    clear f1 hk9
    go_wp2_with fail
    refine (rtext_doc w1 s hsz).mono ?_
    rintro e w2 ⟨v2, rfl, h2, f2⟩
    obtain ⟨A2, c2, rfl, _, _⟩ := own_slice h2
    have H2 := Lib.hid (Rd.of_own (own_base h2 (base' := 0) (fun _ _ => Nat.zero_le _)))
    have F2 := Lib.hid (F1.out.trans f2 (fun _ _ h => h))
    clear h2 f2
    go_wp2_with fail
    go_ret
    exact ⟨_, _, _, rfl, H2.out, F2.out⟩
  · have HK := Lib.hid hk
    rw [if_neg (by omega), if_neg (by omega), if_neg (by omega), if_neg (by omega)]
    clear hk
    go_enter Try.func13, Try.ntmps13
    go_wp2_with fail
    refine (KC.out _).mono ?_
    rintro e w1 ⟨rfl, f1⟩
    rw [HK.out]
    have hk9 := (Blk.new w 31 #[.int .i64 k, .int .i64 m, .int .u64 (x : Int), .string s]).fr f1 (fun h => h)
    have c2 := hk9.cell 2
    have c3 := hk9.cell 3
    have F1 := Lib.hid (((Fr.refl (fun _ => False) w).alloc (.cells #[.int .i64 k, .int .i64 m, .int .u64 (x : Int), .string s] 31)).trans f1 (fun _ _ h => h))
    clear f1 hk9
    have hcv := fun W => Lib.run_convert_string_bytes (P := Try.prog) W 9 27 5 s Try.underlying9 Try.underlying27 Try.underlying5
    go_wp2_with fail
    go_ret
    exact ⟨_, _, _, rfl, conv_rd w1 s, F1.out.trans (conv_fr w1 s) (fun _ _ h => h)⟩
end Go.Proofs.Ytokhebplmldfkaa
