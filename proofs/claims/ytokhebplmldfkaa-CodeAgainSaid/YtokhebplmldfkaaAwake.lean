/-
  THE CHAPTER's EXAMPLES ('awake'): they come out, and nothing that was there has turned.
-/
import Derived.Test.YtokhebplmldfkaaNew
namespace Go.Proofs.Ytokhebplmldfkaa
set_option linter.unusedSimpArgs false
set_option linter.unusedVariables false
open Go Go.RowKit

theorem awake_bytes : [] ++ encs [0, 247, 248, 300] ++ be 4 258 ++ (enc 2 ++ [97, 98]) = [0, 247, 248, 248, 249, 1, 44, 0, 0, 1, 2, 2, 97, 98] := by decide
theorem awake_rd1 : rdNum [248, 7] = none := by decide
theorem awake_rd2 : rdText 9 [2, 97] = none := by decide

set_option maxRecDepth 100000 in
set_option maxHeartbeats 1000000 in
theorem awake_c (w : World) : Calls Try.prog 10 #[] w fun e w' => e = .returned (.bool true) ∧ Fr (fun _ => False) w w' := by
  go_enter Try.func10, Try.ntmps10
  go_wp2_with fail
  refine (newWriter_n _).mono ?_
  rintro e w1 ⟨b, v, rfl, h1⟩
  have H1 := Lib.hid h1
  clear h1
  go_wp2_with fail
  have hrd : Rd (w1.alloc (.cells #[.int .u64 0, .int .u64 247, .int .u64 248, .int .u64 300] 29)) (some ⟨w1.heap.size, 0, none⟩) 4 ([0, 247, 248, 300].map fun x : Nat => Value.int .u64 x) := by
    have := Rd.of_blk (n := 4) (Blk.new w1 29 #[.int .u64 0, .int .u64 247, .int .u64 248, .int .u64 300]) (by simp)
    simpa using this
  have hlt := H1.out.wr.lt
  refine (wput_c _ b v [] _ _ _ [0, 247, 248, 300] (H1.out.wr.alloc _) (by decide) hrd (fun _ k hk => ?_) (by decide)).mono ?_
  · obtain ⟨ad, h, rfl⟩ := hk
    injection h with h
    subst h
    exact ⟨by simp; omega, fun h => by have := hlt.2 _ h; simp at this⟩
  rintro e w2 ⟨rfl, h2⟩
  obtain ⟨v2, h2, _⟩ := (H1.out.alloc _).step h2
  have H2 := Lib.hid h2
  clear h2 hrd hlt
  go_wp2_with fail
  refine (wu32_c _ b v2 _ 258 (by omega) (by omega) H2.out.wr (by decide)).mono ?_
  rintro e w3 ⟨rfl, h3⟩
  obtain ⟨v3, h3, _⟩ := H2.out.step h3
  have H3 := Lib.hid h3
  clear h3
  go_wp2_with fail
  refine (wtext_c _ b v3 _ ⟨#[97, 98]⟩ (by decide) H3.out.wr (by decide)).mono ?_
  rintro e w4 ⟨rfl, h4⟩
  obtain ⟨v4, h4, _⟩ := H3.out.step h4
  have h5 : WN w b v4 [0, 247, 248, 248, 249, 1, 44, 0, 0, 1, 2, 2, 97, 98] w4 := by
    have := h4
    rw [show ([] ++ encs [0, 247, 248, 300] ++ be 4 (258 : Int).toNat ++ (enc (ByteArray.size ⟨#[97, 98]⟩) ++ sb ⟨#[97, 98]⟩)) = [0, 247, 248, 248, 249, 1, 44, 0, 0, 1, 2, 2, 97, 98] from by decide] at this
    exact this
  have H5 := Lib.hid h5
  clear h4 h5
  go_wp2_with fail
  have hr1 : Rd (w4.alloc (.cells #[.int .u8 248, .int .u8 7] 5)) (some ⟨w4.heap.size, 0, none⟩) 2 (bv [248, 7]) := by
    have := Rd.of_blk (n := 2) (Blk.new w4 5 #[.int .u8 248, .int .u8 7]) (by simp)
    simpa [bv] using this
  refine (newReader_n _ _ _ _ [248, 7] hr1 (by decide)).mono ?_
  rintro e w5 ⟨b5, v5, rfl, h5⟩
  have H6 := Lib.hid ((H5.out.alloc (.cells #[.int .u8 248, .int .u8 7] 5)).far h5.fr)
  have R5 := Lib.hid h5
  clear h5 hr1
  go_wp2_with fail
  refine (ruint_c _ b5 v5 _ 0 R5.out.rr).mono ?_
  rintro e w6 ⟨f6, h6⟩
  rcases h6 with ⟨x, n, h, _⟩ | ⟨_, rfl, h6⟩
  · rw [List.drop_zero, awake_rd1] at h; cases h
  have R6 := Lib.hid (R5.out.step f6 h6)
  have H7 := Lib.hid (H6.out.by f6 (fun k hk e => by have := R5.out.b0; have := H5.out.fr.size; simp at *; omega) (fun e => by have := R5.out.b0; have := H5.out.wr.lt.1; simp at *; omega)
    (fun k hk e => by have := R5.out.b0; have := H5.out.wr.lt.2 k hk; simp at *; omega))
  clear f6 h6
  go_wp2_with fail
  have hr1 : Rd (w6.alloc (.cells #[.int .u8 2, .int .u8 97] 5)) (some ⟨w6.heap.size, 0, none⟩) 2 (bv [2, 97]) := by
    have := Rd.of_blk (n := 2) (Blk.new w6 5 #[.int .u8 2, .int .u8 97]) (by simp)
    simpa [bv] using this
  refine (newReader_n _ _ _ _ [2, 97] hr1 (by decide)).mono ?_
  rintro e w7 ⟨b7, v7, rfl, h7⟩
  have H8 := Lib.hid ((H7.out.alloc (.cells #[.int .u8 2, .int .u8 97] 5)).far h7.fr)
  have R7 := Lib.hid ((R6.out.alloc (.cells #[.int .u8 2, .int .u8 97] 5)).far h7.fr)
  have S7 := Lib.hid h7
  clear h7 hr1
  go_wp2_with fail
  refine (rtext_c _ b7 v7 _ 0 9 (by decide) (by decide) S7.out.rr).mono ?_
  rintro e w8 ⟨f8, h8⟩
  rcases h8 with ⟨x, n, h, _⟩ | ⟨_, rfl, h8⟩
  · rw [List.drop_zero, awake_rd2] at h; cases h
  have S8 := Lib.hid (S7.out.step f8 h8)
  have H9 := Lib.hid (H8.out.by f8 (fun k hk e => by have := S7.out.b0; have := H7.out.fr.size; simp at *; omega) (fun e => by have := S7.out.b0; have := H7.out.wr.lt.1; simp at *; omega)
    (fun k hk e => by have := S7.out.b0; have := H7.out.wr.lt.2 k hk; simp at *; omega))
  have R8 := Lib.hid (R7.out.rr.fr f8 (fun e => by have := S7.out.b0; have := R6.out.rr.1.lt; simp at *; omega) (fun k hk e => by have := S7.out.b0; have := (R6.out.rr.2.1.lt k hk).2; simp at *; omega))
  clear f8 h8
  go_wp2_with fail
  refine (wbytes_c _ b v4 _ H9.out.wr (by decide)).mono ?_
  rintro e w9 ⟨v9, rfl, h9, f9⟩
  obtain ⟨A9, c9, rfl, _, _⟩ := own_slice h9
  have hcv : (convert 27 9 (.slice A9 14 c9)).run Try.prog w9 = .ok (.string ⟨#[0, 247, 248, 248, 249, 1, 44, 0, 0, 1, 2, 2, 97, 98]⟩) w9 := conv_str w9 A9 _ c9 _ (Rd.of_own h9)
  have R9 := Lib.hid (R8.out.fr f9 (fun h => h) (fun _ _ h => h))
  have S9 := Lib.hid (S8.out.far f9)
  have F9 := Lib.hid (H9.out.fr.trans f9 (fun _ _ h => h))
  clear h9 f9
  go_wp2_with fail
  refine (rerr_c _ b5 v5 _ 0 true R9.out).mono ?_
  rintro e w10 ⟨rfl, rfl⟩
  go_wp2_with fail
  refine (at_c _ b5 v5 _ 0 true R9.out).mono ?_
  rintro e w10 ⟨rfl, rfl⟩
  go_wp2_with fail
  refine (ru8_bad _ _ (err_bad _ b7 v7 _ 0 S9.out.rr)).mono ?_
  rintro e w10 ⟨rfl, f10⟩
  have F10 := Lib.hid (F9.out.trans f10 (fun _ _ h => h))
  clear f10
  go_wp2_with fail
  refine (size_c _ _ (by decide) (by decide)).mono ?_
  rintro e w11 ⟨rfl, rfl⟩
  rw [show size (300 : Int).toNat = 3 from by decide]
  go_wp2_with fail
  go_ret
  exact ⟨rfl, F10.out⟩
end Go.Proofs.Ytokhebplmldfkaa
