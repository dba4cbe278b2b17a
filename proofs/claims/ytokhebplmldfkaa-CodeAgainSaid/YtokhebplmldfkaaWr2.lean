/-
  CONTRACTS of code.Writer: U8, U32, Raw, Uint, Text, Put, Bytes.
-/
import Derived.Test.YtokhebplmldfkaaWr
import Derived.Lib.ConvBytes
namespace Go.Proofs.Ytokhebplmldfkaa
set_option linter.unusedSimpArgs false
set_option linter.unusedVariables false
open Go Go.RowKit

theorem Wr.alloc {w : World} {b : Nat} {v : Value} {l : List UInt8} (h : Wr w b v l) (o : Obj) : Wr (w.alloc o) b v l := h.fr ((Fr.refl (fun _ => False) w).alloc o) (fun h => h) (fun _ _ h => h)
theorem WStep.of_alloc {b : Nat} {v : Value} {l' : List UInt8} {w w' : World} {o : Obj} (h : WStep b v l' (w.alloc o) w') : WStep b v l' w w' :=
  WStep.trans ((Fr.refl _ w).alloc o) (fun _ h => .inl h) h
theorem bv_by8 (x : Int) (h0 : 0 ≤ x) (h1 : x ≤ 255) : Value.int .u8 ((by8 x.toNat).toNat : Int) = .int .u8 x := by
  rw [by8_toNat]; congr 1; omega

set_option maxHeartbeats 400000 in
theorem wu8_c (w : World) (b : Nat) (v : Value) (l : List UInt8) (x : Int) (h0 : 0 ≤ x) (h1 : x ≤ 255) (h : Wr w b v l) (hb : l.length + 1 ≤ 140737488355328) :
    Calls Try.prog 34 #[.pointer (some ⟨b, 0, none⟩), .int .u8 x] w fun e w' => e = .returned (.tuple #[]) ∧ WStep b v (l ++ [by8 x.toNat]) w w' := by
  have hx := bv_by8 x h0 h1
  have HX := Lib.hid hx
  clear hx
  go_enter Try.func34, Try.ntmps34
  go_wp2_with fail
  refine (add_c _ b v l [by8 x.toNat] _ _ _ (h.alloc _) (by have := Rd.of_blk (n := 1) (Blk.new w 5 #[.int .u8 x]) (by simp); simpa [bv, HX.out] using this) hb).mono ?_
  rintro e w' ⟨rfl, hs⟩
  go_wp2_with fail
  go_end0
  exact ⟨rfl, hs.of_alloc⟩

set_option maxHeartbeats 400000 in
theorem wu8_nil (w : World) (x : Int) :
    Calls Try.prog 34 #[.pointer none, .int .u8 x] w fun e w' => e = .returned (.tuple #[]) ∧ Fr (fun _ => False) w w' := by
  go_enter Try.func34, Try.ntmps34
  go_wp2_with fail
  refine (add_nil _ _).mono ?_
  rintro e w' ⟨rfl, rfl⟩
  go_wp2_with fail
  go_end0
  exact ⟨rfl, (Fr.refl _ _).alloc _⟩

set_option maxHeartbeats 400000 in
theorem wu32_c (w : World) (b : Nat) (v : Value) (l : List UInt8) (x : Int) (h0 : 0 ≤ x) (h1 : x ≤ 4294967295) (h : Wr w b v l) (hb : l.length + 4 ≤ 140737488355328) :
    Calls Try.prog 30 #[.pointer (some ⟨b, 0, none⟩), .int .u32 x] w fun e w' => e = .returned (.tuple #[]) ∧ WStep b v (l ++ be 4 x.toNat) w w' := by
  have hx : bv (be 4 x.toNat) = [.int .u8 (x / 16777216), .int .u8 (x / 65536 % 256), .int .u8 (x / 256 % 256), .int .u8 (x % 256)] := by
    simp only [be, bv, List.nil_append, List.cons_append, List.map_cons, List.map_nil, by8_toNat]
    congr 2
    · omega
    congr 2
    · omega
    congr 2
    · omega
    congr 2
    omega
  have HX := Lib.hid hx
  clear hx
  go_enter Try.func30, Try.ntmps30
  go_wp2_with fail
  refine (add_c _ b v l (be 4 x.toNat) _ _ _ (h.alloc _) (by have := Rd.of_blk (n := 4) (Blk.new w 5 #[.int .u8 (x / 16777216), .int .u8 (x / 65536 % 256), .int .u8 (x / 256 % 256), .int .u8 (x % 256)]) (by simp); rw [HX.out]; simpa using this) (by rw [be_length]; exact hb)).mono ?_
  rintro e w' ⟨rfl, hs⟩
  go_wp2_with fail
  go_end0
  exact ⟨rfl, hs.of_alloc⟩

set_option maxHeartbeats 400000 in
theorem wu32_nil (w : World) (x : Int) (h0 : 0 ≤ x) (h1 : x ≤ 4294967295) :
    Calls Try.prog 30 #[.pointer none, .int .u32 x] w fun e w' => e = .returned (.tuple #[]) ∧ Fr (fun _ => False) w w' := by
  go_enter Try.func30, Try.ntmps30
  go_wp2_with fail
  refine (add_nil _ _).mono ?_
  rintro e w' ⟨rfl, rfl⟩
  go_wp2_with fail
  go_end0
  exact ⟨rfl, (Fr.refl _ _).alloc _⟩

set_option maxHeartbeats 400000 in
theorem wraw_c (w : World) (b : Nat) (v : Value) (l m : List UInt8) (A : Option Addr) (n c : Nat) (h : Wr w b v l) (hr : Rd w A n (bv m)) (hb : l.length + m.length ≤ 140737488355328) :
    Calls Try.prog 35 #[.pointer (some ⟨b, 0, none⟩), .slice A n c] w fun e w' => e = .returned (.tuple #[]) ∧ WStep b v (l ++ m) w w' := by
  go_enter Try.func35, Try.ntmps35
  go_wp2_with fail
  refine (add_c _ b v l m _ _ _ h hr hb).mono ?_
  rintro e w' ⟨rfl, hs⟩
  go_wp2_with fail
  go_end0
  exact ⟨rfl, hs⟩
set_option maxHeartbeats 400000 in
theorem wraw_nil (w : World) (s : Value) :
    Calls Try.prog 35 #[.pointer none, s] w fun e w' => e = .returned (.tuple #[]) ∧ w = w' := by
  go_enter Try.func35, Try.ntmps35
  go_wp2_with fail
  refine (add_nil _ _).mono ?_
  rintro e w' ⟨rfl, rfl⟩
  go_wp2_with fail
  go_end0
  exact ⟨rfl, rfl⟩

theorem stored_drop (cs : Array Value) (N t : Nat) (ht : t < N) (hN : N ≤ cs.size) (u : Value) : ((cs.setIfInBounds (N - 1 - t) u).toList.take N).drop (N - (t + 1)) = u :: (cs.toList.take N).drop (N - t) := by
  apply List.ext_getElem?
  intro i
  rw [List.getElem?_drop, List.getElem?_take, Array.toList_setIfInBounds, List.getElem?_set]
  cases i with
  | zero =>
    rw [if_pos (by omega), if_pos (by omega), if_pos (by simp; omega)]
    rfl
  | succ i =>
    rw [List.getElem?_cons_succ, List.getElem?_drop, List.getElem?_take, if_neg (by omega : ¬ (N - 1 - t = N - (t + 1) + (i + 1))), show N - (t + 1) + (i + 1) = N - t + i by omega]
theorem shift_step (X t : Nat) : ((X : Int) / 256 ^ t / 256) = ((X / 256 ^ (t + 1) : Nat) : Int) := by
  rw [Nat.pow_succ, ← Nat.div_div_eq_div_mul]
  simp
theorem bv_be_step (X t : Nat) : bv (be (t + 1) X) = Value.int .u8 ((X : Int) / 256 ^ t % 256) :: bv (be t X) := by
  rw [be_cons]
  simp only [bv, List.map_cons, by8_toNat]
  congr 2

theorem slice9 (t : Nat) (ht : t ≤ 9) (W : World) (g : Nat) :
    (Instr.sliceAt 76 (.pointer (some ⟨g, 0, none⟩)) none (some (.int .i64 (t : Int))) none).run Try.prog W = .ok (.slice (some ⟨g, 0, none⟩) t 9) W := by
  have h9 : Try.prog.arrayLen 76 = 9 := by kernel_rfl
  have hz : (sizeOf (Try.prog.elem 76)).run Try.prog W = .ok 1 W := by kernel_rfl
  rw [run_sliceAt_array_h W 76 ⟨g, 0, none⟩ (by kernel_rfl) .i64 t (by omega) (by rw [h9]; omega), hz]
  simp [slicedAt, h9, Addr.add]

set_option maxHeartbeats 400000 in
theorem wuint_any (w : World) (P : Value) (x : Int) (h0 : 0 ≤ x) (h1 : x ≤ 18446744073709551615) (R : World → Prop)
    (hadd : ∀ (w1 : World) (A : Option Addr) (c : Nat), Fr (fun _ => False) w w1 → Rd w1 A (size x.toNat) (bv (enc x.toNat)) → Calls Try.prog 49 #[P, .slice A (size x.toNat) c] w1 fun e w' => e = .returned (.tuple #[]) ∧ R w') :
    Calls Try.prog 28 #[P, .int .u64 x] w fun e w' => e = .returned (.tuple #[]) ∧ R w' := by
  obtain ⟨N, hN⟩ : ∃ N, N = size x.toNat := ⟨_, rfl⟩
  obtain ⟨X, rfl⟩ : ∃ X : Nat, x = X := ⟨x.toNat, by omega⟩
  rw [Int.toNat_natCast] at hN hadd
  have hs := size_le X
  rw [← hN] at hs hadd
  have Hadd := Lib.hid hadd
  have HN := Lib.hid hN
  clear hadd hN
  go_enter Try.func28, Try.ntmps28
  go_wp2_with fail
  refine (size_c _ _ h0 h1).mono ?_
  rintro e w' ⟨rfl, rfl⟩
  rw [Int.toNat_natCast, ← HN.out]
  go_wp2_with fail
  go_loopw [1, 6] (fun xv iv wr => ∃ (t : Nat) (cs : Array Value), t ≤ N ∧ iv = .int .i64 ((N : Int) - 1 - t) ∧ xv = .int .u64 ((X / 256 ^ t : Nat) : Int) ∧ Blk wr w.heap.size 76 cs ∧ cs.size = 9 ∧ Hid ((cs.toList.take N).drop (N - t) = bv (be t X)) ∧ Fr (fun _ => False) w wr) (fun _ iv _ => (intOf iv + 1).toNat)
  case atStart => exact ⟨0, _, by omega, by simp, by simp, Blk.new _ _ _, rfl, by simp [Hid, be, bv], (Fr.refl _ _).alloc _⟩
  case round =>
    obtain ⟨t, cs, ht, rfl, rfl, hb, hcs, hl, hfr⟩ := hrel
    by_cases hlt : t < N
    · have c0 := hb.cell (N - 1 - t)
      rw [Array.getElem?_eq_getElem (by omega)] at c0
      have k0 := hb.frozen (N - 1 - t)
      go_wp2
      refine ⟨⟨t + 1, _, hlt, by congr 1; omega, by rw [shift_step], hb.set_ _ _, by simp [hcs], ?_, hfr.setCell (p := ⟨w.heap.size, _, none⟩) (fun h => absurd h (Nat.lt_irrefl _)) _⟩, by simp [intOf]; omega⟩
      rw [stored_drop cs N t hlt (by omega), hl.out, bv_be_step]
      rfl
    · obtain rfl : t = N := by omega
      have hl1 := hl.out
      rw [Nat.sub_self, List.drop_zero] at hl1
      have Hl := Lib.hid hl1
      clear hl hl1
      have k0 := hb.frozen 0
      have c0 := hb.cell 0
      rw [Array.getElem?_eq_getElem (by omega)] at c0
      by_cases h1 : t = 1
      · subst h1
        go_wp2_with fail
        refine (Hadd.out _ _ _ hfr ?_).mono ?_
        · have := Rd.of_blk (n := 1) hb (by omega)
          rw [Hl.out, ← enc_one X HN.out.symm] at this
          exact this
        rintro e w' ⟨rfl, hR⟩
        go_wp2_with fail
        go_end0
        exact ⟨rfl, hR⟩
      · have hsl := slice9 t hs.2
        go_wp2_with fail
        refine (Hadd.out _ _ _ (hfr.setCell (p := ⟨w.heap.size, _, none⟩) (fun h => absurd h (Nat.lt_irrefl _)) _) ?_).mono ?_
        · have := Rd.of_blk (n := t) (hb.set_ 0 (.int .u8 (247 + ((t : Int) - 1)))) (by simp; omega)
          rw [show ((cs.setIfInBounds 0 (.int .u8 (247 + ((t : Int) - 1)))).toList.take t) = bv (enc X) from ?_] at this
          · exact this
          · rw [enc_more X (by rw [← HN.out]; exact h1), ← HN.out]
            have e := Hl.out
            obtain ⟨k, rfl⟩ : ∃ k, t = k + 1 := ⟨t - 1, by omega⟩
            rw [Nat.add_sub_cancel]
            rw [be_cons] at e
            cases hcl : cs.toList with
            | nil => simp [hcl, bv] at e
            | cons c0 r =>
              rw [hcl] at e
              simp only [Array.toList_setIfInBounds, hcl, List.set_cons_zero, List.take_succ_cons, bv, List.map_cons, List.cons.injEq] at e ⊢
              refine ⟨?_, e.2⟩
              rw [by8_toNat]
              congr 1
              omega
        rintro e w' ⟨rfl, hR⟩
        go_wp2_with fail
        go_end0
        exact ⟨rfl, hR⟩
end Go.Proofs.Ytokhebplmldfkaa
