/-
  THE WALK of 'tidewracklaw22.NetNobody'.
-/
import Derived.Test.YtpgklhbbjbdejaaAwk
namespace Go.Proofs.Ytpgklhbbjbdejaa
set_option linter.unusedSimpArgs false
set_option linter.unusedVariables false
open Go Go.RowKit Go.Maps

set_option maxRecDepth 100000 in
set_option maxHeartbeats 2000000 in
theorem netNobody_c (w : World) (d a b id : Int) (A : Option Addr) (n c : Nat) :
    Calls Try.prog 4 #[.agg #[.int .i64 d, .int .i64 a, .int .i64 b, .int .u64 id, .slice A n c]] w fun e w' => e = .returned (.bool true) ∧ Fr (fun _ => False) w w' := by
  go_enter Try.func4, Try.ntmps4
  go_wp2_with fail
  refine abs_wp (fun W => Hid (Fr (fun _ => False) w W) ∧ Hid (Blk W w.heap.size 35 #[.int .i64 d, .int .i64 a, .int .i64 b, .int .u64 id, .slice A n c]) ∧ Hid (Blk W (w.heap.size + 1) 46 (netC 0 0 none (fun _ => 0))) ∧
    Hid (Blk W (w.heap.size + 1 + 1) 23 #[.pointer none, .pointer (some ⟨w.heap.size + 1, 0, none⟩)]))
    ⟨(((Fr.refl _ w).alloc _).alloc _).alloc _, ((Blk.new w 35 _).alloc _).alloc _, (Blk.new1 w _ 46 (netC 0 0 none (fun _ => 0))).alloc _, Blk.new2 w _ _ 23 _⟩ ?_
  rintro w0 ⟨F0, X0, N0, L0⟩
  go_loopw [5] (fun i wr => ∃ k : Nat, k ≤ 2 ∧ i = .int .i64 k ∧ Hid (Fr (fun _ => False) w0 wr)) (fun i _ => 2 - (intOf i).toNat)
  case atStart => exact ⟨0, by omega, rfl, Fr.refl _ _⟩
  case round =>
    obtain ⟨k, hk, rfl, FR⟩ := hrel
    by_cases h1 : k < 2
    · have hxv : ∃ p, wr.cell? ⟨w.heap.size + 1 + 1, k, none⟩ = some (.pointer p) ∧ ∀ W, Fr (fun _ => False) wr W → NoNet W (.pointer p) := by
        have hL := keepB L0.out FR.out
        rcases (by omega : k = 0 ∨ k = 1) with rfl | rfl
        · exact ⟨none, hL.cell 0, fun W _ => .inl rfl⟩
        · exact ⟨_, hL.cell 1, fun W hW => .inr ⟨_, _, rfl, keepB (keepB N0.out FR.out) hW, rfl⟩⟩
      obtain ⟨p, cx, hn⟩ := hxv
      have HN := Lib.hid hn
      have XB := Lib.hid (keepB X0.out FR.out)
      clear hn
      have q1 : wr.cell? ⟨w.heap.size, 1, none⟩ = some (.int .i64 a) := XB.out.cell 1
      have q2 : wr.cell? ⟨w.heap.size, 2, none⟩ = some (.int .i64 b) := XB.out.cell 2
      have q3 : wr.cell? ⟨w.heap.size, 3, none⟩ = some (.int .u64 id) := XB.out.cell 3
      have q4 : wr.cell? ⟨w.heap.size, 4, none⟩ = some (.slice A n c) := XB.out.cell 4
      go_wp2_with fail
      refine (send_no wr _ _ _ _ (HN.out wr (Fr.refl _ _))).mono ?_
      rintro e wa ⟨rfl, hw⟩
      rw [hw]
      clear hw wa
      go_wp2_with fail
      refine (deliver_no wr _ _ (HN.out wr (Fr.refl _ _))).mono ?_
      rintro e w1 ⟨rfl, f1⟩
      have F1 := Lib.hid f1
      clear q1 q2 q3 q4 f1
      have q3 : (w1.alloc (.cells #[.int .i64 0, .int .i64 0, .slice none 0 0] 51)).cell? ⟨w.heap.size, 3, none⟩ = some (.int .u64 id) := ((keepB XB.out F1.out).alloc _).cell 3
      go_wp2_with fail
      refine (double_no _ _ _ (HN.out _ (F1.out.alloc _))).mono ?_
      rintro e w2 ⟨rfl, f2⟩
      have F2 : Hid (Fr (fun _ => False) wr w2) := (F1.out.alloc _).trans f2 (fun _ _ h => h)
      clear q3 f2
      have q3 : w2.cell? ⟨w.heap.size, 3, none⟩ = some (.int .u64 id) := (keepB XB.out F2.out).cell 3
      go_wp2_with fail
      refine (at_no _ _ _ (HN.out _ F2.out)).mono ?_
      rintro e w3 ⟨rfl, f3⟩
      have F3 : Hid (Fr (fun _ => False) wr w3) := F2.out.trans f3 (fun _ _ h => h)
      clear q3 f3
      have q3 : (w3.alloc (.cells #[.int .i64 0, .int .i64 0, .slice none 0 0] 51)).cell? ⟨w.heap.size, 3, none⟩ = some (.int .u64 id) := ((keepB XB.out F3.out).alloc _).cell 3
      go_wp2_with fail
      refine (drop_no _ _ _ (HN.out _ (F3.out.alloc _))).mono ?_
      rintro e w4 ⟨rfl, f4⟩
      have F4 : Hid (Fr (fun _ => False) wr w4) := (F3.out.alloc _).trans f4 (fun _ _ h => h)
      clear q3 f4
      go_wp2_with fail
      refine (replicas_no _ _ (HN.out _ F4.out)).mono ?_
      rintro e wa ⟨rfl, hw⟩
      rw [hw]
      clear hw wa
      go_wp2_with fail
      refine (count_no _ _ (HN.out _ F4.out)).mono ?_
      rintro e wa ⟨rfl, hw⟩
      rw [hw]
      clear hw wa
      go_wp2_with fail
      refine (letters_no _ _ (HN.out _ F4.out)).mono ?_
      rintro e wa ⟨rfl, hw⟩
      rw [hw]
      clear hw wa
      go_wp2_with fail
      refine (copy_no _ _ (HN.out _ F4.out)).mono ?_
      rintro e wa ⟨rfl, hw⟩
      rw [hw]
      clear hw wa
      go_wp2_with fail
      go_roundw
      case rel => exact ⟨k + 1, by omega, by go_num, FR.out.trans F4.out (fun _ _ h => h)⟩
      case measure => simp [intOf]; omega
    · go_wp2_with fail
      refine (awake_c wr).mono ?_
      rintro e w1 ⟨rfl, f1⟩
      have F1 : Hid (Fr (fun _ => False) w w1) := (F0.out.trans FR.out (fun _ _ h => h)).trans f1 (fun _ _ h => h)
      clear f1
      go_wp2_with fail
      go_ret
      exact ⟨rfl, F1.out⟩
end Go.Proofs.Ytpgklhbbjbdejaa
