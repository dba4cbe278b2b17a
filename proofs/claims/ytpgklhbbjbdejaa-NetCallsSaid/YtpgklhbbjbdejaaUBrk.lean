/-
  CONTRACTS of xorshift's Next, of nextPowerOfTwo, and of breakPatternsOrdered at uint64: a permutation.
-/
import Derived.Test.YtpgklhbbjbdejaaUPart
import Derived.Test.YtpgklhbbjbdejaaLen64
import Derived.Lib.ItoaNum
import Derived.Sort.LotD1
namespace Go.Proofs.Ytpgklhbbjbdejaa
set_option linter.unusedSimpArgs false
set_option linter.unusedVariables false
open Go Go.RowKit Go.Sort

theorem abs_then {K : Act → World → Prop} {Q : Exit → Act → World → Prop} {e : Exit} {a : Act} {w : World} (Φ : World → Prop) (h : Φ w) (k : ∀ W, Φ W → Exit.then K Q e a W) : Exit.then K Q e a w := k w h
set_option maxRecDepth 100000 in
set_option maxHeartbeats 2000000 in
theorem next_c (w : World) (p : Nat) (x : Int) (hp : Blk w p 94 #[.int .u64 x]) : Calls Try.prog 54 #[.pointer (some ⟨p, 0, none⟩)] w fun e w' => ∃ y : Int, e = .returned (.int .u64 y) ∧ Blk w' p 94 #[.int .u64 y] ∧ Fr (fun k => k = p) w w' := by
  have P0 : Hid (Blk w p 94 #[.int .u64 x] ∧ Fr (fun k => k = p) w w) := ⟨hp, Fr.refl _ _⟩
  have q0 := hp.cell 0
  have z0 := hp.frozen 0
  simp only [List.getElem?_toArray, List.getElem?_cons_zero] at q0
  clear hp
  go_enter Try.func54, Try.ntmps54
  go_wp2_with fail
  go_region
  refine abs_then (fun W => ∃ y : Int, Hid (Blk W p 94 #[.int .u64 y]) ∧ Hid (Fr (fun k => k = p) w W)) ⟨(bits .xor .u64 x (IntKind.u64.wrap (x * 8192))), P0.out.1.set_ 0 (.int .u64 (bits .xor .u64 x (IntKind.u64.wrap (x * 8192)))), (by have h := P0.out.2.drew.setCell (p := ⟨p, 0, none⟩) (fun _ => rfl) (.int .u64 (bits .xor .u64 x (IntKind.u64.wrap (x * 8192)))); exact h)⟩ ?_
  clear q0 z0 P0
  rintro w1 ⟨y1, B1, F1⟩
  have P0 : Hid (Blk w1 p 94 #[.int .u64 y1] ∧ Fr (fun k => k = p) w w1) := ⟨B1.out, F1.out⟩
  have q0 := B1.out.cell 0
  have z0 := B1.out.frozen 0
  simp only [List.getElem?_toArray, List.getElem?_cons_zero] at q0
  go_wp2_with fail
  go_region
  refine abs_then (fun W => ∃ y : Int, Hid (Blk W p 94 #[.int .u64 y]) ∧ Hid (Fr (fun k => k = p) w W)) ⟨(bits .xor .u64 y1 (y1 / 128)), P0.out.1.set_ 0 (.int .u64 (bits .xor .u64 y1 (y1 / 128))), (by have h := P0.out.2.drew.setCell (p := ⟨p, 0, none⟩) (fun _ => rfl) (.int .u64 (bits .xor .u64 y1 (y1 / 128))); exact h)⟩ ?_
  clear q0 z0 P0
  rintro w2 ⟨y2, B2, F2⟩
  have P0 : Hid (Blk w2 p 94 #[.int .u64 y2] ∧ Fr (fun k => k = p) w w2) := ⟨B2.out, F2.out⟩
  have q0 := B2.out.cell 0
  have z0 := B2.out.frozen 0
  simp only [List.getElem?_toArray, List.getElem?_cons_zero] at q0
  go_wp2_with fail
  go_region
  refine abs_then (fun W => ∃ y : Int, Hid (Blk W p 94 #[.int .u64 y]) ∧ Hid (Fr (fun k => k = p) w W)) ⟨(bits .xor .u64 y2 (IntKind.u64.wrap (y2 * 131072))), P0.out.1.set_ 0 (.int .u64 (bits .xor .u64 y2 (IntKind.u64.wrap (y2 * 131072)))), (by have h := P0.out.2.drew.setCell (p := ⟨p, 0, none⟩) (fun _ => rfl) (.int .u64 (bits .xor .u64 y2 (IntKind.u64.wrap (y2 * 131072)))); exact h)⟩ ?_
  clear q0 z0 P0
  rintro w3 ⟨y3, B3, F3⟩
  have P0 : Hid (Blk w3 p 94 #[.int .u64 y3] ∧ Fr (fun k => k = p) w w3) := ⟨B3.out, F3.out⟩
  have q0 := B3.out.cell 0
  have z0 := B3.out.frozen 0
  simp only [List.getElem?_toArray, List.getElem?_cons_zero] at q0
  go_wp2_with fail
  go_ret
  exact ⟨y3, rfl, P0.out.1, P0.out.2⟩
theorem pow_len (l : Nat) (h1 : 1 ≤ l) (h2 : l ≤ 1000000) : l < 2 ^ Lib.bitLen l ∧ 2 ^ Lib.bitLen l ≤ 2 * l ∧ Lib.bitLen l ≤ 20 := by
  obtain ⟨k1, k2, k3⟩ := Lib.bitLenAux_bounds 64 l (by omega) (by omega)
  have e : Lib.bitLen l = Lib.bitLenAux 64 l := rfl
  rw [e]
  obtain ⟨q, hq⟩ : ∃ q, Lib.bitLenAux 64 l = q + 1 := ⟨Lib.bitLenAux 64 l - 1, by omega⟩
  rw [hq] at k1 k2 k3 ⊢
  refine ⟨k3, ?_, ?_⟩
  · rw [Nat.pow_succ]
    have : 2 ^ q ≤ l := k2
    omega
  · rw [← hq, ← e]
    exact Lib.bitLen_le l 20 (by omega) (by omega)
set_option maxRecDepth 100000 in
set_option maxHeartbeats 2000000 in
theorem npow_c (w : World) (l : Nat) (h1 : 1 ≤ l) (h2 : l ≤ 1000000) : Calls Try.prog 53 #[.int .i64 l] w fun e w' => ∃ m : Nat, e = .returned (.int .u64 m) ∧ l < m ∧ m ≤ 2 * l ∧ w' = w := by
  obtain ⟨k1, k2, k3⟩ := pow_len l h1 h2
  have hL := len64_c (l : Int) w (by omega) (by omega)
  rw [Int.toNat_natCast] at hL
  obtain ⟨L, hl⟩ : ∃ L, Lib.bitLen l = L := ⟨_, rfl⟩
  rw [hl] at hL k1 k2 k3
  have hw : IntKind.u64.wrap (l : Int) = (l : Int) := by rw [IntKind.wrap_u64]; omega
  have hLEN : Calls Try.prog 39 #[.int .u64 l] w fun e w' => e = .returned (.int .i64 L) ∧ w' = w := by
    have HL := Lib.hid hL
    clear hL k1 k2
    go_enter Try.func39, Try.ntmps39
    go_wp2_with fail
    refine HL.out.mono ?_
    rintro e w1 ⟨rfl, hw1⟩
    rw [hw1]
    go_wp2_with fail
    go_ret
    exact ⟨rfl, rfl⟩
  have HL := Lib.hid hLEN
  have hm : min L 64 = L := by omega
  obtain ⟨m, em⟩ : ∃ m, 2 ^ L = m := ⟨_, rfl⟩
  rw [em] at k1 k2
  have hs : (Op.shift .shl .u64 1 .i64 (L : Int)).run Try.prog w = .ok (.int .u64 (m : Nat)) w := by
    have n0 : ¬ ((L : Int) < 0) := by omega
    simp only [Op.shift, n0, if_false]
    have e2 : min (Int.toNat (L : Int)) (IntKind.bits .u64) = L := by simp [IntKind.bits]; omega
    rw [e2]
    have e3 : IntKind.u64.wrap (1 * 2 ^ L) = (m : Int) := by
      rw [← em, Int.one_mul, IntKind.wrap_u64]
      have : (2 : Int) ^ L = ((2 ^ L : Nat) : Int) := by push_cast; rfl
      rw [this, em]
      omega
    rw [e3]
    rfl
  have HM := Lib.hid (And.intro k1 k2)
  have e9 : (2 : Int) ^ L = (m : Int) := by rw [← em]; push_cast; rfl
  have HW : Hid (IntKind.u64.wrap (2 ^ L) = (m : Int)) := by rw [e9, IntKind.wrap_u64]; show _ = _; omega
  clear e9
  clear hL hLEN k1 k2 hl em hm
  go_enter Try.func53, Try.ntmps53
  go_wp2_with fail
  refine HL.out.mono ?_
  rintro e w1 ⟨rfl, hw1⟩
  rw [hw1]
  clear hw1 w1
  go_wp2_with (rw [hs])
  go_ret
  exact ⟨m, by show Ending.returned (.int .u64 (IntKind.u64.wrap (2 ^ L))) = _; rw [HW.out], HM.out.1, HM.out.2, rfl⟩
theorem and_le (y : Int) (m : Nat) (h1 : 1 ≤ m) (hm : m ≤ 4000000) : ∃ z : Nat, bits .and .u64 y ((m - 1 : Nat) : Int) = (z : Int) ∧ z < m := by
  have e1 : (BitVec.ofInt 64 ((m - 1 : Nat) : Int)).toNat = m - 1 := by rw [BitVec.toNat_ofInt]; omega
  have e2 : (BitVec.ofInt 64 y &&& BitVec.ofInt 64 ((m - 1 : Nat) : Int)).toNat ≤ m - 1 := by
    rw [BitVec.toNat_and, e1]
    exact Nat.and_le_right
  refine ⟨(BitVec.ofInt 64 y &&& BitVec.ofInt 64 ((m - 1 : Nat) : Int)).toNat, ?_, by omega⟩
  show IntKind.u64.wrap (((BitVec.ofInt 64 y &&& BitVec.ofInt 64 ((m - 1 : Nat) : Int)).toNat : Nat) : Int) = _
  rw [IntKind.wrap_u64]
  omega
set_option maxRecDepth 100000 in
set_option maxHeartbeats 4000000 in
theorem breakP_c (w : World) (g c a b : Nat) (d : Array Nat) (rest : List Value) (hR : RowU w g d rest) (hab : a + 13 ≤ b) (hb : b ≤ d.size) (hsz : d.size ≤ 1000000) :
    Calls Try.prog 43 #[.slice (some ⟨g, 0, none⟩) d.size c, .int .i64 a, .int .i64 b] w fun e w' => e = .returned (.tuple #[]) ∧ ∃ d', PermIn a b d d' ∧ Now w g rest d.size w' d' := by
  obtain ⟨n, hn⟩ : ∃ n, d.size = n := ⟨_, rfl⟩
  have N0 : Hid (Now w g rest n w d) := hn ▸ Now.start hR
  rw [hn] at hb hsz ⊢
  have HSZ := Lib.hid hn
  clear hR hn
  obtain ⟨l, el⟩ : ∃ l, l = b - a := ⟨_, rfl⟩
  obtain ⟨q, eq⟩ : ∃ q, q = l / 4 := ⟨_, rfl⟩
  obtain ⟨q2, eq2⟩ : ∃ q2, q2 = q * 2 := ⟨_, rfl⟩
  obtain ⟨j, ej⟩ : ∃ j, j = a + q2 := ⟨_, rfl⟩
  obtain ⟨i, ei⟩ : ∃ i, i + 1 = j := ⟨j - 1, by omega⟩
  have i0 : (b : Int) - (a : Int) = (l : Int) := by omega
  have i1 : (l : Int) / 4 = (q : Int) := by omega
  have i1' : l / 4 = q := by omega
  have i2 : (q : Int) * 2 = (q2 : Int) := by omega
  have i5 : (a : Int) + (q2 : Int) = (j : Int) := by omega
  have i6 : (j : Int) - 1 = (i : Int) := by omega
  have d8 : decide ((8 : Int) ≤ (l : Int)) = true := decide_eq_true (by omega)
  have bnd : a ≤ i ∧ i + 3 ≤ b ∧ l ≤ 1000000 ∧ 13 ≤ l ∧ a + l = b ∧ j = i + 1 ∧ q ≤ 1000000 ∧ q2 ≤ 1000000 := by omega
  obtain ⟨bn1, bn2, bn3, bn4, bn5, bn6, bn7, bn8⟩ := bnd
  have hw : IntKind.u64.wrap (l : Int) = (l : Int) := by rw [IntKind.wrap_u64]; omega
  have HNP := Lib.hid (fun W => npow_c W l (by omega) bn3)
  have HG2 : Hid (g < w.heap.size) := N0.out.2.1.lt
  clear el eq eq2 ej ei i1'
  have NS : Hid (∀ W, Hid (Now w g rest n W d) → Hid (PermIn a b d d)) := fun _ _ => permIn_refl d a b
  go_enter Try.func43, Try.ntmps43
  go_wp2_with fail
  refine abs_calls (fun W => Hid (Now w g rest n W d) ∧ Hid (∃ x, Blk W w.heap.size 94 #[.int .u64 x])) ⟨⟨N0.out.1.alloc _, N0.out.2.1.alloc _, N0.out.2.2⟩, _, Blk.new _ _ _⟩ ?_
  rintro w1 ⟨N1, X1⟩
  refine (HNP.out w1).mono ?_
  rintro e w2 ⟨m, rfl, hm1, hm2, hw2⟩
  rw [hw2]
  clear hw2 w2 N0
  obtain ⟨m1, em1⟩ : ∃ m1, m1 = m - 1 := ⟨_, rfl⟩
  have i7 : (m : Int) - 1 = (m1 : Int) := by omega
  have HM : Hid (∀ y : Int, ∃ z : Nat, bits .and .u64 y (m1 : Int) = (z : Int) ∧ z < m) := fun y => by rw [em1]; exact and_le y m (by omega) (by omega)
  have i8 : (j : Int) + 1 = ((j + 1 : Nat) : Int) := by omega
  have hmm : m ≤ 2000000 ∧ m < 2 * l + 1 := by omega
  obtain ⟨hm3, hm4⟩ := hmm
  clear em1
  go_wp2_with fail
  go_loopw [9] (fun vi wr => ∃ (x : Nat) (dk : Array Nat), vi = .int .i64 x ∧ i ≤ x ∧ x ≤ i + 3 ∧ Hid (Now w g rest n wr dk) ∧ Hid (∃ x, Blk wr w.heap.size 94 #[.int .u64 x]) ∧ Hid (PermIn a b d dk)) (fun vi _ => i + 4 - (intOf vi).toNat)
  case atStart => exact ⟨i, d, rfl, Nat.le_refl _, by omega, N1, X1, permIn_refl d a b⟩
  case round =>
    obtain ⟨x, dk, rfl, hx1, hx2, N2, X2, HP⟩ := hrel
    clear N1 X1
    by_cases hle : x ≤ j + 1
    · have hdl : decide ((x : Int) ≤ ((j + 1 : Nat) : Int)) = true := decide_eq_true (by omega)
      obtain ⟨r, hr⟩ := X2.out
      go_wp2_with fail
      refine (next_c _ _ r hr).mono ?_
      clear hr
      rintro e w3 ⟨y, rfl, b3, f3⟩
      have N3 : Hid (Now w g rest n w3 dk) := ⟨N2.out.1.trans f3 (fun k hk e => by omega), N2.out.2.1.fr f3 (by have := HG2.out; omega), N2.out.2.2⟩
      have X3 : Hid (∃ x, Blk w3 w.heap.size 94 #[.int .u64 x]) := ⟨_, b3⟩
      clear b3 f3
      obtain ⟨z, hz, hzm⟩ := HM.out y
      have hwz : IntKind.i64.wrap (z : Int) = (z : Int) := by rw [IntKind.wrap_i64]; omega
      obtain ⟨o, ho⟩ : ∃ o, o = (if l ≤ z then z - l else z) := ⟨_, rfl⟩
      have hol : o < l := by rw [ho]; split <;> omega
      obtain ⟨p, ep⟩ : ∃ p, p = a + o := ⟨_, rfl⟩
      have ip : (a : Int) + (o : Int) = (p : Int) := by omega
      have pp : p < b ∧ a ≤ p := by omega
      obtain ⟨pp1, pp2⟩ := pp
      have xx : x < b ∧ a ≤ x := by omega
      obtain ⟨xx1, xx2⟩ := xx
      go_upto_if 43 with fail
      go_cut [10] from 44 to 46 (fun v wx => v = .int .i64 (o : Nat) ∧ wx = w3)
      case first =>
        by_cases hlz : l ≤ z
        · have hdz : decide ((l : Int) ≤ (z : Int)) = true := decide_eq_true (by omega)
          have io : (z : Int) - (l : Int) = (o : Int) := by rw [ho, if_pos hlz]; omega
          clear ho
          go_wp2_with fail
          go_meet
          exact ⟨by first | rfl | rw [io], rfl⟩
        · have hdz : decide ((l : Int) ≤ (z : Int)) = false := decide_eq_false (by omega)
          have io : o = z := by rw [ho, if_neg hlz]
          clear ho
          go_wp2_with fail
          go_meet
          exact ⟨by rw [io], rfl⟩
      case rest =>
        obtain ⟨rfl, hwx⟩ := hcut
        subst hwx
        clear ho
        have EP := Lib.hid ep
        clear ep hz hzm hwz
        obtain ⟨G, hG⟩ : ∃ G : Nat → Nat, ∀ t, dk[t]! = G t := ⟨fun t => dk[t]!, fun _ => rfl⟩
        have hcw := N3.out.cells
        have hfw := N3.out.froz
        simp only [hG] at hcw
        have HG := Lib.hid hG
        clear hG
        have k1 : (x : Int) < n := by omega
        have k2 : (p : Int) < n := by omega
        have l1 : x < n := by omega
        have l2 : p < n := by omega
        go_wp2_with fail
        by_cases hxy : x = p
        · subst hxy
          go_region
          all_goals go_wp2_with fail
          all_goals go_roundw
          case rel => exact ⟨x + 1, swp dk x x, by go_num, by omega, by omega, by have h := (N3.out.drew).swp (i := x) (j := x) (by omega) (by omega); simp only [HG.out] at h; exact h, by obtain ⟨x9, h9⟩ := X3.out; exact ⟨x9, ((h9.drew.far (p := ⟨g, x, none⟩) (by have := HG2.out; show w.heap.size ≠ g; omega) _).far (p := ⟨g, x, none⟩) (by have := HG2.out; show w.heap.size ≠ g; omega) _)⟩, permIn_trans _ _ _ a b HP.out (swp_permIn dk a b x x xx2 xx1 pp2 pp1 (by have := N3.out.2.2; omega))⟩
          case measure => simp [intOf]; omega
        · have n1 : ¬ (x = p) := hxy
          have n2 : ¬ (p = x) := fun h => hxy h.symm
          clear hxy
          go_region
          all_goals go_wp2_with fail
          all_goals go_roundw
          case rel => exact ⟨x + 1, swp dk x p, by go_num, by omega, by omega, by have h := (N3.out.drew).swp (i := x) (j := p) (by omega) (by omega); simp only [HG.out] at h; exact h, by obtain ⟨x9, h9⟩ := X3.out; exact ⟨x9, ((h9.drew.far (p := ⟨g, x, none⟩) (by have := HG2.out; show w.heap.size ≠ g; omega) _).far (p := ⟨g, p, none⟩) (by have := HG2.out; show w.heap.size ≠ g; omega) _)⟩, permIn_trans _ _ _ a b HP.out (swp_permIn dk a b x p xx2 xx1 pp2 pp1 (by have := N3.out.2.2; omega))⟩
          case measure => simp [intOf]; omega
    · have hdl : decide ((x : Int) ≤ ((j + 1 : Nat) : Int)) = false := decide_eq_false (by omega)
      go_wp2_with fail
      go_end0
      exact ⟨rfl, dk, HP.out, N2.out⟩
end Go.Proofs.Ytpgklhbbjbdejaa
