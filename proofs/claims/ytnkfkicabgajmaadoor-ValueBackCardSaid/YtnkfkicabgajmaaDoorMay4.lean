/-
  CONTRACT of value.ownSize. Written by gen_size.py.
-/
import Derived.Test.YtnkfkicabgajmaaDoorMay3
namespace Go.Proofs.YtnkfkicabgajmaaDoor
set_option linter.unusedSimpArgs false
set_option linter.unusedVariables false
open Go Go.RowKit

/-- Not great, all through. -/
inductive Sm : V → Prop
  | mk {k n : Int} {t : List UInt8} {l : List V} {ks : List (List UInt8)} : t.length ≤ 1000000 → l.length ≤ 1000000 → ks.length ≤ 1000000 → (∀ s ∈ ks, s.length ≤ 1000000) → (∀ x ∈ l, Sm x) → Sm (.mk k n t l ks)
structure SmP (t : List UInt8) (l : List V) (ks : List (List UInt8)) : Prop where
  tl : t.length ≤ 1000000
  ll : l.length ≤ 1000000
  kl : ks.length ≤ 1000000
  ks : ∀ s ∈ ks, s.length ≤ 1000000
  el : ∀ x ∈ l, Sm x
theorem Sm.inv {k n : Int} {t : List UInt8} {l : List V} {ks : List (List UInt8)} (h : Sm (.mk k n t l ks)) : SmP t l ks := by
  cases h with
  | mk a b c d e => exact ⟨a, b, c, d, e⟩
theorem ksz_snoc (l : List (List UInt8)) (s : List UInt8) : ksz (l ++ [s]) = ksz l + (s.length + nesc s + 3) := by
  induction l with
  | nil => simp [ksz]
  | cons a l ih => rw [List.cons_append, ksz, ih, ksz]; omega
theorem ksz_le (l : List (List UInt8)) (h : ∀ s ∈ l, s.length ≤ 1000000) : ksz l ≤ l.length * 3000003 := by
  induction l with
  | nil => simp [ksz]
  | cons a l ih =>
    have h1 := ih (fun s hs => h s (List.mem_cons_of_mem _ hs))
    have h2 := h a List.mem_cons_self
    have h3 := nesc_le a
    rw [ksz, List.length_cons]
    omega
theorem ksz_take (ks : List (List UInt8)) (i : Nat) : ksz (ks.take i) ≤ ksz ks := by
  induction ks generalizing i with
  | nil => simp
  | cons s ks ih =>
    cases i with
    | zero => simp [ksz]
    | succ i => have := ih i; rw [List.take_succ_cons, ksz, ksz]; omega
theorem pow_nDig (u : Nat) (h : 1 ≤ u) : 10 ^ (Lib.nDigits u - 1) ≤ u := by
  induction u using Nat.strongRecOn with
  | _ u ih =>
    by_cases hs : u < 10
    · rw [Lib.nDigits_small hs]; simpa using h
    · rw [Lib.nDigits_big hs]
      have := ih (u / 10) (by omega) (by omega)
      have hp := Lib.nDigits_pos (u / 10)
      rw [show Lib.nDigits (u / 10) + 1 - 1 = (Lib.nDigits (u / 10) - 1) + 1 by omega, Nat.pow_succ]
      omega
theorem nDig19 (u : Nat) (h : u ≤ 9223372036854775808) : Lib.nDigits u ≤ 19 := by
  rcases Nat.lt_or_ge u 1 with h0 | h0
  · have : u = 0 := by omega
    subst this
    rw [Lib.nDigits_small (by omega)]; omega
  · rcases Nat.lt_or_ge (Lib.nDigits u) 20 with h1 | h1
    · omega
    · exfalso
      have h2 := pow_nDig u h0
      have h3 : 10 ^ 19 ≤ 10 ^ (Lib.nDigits u - 1) := Nat.pow_le_pow_right (by omega) (by omega)
      omega
theorem decI_len (n : Int) (h0 : -9223372036854775808 ≤ n) (h1 : n ≤ 9223372036854775807) : (decI n).length ≤ 20 := by
  unfold decI Lib.itoa
  split
  · rw [List.length_cons, Lib.decDigits_length]
    have := nDig19 n.natAbs (by omega)
    omega
  · rw [Lib.decDigits_length]
    have := nDig19 n.toNat (by omega)
    omega
theorem ownSz_le {k n : Int} {t : List UInt8} {l : List V} {ks : List (List UInt8)} (h0 : -9223372036854775808 ≤ n) (h1 : n ≤ 9223372036854775807) (h : SmP t l ks) : ownSz k n t l.length ks ≤ 3000010000010 := by
  have h2 := nesc_le t
  have h3 := h.tl
  have h4 := ksz_le ks h.ks
  have h5 := h.kl
  have h6 := h.ll
  have h7 := decI_len n h0 h1
  unfold ownSz
  repeat' split
  all_goals omega
set_option maxRecDepth 100000 in
set_option maxHeartbeats 2000000 in
theorem ownSize_c (w : World) {D : Nat → Prop} {k n : Int} {t : List UInt8} {l : List V} {ks : List (List UInt8)} {Al Ak : Option Addr} {cl ck : Nat} {css : List (Array Value)}
    (hp : VP D w k n t l ks Al cl Ak ck css) (hs : SmP t l ks) (hL : LaidOk w) :
    Calls Tryd.prog 16 #[.agg (vcs k n t Al l.length cl Ak ks.length ck)] w fun e w' => e = .returned (.int .i64 (ownSz k n t l.length ks : Nat)) ∧ Fr (fun _ => False) w w' := by
  have b1 := hs.tl
  have b2 := hs.ll
  have b3 := hs.kl
  have b4 := nesc_le t
  have hts := strOf_size t
  have HP := Lib.hid hp
  have HSM := Lib.hid hs
  have FMT := Lib.hid (fun W (hW : Fr (fun _ => False) w W) => format_c W n hp.b.n0 hp.b.n1 (hL.far hW))
  have hdl := decI_len n hp.b.n0 hp.b.n1
  clear hp hs hL
  by_cases h1 : k = 1
  case pos =>
    obtain rfl := h1
    go_enter Tryd.func16, Tryd.ntmps16
    go_upto_region 1 with fail
    refine abs_world (fun W => Hid (Blk W w.heap.size 25 (vcs 1 n t Al l.length cl Ak ks.length ck)) ∧ Hid (Fr (fun _ => False) w W)) ⟨Blk.new w _ _, (Fr.refl _ w).alloc _⟩ ?_
    rintro W1 ⟨B1, F1⟩
    have c0 : W1.cell? ⟨w.heap.size, 0, none⟩ = some (.int .i64 1) := B1.out.cell 0
    have c1 : W1.cell? ⟨w.heap.size, 1, none⟩ = some (.int .i64 n) := B1.out.cell 1
    have c2 : W1.cell? ⟨w.heap.size, 2, none⟩ = some (.string (strOf t)) := B1.out.cell 2
    have c3 : W1.cell? ⟨w.heap.size, 3, none⟩ = some (.slice Al l.length cl) := B1.out.cell 3
    have c4 : W1.cell? ⟨w.heap.size, 4, none⟩ = some (.slice Ak ks.length ck) := B1.out.cell 4
    go_wp2_with fail
    go_ret
    exact ⟨ret_int (by simp [ownSz]), F1.out⟩
  by_cases h3 : k = 3
  case pos =>
    obtain rfl := h3
    go_enter Tryd.func16, Tryd.ntmps16
    go_upto_region 1 with fail
    refine abs_world (fun W => Hid (Blk W w.heap.size 25 (vcs 3 n t Al l.length cl Ak ks.length ck)) ∧ Hid (Fr (fun _ => False) w W)) ⟨Blk.new w _ _, (Fr.refl _ w).alloc _⟩ ?_
    rintro W1 ⟨B1, F1⟩
    have c0 : W1.cell? ⟨w.heap.size, 0, none⟩ = some (.int .i64 3) := B1.out.cell 0
    have c1 : W1.cell? ⟨w.heap.size, 1, none⟩ = some (.int .i64 n) := B1.out.cell 1
    have c2 : W1.cell? ⟨w.heap.size, 2, none⟩ = some (.string (strOf t)) := B1.out.cell 2
    have c3 : W1.cell? ⟨w.heap.size, 3, none⟩ = some (.slice Al l.length cl) := B1.out.cell 3
    have c4 : W1.cell? ⟨w.heap.size, 4, none⟩ = some (.slice Ak ks.length ck) := B1.out.cell 4
    go_wp2_with fail
    refine (FMT.out W1 F1.out).mono ?_
    rintro e W2 ⟨rfl, f2⟩
    have F2 := Lib.hid (F1.out.trans f2 (fun _ _ h => h))
    have hsz := strOf_size (decI n)
    clear f2
    go_wp2_with fail
    go_ret
    exact ⟨ret_int (by simp [ownSz]), F2.out⟩
  by_cases h4 : k = 4
  case pos =>
    obtain rfl := h4
    go_enter Tryd.func16, Tryd.ntmps16
    go_upto_region 1 with fail
    refine abs_world (fun W => Hid (Blk W w.heap.size 25 (vcs 4 n t Al l.length cl Ak ks.length ck)) ∧ Hid (Fr (fun _ => False) w W)) ⟨Blk.new w _ _, (Fr.refl _ w).alloc _⟩ ?_
    rintro W1 ⟨B1, F1⟩
    have c0 : W1.cell? ⟨w.heap.size, 0, none⟩ = some (.int .i64 4) := B1.out.cell 0
    have c1 : W1.cell? ⟨w.heap.size, 1, none⟩ = some (.int .i64 n) := B1.out.cell 1
    have c2 : W1.cell? ⟨w.heap.size, 2, none⟩ = some (.string (strOf t)) := B1.out.cell 2
    have c3 : W1.cell? ⟨w.heap.size, 3, none⟩ = some (.slice Al l.length cl) := B1.out.cell 3
    have c4 : W1.cell? ⟨w.heap.size, 4, none⟩ = some (.slice Ak ks.length ck) := B1.out.cell 4
    have ESC := Lib.hid (fun W => (escapes_c W t (by omega)).mono (fun e w' (h : e = .returned (.int .i64 (nesc t : Nat)) ∧ W = w') => (⟨h.1, h.2.symm⟩ : e = .returned (.int .i64 (nesc t : Nat)) ∧ w' = W)))
    go_wp2_with fail
    have s1 : IntKind.i64.wrap ((t.length : Int) + (nesc t : Int)) = (t.length : Int) + (nesc t : Int) := IntWalk.i64_in _ (by omega)
    have s2 : IntKind.i64.wrap ((t.length : Int) + (nesc t : Int) + 2) = (t.length : Int) + (nesc t : Int) + 2 := IntWalk.i64_in _ (by omega)
    go_quiet ((go_at_call 32; exact Calls.quiet_of_same (ESC.out _)))
    clear s1 s2
    go_wp2_with fail
    go_ret
    exact ⟨ret_int (by simp [ownSz]), F1.out.drewN _⟩
  by_cases h5 : k = 5
  case pos =>
    obtain rfl := h5
    go_enter Tryd.func16, Tryd.ntmps16
    go_upto_region 1 with fail
    refine abs_world (fun W => Hid (Blk W w.heap.size 25 (vcs 5 n t Al l.length cl Ak ks.length ck)) ∧ Hid (Fr (fun _ => False) w W)) ⟨Blk.new w _ _, (Fr.refl _ w).alloc _⟩ ?_
    rintro W1 ⟨B1, F1⟩
    have c0 : W1.cell? ⟨w.heap.size, 0, none⟩ = some (.int .i64 5) := B1.out.cell 0
    have c1 : W1.cell? ⟨w.heap.size, 1, none⟩ = some (.int .i64 n) := B1.out.cell 1
    have c2 : W1.cell? ⟨w.heap.size, 2, none⟩ = some (.string (strOf t)) := B1.out.cell 2
    have c3 : W1.cell? ⟨w.heap.size, 3, none⟩ = some (.slice Al l.length cl) := B1.out.cell 3
    have c4 : W1.cell? ⟨w.heap.size, 4, none⟩ = some (.slice Ak ks.length ck) := B1.out.cell 4
    go_wp2_with fail
    have hmx : max (0 : Int) ((l.length : Int) - 1) = ((l.length - 1 : Nat) : Int) := by omega
    have HMX := Lib.hid hmx
    clear hmx
    have hkt := ksz_le ks HSM.out.ks
    have HKT := Lib.hid (ksz_take ks)
    clear c0 c1 c2 c3
    go_loopw [3, 38] (fun nv iv wr => ∃ i : Nat, i ≤ ks.length ∧ iv = .int .i64 (i : Int) ∧ nv = .int .i64 ((2 + (l.length - 1) + ksz (ks.take i) : Nat) : Int) ∧ wr = W1) (fun _ iv _ => ks.length - (intOf iv).toNat)
    case atStart => exact ⟨0, Nat.zero_le _, rfl, by have := HMX.out; congr 1; simp only [List.take_zero, ksz]; omega, rfl⟩
    case round =>
      obtain ⟨i, hi, rfl, rfl, rfl⟩ := hrel
      have hkp := HKT.out i
      by_cases hlt : i < ks.length
      · obtain ⟨b, off, hA, hc⟩ := (HP.out.far F1.out).key hlt
        subst hA
        have hq := HSM.out.ks ks[i] (List.getElem_mem hlt)
        have hne := nesc_le ks[i]
        have hsz : (strOf ks[i]).size = (ks[i]).length := strOf_size _
        have hdl2 : decide ((i : Int) < (ks.length : Int)) = true := decide_eq_true (by omega)
        have hdl' : decide (i < ks.length) = true := decide_eq_true hlt
        have hsn : ksz (ks.take (i + 1)) = ksz (ks.take i) + ((ks[i]).length + nesc ks[i] + 3) := by rw [List.take_succ_eq_append_getElem hlt, ksz_snoc]
        have HSN := Lib.hid hsn
        clear hsn
        go_wp2_with fail
        refine (escapes_c wr ks[i] (by omega)).mono ?_
        rintro e W2 ⟨rfl, rfl⟩
        go_wp2_with fail
        go_roundw
        case rel => exact ⟨i + 1, by omega, by go_num, by rw [HSN.out]; congr 1; omega, trivial⟩
        case measure => simp [intOf]; omega
      · obtain rfl : i = ks.length := by omega
        have hdl2 : decide ((ks.length : Int) < (ks.length : Int)) = false := decide_eq_false (by omega)
        have hdl' : decide (ks.length < ks.length) = false := decide_eq_false (by omega)
        go_wp2_with fail
        go_ret
        exact ⟨ret_int (by simp [ownSz]), F1.out⟩
  by_cases h6 : k = 6
  case pos =>
    obtain rfl := h6
    go_enter Tryd.func16, Tryd.ntmps16
    go_upto_region 1 with fail
    refine abs_world (fun W => Hid (Blk W w.heap.size 25 (vcs 6 n t Al l.length cl Ak ks.length ck)) ∧ Hid (Fr (fun _ => False) w W)) ⟨Blk.new w _ _, (Fr.refl _ w).alloc _⟩ ?_
    rintro W1 ⟨B1, F1⟩
    have c0 : W1.cell? ⟨w.heap.size, 0, none⟩ = some (.int .i64 6) := B1.out.cell 0
    have c1 : W1.cell? ⟨w.heap.size, 1, none⟩ = some (.int .i64 n) := B1.out.cell 1
    have c2 : W1.cell? ⟨w.heap.size, 2, none⟩ = some (.string (strOf t)) := B1.out.cell 2
    have c3 : W1.cell? ⟨w.heap.size, 3, none⟩ = some (.slice Al l.length cl) := B1.out.cell 3
    have c4 : W1.cell? ⟨w.heap.size, 4, none⟩ = some (.slice Ak ks.length ck) := B1.out.cell 4
    go_wp2_with fail
    have hmx : max (0 : Int) ((l.length : Int) - 1) = ((l.length - 1 : Nat) : Int) := by omega
    have HMX := Lib.hid hmx
    clear hmx
    have hkt := ksz_le ks HSM.out.ks
    have HKT := Lib.hid (ksz_take ks)
    clear c0 c1 c2 c3
    go_loopw [3, 38] (fun nv iv wr => ∃ i : Nat, i ≤ ks.length ∧ iv = .int .i64 (i : Int) ∧ nv = .int .i64 ((2 + (l.length - 1) + ksz (ks.take i) : Nat) : Int) ∧ wr = W1) (fun _ iv _ => ks.length - (intOf iv).toNat)
    case atStart => exact ⟨0, Nat.zero_le _, rfl, by have := HMX.out; congr 1; simp only [List.take_zero, ksz]; omega, rfl⟩
    case round =>
      obtain ⟨i, hi, rfl, rfl, rfl⟩ := hrel
      have hkp := HKT.out i
      by_cases hlt : i < ks.length
      · obtain ⟨b, off, hA, hc⟩ := (HP.out.far F1.out).key hlt
        subst hA
        have hq := HSM.out.ks ks[i] (List.getElem_mem hlt)
        have hne := nesc_le ks[i]
        have hsz : (strOf ks[i]).size = (ks[i]).length := strOf_size _
        have hdl2 : decide ((i : Int) < (ks.length : Int)) = true := decide_eq_true (by omega)
        have hdl' : decide (i < ks.length) = true := decide_eq_true hlt
        have hsn : ksz (ks.take (i + 1)) = ksz (ks.take i) + ((ks[i]).length + nesc ks[i] + 3) := by rw [List.take_succ_eq_append_getElem hlt, ksz_snoc]
        have HSN := Lib.hid hsn
        clear hsn
        go_wp2_with fail
        refine (escapes_c wr ks[i] (by omega)).mono ?_
        rintro e W2 ⟨rfl, rfl⟩
        go_wp2_with fail
        go_roundw
        case rel => exact ⟨i + 1, by omega, by go_num, by rw [HSN.out]; congr 1; omega, trivial⟩
        case measure => simp [intOf]; omega
      · obtain rfl : i = ks.length := by omega
        have hdl2 : decide ((ks.length : Int) < (ks.length : Int)) = false := decide_eq_false (by omega)
        have hdl' : decide (ks.length < ks.length) = false := decide_eq_false (by omega)
        go_wp2_with fail
        go_ret
        exact ⟨ret_int (by simp [ownSz]), F1.out⟩
  have e1 : (k == 1) = false := by simpa using h1
  have e3 : (k == 3) = false := by simpa using h3
  have e4 : (k == 4) = false := by simpa using h4
  have e5 : (k == 5) = false := by simpa using h5
  have e6 : (k == 6) = false := by simpa using h6
  have HV : Hid (ownSz k n t l.length ks = 4) := by
    refine Lib.hid ?_
    unfold ownSz
    rw [if_neg h1, if_neg h3, if_neg h4, if_neg (fun h => h.elim h5 h6)]
  clear h1 h3 h4 h5 h6
  go_enter Tryd.func16, Tryd.ntmps16
  go_upto_region 1 with fail
  refine abs_world (fun W => Hid (Blk W w.heap.size 25 (vcs k n t Al l.length cl Ak ks.length ck)) ∧ Hid (Fr (fun _ => False) w W)) ⟨Blk.new w _ _, (Fr.refl _ w).alloc _⟩ ?_
  rintro W1 ⟨B1, F1⟩
  have c0 : W1.cell? ⟨w.heap.size, 0, none⟩ = some (.int .i64 k) := B1.out.cell 0
  have c1 : W1.cell? ⟨w.heap.size, 1, none⟩ = some (.int .i64 n) := B1.out.cell 1
  have c2 : W1.cell? ⟨w.heap.size, 2, none⟩ = some (.string (strOf t)) := B1.out.cell 2
  have c3 : W1.cell? ⟨w.heap.size, 3, none⟩ = some (.slice Al l.length cl) := B1.out.cell 3
  have c4 : W1.cell? ⟨w.heap.size, 4, none⟩ = some (.slice Ak ks.length ck) := B1.out.cell 4
  go_wp2_with fail
  go_ret
  exact ⟨ret_int (by rw [HV.out]; rfl), F1.out⟩
end Go.Proofs.YtnkfkicabgajmaaDoor
