/-
  A ROW OF NUMBERS, as an array; CONTRACTS of cmp.Less and of insertionSortOrdered at uint64.
-/
import Derived.Test.YtpgklhbbjbdejaaYes
import Derived.Sort.LotA
import Derived.Sort.LotB
import Derived.Sort.LotC
import Derived.CellFam
import Derived.BigGuard
import Derived.BigCall
import Derived.BigQuiet
import Derived.BigRegion
import Derived.Deep.QuietTactic
namespace Go.Proofs.Ytpgklhbbjbdejaa
set_option linter.unusedSimpArgs false
set_option linter.unusedVariables false
open Go Go.RowKit Go.Sort

def lt6 (x y : Nat) : Bool := decide (x < y)
theorem lt6_swo : SWO lt6 := ⟨fun x => by simp [lt6], fun x y z h k => by simp [lt6] at *; omega, fun x y z h k => by simp [lt6] at *; omega⟩
abbrev eU (x : Nat) : Value := .int .u64 (x : Nat)
/-- Block g holds the numbers d, and behind them the rest. -/
def RowU (W : World) (g : Nat) (d : Array Nat) (rest : List Value) : Prop := Blk W g 32 (d.toList.map eU ++ rest).toArray
section
variable {W W' : World} {g : Nat} {d : Array Nat} {rest : List Value}
theorem RowU.cell (h : RowU W g d rest) {i : Nat} (hi : i < d.size) : W.cell? ⟨g, i, none⟩ = some (eU d[i]!) := by
  have := Blk.cell h i
  rw [this, List.getElem?_toArray, List.getElem?_append_left (by simpa using hi), List.getElem?_map, Array.getElem?_toList, Array.getElem?_eq_getElem hi]
  simp [hi]
theorem RowU.frozen (h : RowU W g d rest) (i : Nat) : W.frozen? ⟨g, i, none⟩ = false := Blk.frozen h i
theorem RowU.set1 (h : RowU W g d rest) {i : Nat} (hi : i < d.size) (x : Nat) : RowU (W.setCell ⟨g, i, none⟩ (eU x)) g (d.setIfInBounds i x) rest := by
  have h2 := Blk.set_ h i (eU x)
  have e : (d.toList.map eU ++ rest).toArray.setIfInBounds i (eU x) = ((d.setIfInBounds i x).toList.map eU ++ rest).toArray := by
    rw [List.setIfInBounds_toArray, List.set_append_left _ _ (by simpa using hi), Array.toList_setIfInBounds, List.map_set]
  rw [e] at h2
  exact h2
theorem RowU.swp (h : RowU W g d rest) {i j : Nat} (hi : i < d.size) (hj : j < d.size) : RowU ((W.setCell ⟨g, i, none⟩ (eU d[j]!)).setCell ⟨g, j, none⟩ (eU d[i]!)) g (swp d i j) rest :=
  (h.set1 hi d[j]!).set1 (by simpa using hj) d[i]!
end
/-- The row has become d; nothing else has turned. -/
def Now (w : World) (g : Nat) (rest : List Value) (n : Nat) (wr : World) (d : Array Nat) : Prop := Fr (fun k => k = g) w wr ∧ RowU wr g d rest ∧ d.size = n
section
variable {w wr : World} {g n : Nat} {d : Array Nat} {rest : List Value}
theorem Now.start (h : RowU w g d rest) : Now w g rest d.size w d := ⟨Fr.refl _ _, h, rfl⟩
theorem Now.drewN (h : Now w g rest n wr d) (q : Nat) : Now w g rest n (wr.drewN q) d := ⟨h.1.drewN q, h.2.1, h.2.2⟩
theorem Now.drew (h : Now w g rest n wr d) : Now w g rest n wr.drew d := ⟨h.1.drew, h.2.1, h.2.2⟩
theorem Now.swp (h : Now w g rest n wr d) {i j : Nat} (hi : i < n) (hj : j < n) : Now w g rest n ((wr.setCell ⟨g, i, none⟩ (eU d[j]!)).setCell ⟨g, j, none⟩ (eU d[i]!)) (swp d i j) :=
  ⟨(h.1.setCell (p := ⟨g, i, none⟩) (fun _ => rfl) _).setCell (p := ⟨g, j, none⟩) (fun _ => rfl) _, h.2.1.swp (by rw [h.2.2]; exact hi) (by rw [h.2.2]; exact hj), by rw [size_swp]; exact h.2.2⟩
theorem Now.cells (h : Now w g rest n wr d) : ∀ t, t < n → wr.cell? ⟨g, t, none⟩ = some (eU d[t]!) := fun t ht => h.2.1.cell (by rw [h.2.2]; exact ht)
theorem Now.froz (h : Now w g rest n wr d) : ∀ t, t < n → wr.frozen? ⟨g, t, none⟩ = false := fun t _ => h.2.1.frozen t
theorem Now.then {w2 : World} {d2 : Array Nat} (h : Now w g rest n wr d) (k : Now wr g rest n w2 d2) : Now w g rest n w2 d2 := ⟨h.1.trans k.1 (fun _ _ e => e), k.2⟩
end

theorem nan_c (w : World) (x : Nat) : Calls Try.prog 57 #[.int .u64 (x : Nat)] w fun e w' => e = .returned (.bool false) ∧ w' = w := by
  go_enter Try.func57, Try.ntmps57
  go_wp2
  go_ret
  exact ⟨by simp, rfl⟩
theorem less_c (w : World) (x y : Nat) : Calls Try.prog 47 #[.int .u64 (x : Nat), .int .u64 (y : Nat)] w fun e w' => e = .returned (.bool (lt6 x y)) ∧ w' = w := by
  have hl : decide ((x : Int) < (y : Int)) = lt6 x y := by unfold lt6; congr 1; exact propext (by omega)
  go_enter Try.func47, Try.ntmps47
  go_wp2_with (go_at_call 57; refine (nan_c _ _).mono ?_; rintro e w' ⟨rfl, rfl⟩)
  go_ret
  exact ⟨by first | rfl | rw [hl], rfl⟩
section
variable {α : Type} [Inhabited α] (lt : α → α → Bool)
theorem insI_step (a j : Nat) (d : Array α) (hj : a < j) (hl : lt d[j]! d[j - 1]! = true) : insInner lt a j d = insInner lt a (j - 1) (swp d j (j - 1)) := by
  cases j with
  | zero => omega
  | succ k =>
    have hl : lt d[k + 1]! d[k]! = true := hl
    show insInner lt a (k + 1) d = insInner lt a k (swp d (k + 1) k)
    rw [insInner, hl, show decide (k + 1 > a) = true from decide_eq_true hj]
    rfl
theorem insI_end (a j : Nat) (d : Array α) (h : j ≤ a ∨ lt d[j]! d[j - 1]! = false) : insInner lt a j d = d := by
  cases j with
  | zero => rw [insInner]
  | succ k =>
    rw [insInner]
    rcases h with h | h
    · rw [show decide (k + 1 > a) = false from decide_eq_false (by omega)]
      rfl
    · have h : lt d[k + 1]! d[k]! = false := h
      rw [h, Bool.and_false]
      rfl
end
set_option maxRecDepth 100000 in
set_option maxHeartbeats 2000000 in
theorem ins_c (w : World) (g c a b : Nat) (d : Array Nat) (rest : List Value) (hR : RowU w g d rest) (hab : a ≤ b) (hb : b ≤ d.size) (hsz : d.size ≤ 1000000) :
    Calls Try.prog 41 #[.slice (some ⟨g, 0, none⟩) d.size c, .int .i64 a, .int .i64 b] w fun e w' => e = .returned (.tuple #[]) ∧ Now w g rest d.size w' (insertionSort lt6 d a b) := by
  obtain ⟨n, hn⟩ : ∃ n, d.size = n := ⟨_, rfl⟩
  have H0 : Hid (Now w g rest n w d) := hn ▸ Now.start hR
  rw [hn] at hb hsz ⊢
  clear hR hn
  go_enter Try.func41, Try.ntmps41
  go_wp2_with fail
  go_loopw [6] (fun vi wr => ∃ (i : Nat) (dk : Array Nat), vi = .int .i64 i ∧ a < i ∧ i ≤ b + 1 ∧ Hid (Now w g rest n wr dk) ∧ Hid (insOuter lt6 a b i dk = insOuter lt6 a b (a + 1) d)) (fun vi _ => b + 1 - (intOf vi).toNat)
  case atStart => exact ⟨a + 1, d, by go_num, by omega, by omega, H0, rfl⟩
  case round =>
    obtain ⟨i, dk, rfl, hai, hib, N1, HO⟩ := hrel
    clear H0
    by_cases hlt : i < b
    · have hdl : decide ((i : Int) < (b : Int)) = true := decide_eq_true (by omega)
      obtain ⟨wq, rfl⟩ : ∃ wq, wq = wr := ⟨_, rfl⟩
      go_wp2_with fail
      clear hdl
      go_loopw [7] (fun vj wr => ∃ (j : Nat) (dj : Array Nat), vj = .int .i64 j ∧ a ≤ j ∧ j ≤ i ∧ Hid (Now w g rest n wr dj) ∧ Hid (insInner lt6 a j dj = insInner lt6 a i dk)) (fun vj _ => (intOf vj).toNat)
      case atStart => exact ⟨i, dk, rfl, by omega, Nat.le_refl _, N1, rfl⟩
      case round =>
        obtain ⟨j, dj, rfl, haj, hji, N2, HI⟩ := hrel
        obtain ⟨G, hG⟩ : ∃ G : Nat → Nat, ∀ t, dj[t]! = G t := ⟨fun t => dj[t]!, fun _ => rfl⟩
        have hcw := N2.out.cells
        have hfw := N2.out.froz
        simp only [hG] at hcw
        have HG := Lib.hid hG
        clear hG
        have nd : ∀ q, (j ≤ a ∨ lt6 (G j) (G (j - 1)) = false) → ∃ (i' : Nat) (dk' : Array Nat), Value.int .i64 ((i : Int) + 1) = .int .i64 i' ∧ a < i' ∧ i' ≤ b + 1 ∧ Hid (Now w g rest n (wr.drewN q) dk') ∧ Hid (insOuter lt6 a b i' dk' = insOuter lt6 a b (a + 1) d) := fun q hs =>
          ⟨i + 1, dj, by go_num, by omega, by omega, N2.out.drewN q, by
            rw [← HG.out, ← HG.out] at hs
            have h1 := HO.out
            rw [insOuter, if_pos hlt] at h1
            have h2 := HI.out
            rw [insI_end lt6 a j dj hs] at h2
            show insOuter lt6 a b (i + 1) dj = _
            rw [h2]
            exact h1⟩
        have ND := Lib.hid nd
        clear nd
        go_wp2_with fail
        by_cases hja : a < j
        · have hdj : decide ((a : Int) < (j : Int)) = true := decide_eq_true (by omega)
          have j1 : (j : Int) < (n : Int) := by omega
          have j2 : (j : Int) - 1 = ((j - 1 : Nat) : Int) := by omega
          have j3 : ((j - 1 : Nat) : Int) < (n : Int) := by omega
          have j4 : j < n := by omega
          have j5 : j - 1 < n := by omega
          cases hl : lt6 (G j) (G (j - 1)) with
          | true =>
            go_quiet (first | (go_at_call 47; refine Calls.quiet_of_same (less_c _ _ _)))
            go_wp2_with fail
            have N3 := Lib.hid (N2.out.drewN nq)
            go_region
            all_goals go_wp2_with fail
            all_goals go_roundw
            case rel => exact ⟨j - 1, swp dj j (j - 1), by go_num, by omega, by omega, by have h := N2.out.swp (i := j) (j := j - 1) (by omega) (by omega); rw [HG.out, HG.out] at h; exact ⟨⟨h.1.os, h.1.tape, h.1.output, h.1.size, h.1.block⟩, h.2⟩, by
              rw [← HI.out, insI_step lt6 a j dj hja (by rw [HG.out, HG.out]; exact hl)]; exact rfl⟩
            case measure => simp [intOf]; omega
          | false =>
            go_quiet (first | (go_at_call 47; refine Calls.quiet_of_same (less_c _ _ _)))
            go_wp2_with fail
            go_roundw
            case rel => exact ND.out nq (.inr hl)
            case measure => simp [intOf]; omega
        · have hdj : decide ((a : Int) < (j : Int)) = false := decide_eq_false (by omega)
          go_quiet (first | (go_at_call 47; refine Calls.quiet_of_same (less_c _ _ _)))
          go_wp2_with fail
          go_roundw
          case rel => exact ND.out nq (.inl (by omega))
          case measure => simp [intOf]; omega
    · have hdl : decide ((i : Int) < (b : Int)) = false := decide_eq_false (by omega)
      go_wp2_with fail
      go_end0
      refine ⟨rfl, ?_⟩
      have h1 := HO.out
      rw [insOuter, if_neg hlt] at h1
      have := N1.out
      rw [h1] at this
      exact this
end Go.Proofs.Ytpgklhbbjbdejaa
