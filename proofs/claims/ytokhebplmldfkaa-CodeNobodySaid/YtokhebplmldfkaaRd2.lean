/-
  CONTRACTS of code.Reader's inner calls: next, big, number.
-/
import Derived.Test.YtokhebplmldfkaaRd
import Derived.BigQuiet
import Derived.Deep.QuietTactic
namespace Go.Proofs.Ytokhebplmldfkaa
set_option linter.unusedSimpArgs false
set_option linter.unusedVariables false
open Go Go.RowKit

theorem Rr.fr {w w' : World} {b : Nat} {v : Value} {l : List UInt8} {p : Nat} {f : Bool} {fp : Nat → Prop} (h : Rr w b v l p f) (hf : Fr fp w w') (h1 : ¬ fp b) (h2 : ∀ k, v.ownBlock = some k → ¬ fp k) : Rr w' b v l p f :=
  ⟨h.1.fr hf h1, own_fr h.2.1 hf h2, h.2.2⟩
theorem Rr.ne {w : World} {b : Nat} {v : Value} {l : List UInt8} {p : Nat} {f : Bool} (h : Rr w b v l p f) : v.ownBlock ≠ some b := own_blk_ne h.2.1 h.1 (by decide)
theorem Rr.drewN {w : World} {b : Nat} {v : Value} {l : List UInt8} {p : Nat} {f : Bool} (h : Rr w b v l p f) (n : Nat) : Rr (w.drewN n) b v l p f := h.fr ((Fr.refl (fun _ => False) w).drewN n) (fun h => h) (fun _ _ h => h)

/-- What next leaves where there are n bytes: these, and the place n on. -/
def NextOk (w : World) (b : Nat) (v : Value) (l : List UInt8) (p n : Nat) (e : Ending) (w' : World) : Prop :=
  ∃ A c, e = .returned (.slice A n c) ∧ Rr w' b v l (p + n) false ∧ Rd w' A n (bv ((l.drop p).take n)) ∧ Fr (fun k => k = b) w w'
set_option maxHeartbeats 400000 in
theorem next_ok (w : World) (b : Nat) (v : Value) (l : List UInt8) (p : Nat) (n : Int) (h : Rr w b v l p false) (h0 : 0 ≤ n) (hn : n ≤ (l.length - p : Nat)) :
    Calls Try.prog 55 #[.pointer (some ⟨b, 0, none⟩), .int .u64 n] w (NextOk w b v l p n.toNat) := by
  obtain ⟨A, c, rfl, hc1, hc2⟩ := own_slice h.2.1
  obtain ⟨N, rfl⟩ : ∃ N : Nat, n = N := ⟨n.toNat, by omega⟩
  rw [Int.toNat_natCast]
  have c0 := h.1.cell 0
  have c1 := h.1.cell 1
  have k1 := h.1.frozen 1
  have hp := h.2.2.1
  have hm := h.2.2.2
  have H := Lib.hid h
  clear h
  go_enter Try.func55, Try.ntmps55
  go_wp2_with fail
  go_quiet (fail)
  go_wp2_with fail
  generalize hw2 : (w.drewN nq).setCell ⟨b, 1, none⟩ (.int .i64 ((p : Int) + N)) = w2
  have b1 : (p : Int) ≤ (p : Int) + N := by omega
  have b2 : (p : Int) + N ≤ (c : Int) := by omega
  have H2 : Rr w2 b (.slice A l.length c) l (p + N) false := by
    subst hw2
    have hd := (H.out.drewN nq)
    refine ⟨?_, ?_, by omega, hm⟩
    · have := hd.1.set_ 1 (.int .i64 ((p : Int) + N))
      simpa using this
    · exact own_fr hd.2.1 ((Fr.refl (fun k => k = b) _).setCell (fun _ => rfl) _) (fun k hk e => hd.ne (by rw [hk, e]))
  have F2 : Fr (fun k => k = b) w w2 := by subst hw2; exact ((Fr.refl (fun k => k = b) w).drewN nq).setCell (fun _ => rfl) _
  have d0 := H2.1.cell 0
  have d1 := H2.1.cell 1
  have r := Rd.take ((Rd.of_own H2.2.1).cut (k := p) (cap := c) (by omega) (by omega)) (k := N) (by omega)
  rw [← bv_drop, ← bv_take] at r
  have HR := Lib.hid r
  have HH2 := Lib.hid H2
  clear c0 c1 k1 hw2 H r H2
  by_cases hcp : c = p
  · obtain rfl : N = 0 := by omega
    subst hcp
    go_quiet (fail)
    go_wp2_with fail
    go_ret
    exact ⟨_, _, rfl, HH2.out.drewN nq, by simpa [bv] using Rd.none_ _ _, F2.drewN nq⟩
  · go_quiet (fail)
    go_wp2_with fail
    go_ret
    have r := HR.out
    rw [if_neg hcp] at r
    exact ⟨_, _, by show Ending.returned (Value.slice (Option.map (fun x => x.add p) A) (p + N - p) (c - p)) = _; rw [Nat.add_sub_cancel_left], HH2.out.drewN nq, r.drewN nq, F2.drewN nq⟩

set_option maxHeartbeats 400000 in
theorem next_no (w : World) (b : Nat) (v : Value) (l : List UInt8) (p : Nat) (n : Int) (h : Rr w b v l p false) (h0 : 0 ≤ n) (hn : (l.length - p : Nat) < n) :
    Calls Try.prog 55 #[.pointer (some ⟨b, 0, none⟩), .int .u64 n] w fun e w' => e = .returned (.slice none 0 0) ∧ Rr w' b v l p true ∧ Fr (fun k => k = b) w w' := by
  obtain ⟨A, c, rfl, hc1, hc2⟩ := own_slice h.2.1
  have c0 := h.1.cell 0
  have c1 := h.1.cell 1
  have c2 := h.1.cell 2
  have k2 := h.1.frozen 2
  have hp := h.2.2.1
  have hm := h.2.2.2
  have H := Lib.hid h
  clear h
  go_enter Try.func55, Try.ntmps55
  go_wp2_with fail
  go_quiet (fail)
  go_wp2_with fail
  go_ret
  have hd := (H.out.drewN nq)
  refine ⟨rfl, ⟨?_, ?_, hp, hm⟩, ((Fr.refl (fun k => k = b) w).drewN nq).setCell (fun _ => rfl) _⟩
  · have := hd.1.set_ 2 (.bool true)
    simpa using this
  · exact own_fr hd.2.1 ((Fr.refl (fun k => k = b) _).setCell (fun _ => rfl) _) (fun k hk e => hd.ne (by rw [hk, e]))
end Go.Proofs.Ytokhebplmldfkaa
