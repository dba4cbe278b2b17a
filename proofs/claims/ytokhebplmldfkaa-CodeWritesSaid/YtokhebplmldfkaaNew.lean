/-
  A Writer, a Reader that were made since a world w: nothing of w has turned.
-/
import Derived.Test.YtokhebplmldfkaaRm
namespace Go.Proofs.Ytokhebplmldfkaa
set_option linter.unusedSimpArgs false
set_option linter.unusedVariables false
open Go Go.RowKit

/-- A Writer in block b made since w. -/
structure WN (w : World) (b : Nat) (v : Value) (l : List UInt8) (wi : World) : Prop where
  wr : Wr wi b v l
  fr : Fr (fun _ => False) w wi
  b0 : w.heap.size ≤ b
  v0 : ∀ k, v.ownBlock = some k → w.heap.size ≤ k
theorem WN.step {w wi wj : World} {b : Nat} {v : Value} {l l' : List UInt8} (h : WN w b v l wi) (hs : WStep b v l' wi wj) : ∃ v', WN w b v' l' wj ∧ Fr (fun k => k = b ∨ v.ownBlock = some k) wi wj ∧ ∀ k, v'.ownBlock = some k → v.ownBlock = some k ∨ wi.heap.size ≤ k := by
  obtain ⟨v', h1, h2, h3⟩ := hs
  refine ⟨v', ⟨h1, h.fr.trans h2 (fun i hi hq => ?_), h.b0, fun k hk => ?_⟩, h2, h3⟩
  · rcases hq with rfl | hq
    · exact absurd h.b0 (by omega)
    · exact absurd (h.v0 i hq) (by omega)
  · rcases h3 k hk with h4 | h4
    · exact h.v0 k h4
    · exact Nat.le_trans h.fr.size h4
theorem WN.alloc {w wi : World} {b : Nat} {v : Value} {l : List UInt8} (h : WN w b v l wi) (o : Obj) : WN w b v l (wi.alloc o) := ⟨h.wr.alloc o, h.fr.alloc o, h.b0, h.v0⟩
/-- What another one does, apart from this Writer's blocks. -/
theorem WN.by {w wi wj : World} {b : Nat} {v : Value} {l : List UInt8} {fp : Nat → Prop} (h : WN w b v l wi) (hf : Fr fp wi wj) (h0 : ∀ k, k < w.heap.size → ¬ fp k) (h1 : ¬ fp b) (h2 : ∀ k, v.ownBlock = some k → ¬ fp k) : WN w b v l wj :=
  ⟨h.wr.fr hf h1 h2, h.fr.trans hf (fun i hi hq => h0 i hi hq), h.b0, h.v0⟩
theorem WN.far {w wi wj : World} {b : Nat} {v : Value} {l : List UInt8} (h : WN w b v l wi) (hf : Fr (fun _ => False) wi wj) : WN w b v l wj := h.by hf (fun _ _ h => h) (fun h => h) (fun _ _ h => h)

theorem WN.later {w w0 wi : World} {b : Nat} {v : Value} {l : List UInt8} (hf : Fr (fun _ => False) w w0) (h : WN w0 b v l wi) : WN w b v l wi :=
  ⟨h.wr, hf.trans h.fr (fun _ _ h => h), Nat.le_trans hf.size h.b0, fun k hk => Nat.le_trans hf.size (h.v0 k hk)⟩

/-- A Reader in block b made since w. -/
structure RN (w : World) (b : Nat) (v : Value) (l : List UInt8) (p : Nat) (f : Bool) (wi : World) : Prop where
  rr : Rr wi b v l p f
  fr : Fr (fun _ => False) w wi
  b0 : w.heap.size ≤ b
  v0 : ∀ k, v.ownBlock = some k → w.heap.size ≤ k
theorem RN.step {w wi wj : World} {b : Nat} {v : Value} {l : List UInt8} {p q : Nat} {f g : Bool} (h : RN w b v l p f wi) (hf : Fr (fun k => k = b) wi wj) (hr : Rr wj b v l q g) : RN w b v l q g wj :=
  ⟨hr, h.fr.trans hf (fun i hi hq => absurd h.b0 (by omega)), h.b0, h.v0⟩
theorem RN.by {w wi wj : World} {b : Nat} {v : Value} {l : List UInt8} {p : Nat} {f : Bool} {fp : Nat → Prop} (h : RN w b v l p f wi) (hf : Fr fp wi wj) (h0 : ∀ k, k < w.heap.size → ¬ fp k) (h1 : ¬ fp b) (h2 : ∀ k, v.ownBlock = some k → ¬ fp k) : RN w b v l p f wj :=
  ⟨h.rr.fr hf h1 h2, h.fr.trans hf (fun i hi hq => h0 i hi hq), h.b0, h.v0⟩
theorem RN.far {w wi wj : World} {b : Nat} {v : Value} {l : List UInt8} {p : Nat} {f : Bool} (h : RN w b v l p f wi) (hf : Fr (fun _ => False) wi wj) : RN w b v l p f wj := h.by hf (fun _ _ h => h) (fun h => h) (fun _ _ h => h)
theorem RN.alloc {w wi : World} {b : Nat} {v : Value} {l : List UInt8} {p : Nat} {f : Bool} (h : RN w b v l p f wi) (o : Obj) : RN w b v l p f (wi.alloc o) := h.far ((Fr.refl _ wi).alloc o)
theorem RN.later {w w0 wi : World} {b : Nat} {v : Value} {l : List UInt8} {p : Nat} {f : Bool} (hf : Fr (fun _ => False) w w0) (h : RN w0 b v l p f wi) : RN w b v l p f wi :=
  ⟨h.rr, hf.trans h.fr (fun _ _ h => h), Nat.le_trans hf.size h.b0, fun k hk => Nat.le_trans hf.size (h.v0 k hk)⟩
theorem newReader_n (w : World) (A : Option Addr) (n c : Nat) (l : List UInt8) (hr : Rd w A n (bv l)) (hb : n ≤ 140737488355328) :
    Calls Try.prog 17 #[.slice A n c] w fun e w' => ∃ b v, e = .returned (.pointer (some ⟨b, 0, none⟩)) ∧ RN w b v l 0 false w' := by
  refine (newReader_c w A n c l hr hb).mono ?_
  rintro e w' ⟨b, v, rfl, h1, h2, h3, h4⟩
  exact ⟨b, v, rfl, h1, h2, h3, h4⟩
theorem newWriter_n (w : World) : Calls Try.prog 11 #[] w fun e w' => ∃ b v, e = .returned (.pointer (some ⟨b, 0, none⟩)) ∧ WN w b v [] w' := by
  refine (newWriter_c w).mono ?_
  rintro e w' ⟨rfl, h1, h2, _⟩
  exact ⟨_, _, rfl, h1, h2, Nat.le_refl _, fun k hk => by simp [Value.ownBlock] at hk⟩
end Go.Proofs.Ytokhebplmldfkaa
