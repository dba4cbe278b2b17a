/-
  A RANGE OVER A FUNCTION, OVER WHATEVER PROGRAM: the loop and its iterator by one invariant; the iterator may hold cells of its own, and what it hands on may hang on what it has handed on already. No program is named here.
-/
import Derived.Test.YtjaocgmicdnghaaGreatDoorMem
import Derived.RangeFuncNested
import Derived.RangeFuncBound
import Derived.RangeFuncCalls
import Derived.RangeFuncLeaves
namespace Go.Proofs.YtjaocgmicdnghaaGreatDoor
set_option linter.unusedSimpArgs false
set_option linter.unusedVariables false
open Go Go.RowKit

theorem Fr.putObj {fp : Nat → Prop} {a w : World} (h : Fr fp a w) {l : Nat} (hl : l < a.heap.size → fp l) (o : Obj) : Fr fp a (w.putObj l o) := by
  have hg := grownBy_putObj' w l o
  exact h.grown hg (fun k e hk => by cases e; exact hl hk)
/-- How a round ends that goes on. -/
def RoundEnd {α : Type} (own : Nat → Prop) (Inv : List α → World → Prop) (pre : List α) (x : α) (w2 : World) : Exit → Act → World → Prop
  | .normal, _, w3 => Fr own w2 w3 ∧ Inv (pre ++ [x]) w3
  | _, _, _ => False
/-- What an iterator does with whatever loop: 'L' is the loop's record, K0 the first block of its own, cnt how many. -/
def Iterates {α : Type} (P : Program) (n gf : Nat) (lb : Array Value) (encs : List α → α → Array Value) (ok : List α → α → Prop) (fin : List α → Prop) (own : Nat → Prop) (L cnt : Nat) (W1 : World) : Prop :=
  ∀ J : List α → World → Prop, (∀ pre A C, J pre A → Fr (fun k => W1.heap.size ≤ k ∧ k < W1.heap.size + cnt) A C → J pre C) →
    (∀ pre x W', J pre W' → ok pre x → YieldAt Fence.wide (n - 1) P L (encs pre x) W' fun e W'' => e = .returned (.bool true) ∧ J (pre ++ [x]) W'' ∧ Fr (fun k => own k ∨ k = L) W' W'') →
    J [] W1 → CallsIn Fence.wide n P gf (#[.func (.yield L) #[] #[]] ++ lb) W1 fun e W' => (∃ v, e = .returned v) ∧ ∃ xs, fin xs ∧ J xs W'

theorem wpIn_range_joint {α : Type} {P : Program} {n : Nat} {g : Operand} {ps : Array Tmp} {assign body : Code} {Q : Exit → Act → World → Prop} {a : Act} {w : World} {gf : Nat} {lb : Array Value}
    (hg : a.eval g = .func (.func gf) #[] lb) (eg : ∀ args w, (callFunc gf args).run P w = .ok (.enter gf args) w)
    (encs : List α → α → Array Value) (hps : ∀ pre x, (encs pre x).size = ps.size) (ok : List α → α → Prop) (fin : List α → Prop) (own : Nat → Prop) (cnt : Nat)
    (hown : ∀ k, own k → ¬ (w.heap.size ≤ k ∧ k < w.heap.size + 2 + cnt))
    (Inv : List α → World → Prop) (hA : ∀ pre A C, Inv pre A → Fr (fun k => w.heap.size ≤ k ∧ k < w.heap.size + 2 + cnt) A C → Inv pre C) (h0 : Inv [] w)
    (hit : ∀ W1, W1.heap.size = w.heap.size + 2 → Fr (fun _ => False) w W1 → Iterates P (n - 1) gf lb encs ok fin own (w.heap.size + 1) cnt W1)
    (hround : ∀ pre x W', Inv pre W' → w.heap.size + 2 ≤ W'.heap.size → ok pre x → assign.wpIn (Fence.wide.inRound (w.heap.size + 1)) (n - 1 - 1) P
      (Exit.then (fun a1 w1 => Fr own W' w1 ∧ ∀ w2, Fr (fun k => k = w.heap.size + 1) w1 w2 → body.wpIn (Fence.wide.inRound (w.heap.size + 1)) (n - 1 - 1) P (RoundEnd own Inv pre x w2) a1 w2) (fun _ _ _ => False))
      { tmps := (ps.zip (encs pre x)).foldl (fun t (p, v) => t.setIfInBounds p v) a.tmps, defers := [] } W')
    (hdone : ∀ D xs W', D = w.heap.size → fin xs → Inv xs W' → W'.heap[D]? = some (.deferred (some [])) → Q .normal { a with defers := { target := .collected D, args := #[] } :: a.defers } W') :
    (Code.rangeFunc g ps assign body).wpIn Fence.wide n P Q a w := by
  refine wpIn_rangeFunc ?_
  intro fn _
  obtain ⟨rc, hrc⟩ : ∃ rc : LoopState → Option Code → Loop, rc = fun st pe => { state := st, pending := pe, fn, tmps := a.tmps, params := ps, assign, body, defers := w.heap.size } := ⟨_, rfl⟩
  obtain ⟨W1, hW1⟩ : ∃ W1, (w.alloc (.deferred (some []))).alloc (.loop (rc .ready none)) = W1 := ⟨_, rfl⟩
  have hf1 : Fr (fun _ => False) w W1 := by rw [← hW1]; exact ((Fr.refl _ w).alloc _).alloc _
  have hs1 : W1.heap.size = w.heap.size + 2 := by rw [← hW1]; simp
  have hL1 : W1.heap[w.heap.size + 1]? = some (.loop (rc .ready none)) := by
    have := World.alloc_heap_new (w.alloc (.deferred (some []))) (.loop (rc .ready none))
    rw [World.size_alloc] at this
    rw [← hW1]
    exact this
  have hD1 : W1.heap[w.heap.size]? = some (.deferred (some [])) := by
    rw [← hW1]
    exact (Below.heap_alloc _ _ _ (by simp)).trans (World.alloc_heap_new w _)
  have hI1 : Inv [] W1 := hA _ _ _ h0 (hf1.mono (fun _ _ h => h.elim))
  refine ⟨w.heap.size + 1, [{ target := .collected w.heap.size, args := #[] }], W1, { target := .fn (.func gf) lb, args := #[.func (.yield (w.heap.size + 1)) #[] #[]] }, W1, gf,
    #[.func (.yield (w.heap.size + 1)) #[] #[]] ++ lb, W1, ?_, ?_, fun _ _ => trivial, ?_, (fun h => by cases h), ?_⟩
  · rw [← hW1, hrc]
    exact run_enterLoop_outer _ _ _ _ _
  · simp only [resolve, hg]
    simp [go_sem]
  · simp [invoke, go_sem, eg]
  have hput : ∀ (W : World) (o : Obj), Fr (fun k => k = w.heap.size + 1) W (W.putObj (w.heap.size + 1) o) := fun W o => (Fr.refl (fun k => k = w.heap.size + 1) W).putObj (fun _ => rfl) o
  refine (hit W1 hs1 hf1 (fun pre W => Inv pre W ∧ W.heap[w.heap.size + 1]? = some (.loop (rc .ready none)) ∧ W.heap[w.heap.size]? = some (.deferred (some []))) ?_ ?_ ⟨hI1, hL1, hD1⟩).mono ?_
  · rintro pre A C ⟨hi, hl, hd⟩ hf
    rw [hs1] at hf
    have ha := (Array.getElem?_eq_some_iff.1 hl).1
    exact ⟨hA _ _ _ hi (hf.mono (fun k _ h => ⟨by omega, by omega⟩)), (hf.block _ ha (by omega)).trans hl, (hf.block _ (by omega) (by omega)).trans hd⟩
  · rintro pre x W' ⟨hi, hl, hd⟩ hok
    have hlt := (Array.getElem?_eq_some_iff.1 hl).1
    have hy := run_yield (P := P) (args := encs pre x) hl (by rw [hrc]; exact hps pre x)
    rw [hrc] at hy
    refine ⟨fn, _, assign, body, hy, roundIn_of_wpIn trivial (wpIn_mono (hround pre x W' hi (by omega) hok) ?_)⟩
    rintro e a1 w1 he
    cases e with
    | normal =>
      obtain ⟨hf, hb⟩ := he
      have hl1 : w1.heap[w.heap.size + 1]? = some (.loop (rc .ready none)) := (hf.block _ hlt (fun h => hown _ h ⟨by omega, by omega⟩)).trans hl
      have hd1 : w1.heap[w.heap.size]? = some (.deferred (some [])) := (hf.block _ (by omega) (fun h => hown _ h ⟨by omega, by omega⟩)).trans hd
      refine ⟨_, run_beginRound hl1 (by rw [hrc]), ?_⟩
      have hlt1 := (Array.getElem?_eq_some_iff.1 hl1).1
      refine wpIn_mono (hb _ (hput w1 _)) ?_
      rintro e2 a2 w3 he2
      cases e2 with
      | normal =>
        obtain ⟨hf3, hi3⟩ := he2
        have hl2 : (w1.putObj (w.heap.size + 1) (.loop { rc .ready none with state := .busy })).heap[w.heap.size + 1]? = some (.loop { rc .ready none with state := .busy }) := World.putObj_heap_same hlt1
        have hd2 : (w1.putObj (w.heap.size + 1) (.loop { rc .ready none with state := .busy })).heap[w.heap.size]? = some (.deferred (some [])) := (World.putObj_heap_other (by omega)).trans hd1
        have hl3 := (hf3.block _ (Nat.lt_of_lt_of_le hlt1 (hput w1 _).size) (fun h => hown _ h ⟨by omega, by omega⟩)).trans hl2
        have hd3 := (hf3.block _ (Nat.lt_of_lt_of_le (Nat.lt_of_succ_lt hlt1) (hput w1 _).size) (fun h => hown _ h ⟨by omega, by omega⟩)).trans hd2
        have hend := run_endRound (P := P) none hl3
        have hlt3 := (Array.getElem?_eq_some_iff.1 hl3).1
        refine ⟨_, _, hend, rfl, ⟨hA _ _ _ hi3 ((hput w3 _).mono (fun k _ h => ⟨by omega, by omega⟩)), ?_, (World.putObj_heap_other (by omega)).trans hd3⟩, ?_⟩
        · rw [World.putObj_heap_same hlt3, hrc]
          rfl
        · have f1 : Fr (fun k => own k ∨ k = w.heap.size + 1) W' w1 := hf.mono (fun _ _ h => .inl h)
          have f2 := f1.trans (hput w1 (.loop { rc .ready none with state := .busy })) (fun _ _ h => .inr h)
          have f3 := f2.trans hf3 (fun _ _ h => .inl h)
          exact f3.trans (hput w3 _) (fun _ _ h => .inr h)
      | ret => exact he2.elim
      | exit id => exact he2.elim
      | goto t => exact he2.elim
      | panic c => exact he2.elim
      | outgrown => exact he2.elim
    | ret => exact he.elim
    | exit id => exact he.elim
    | goto t => exact he.elim
    | panic c => exact he.elim
    | outgrown => exact he.elim
  · rintro e W2 ⟨⟨v, rfl⟩, xs, hfin, hi, hl, hd⟩
    have hend := run_endLoop (P := P) hl (by rw [hrc]; simp)
    rw [hrc] at hend
    have hlt2 := (Array.getElem?_eq_some_iff.1 hl).1
    exact ⟨none, _, hend, hdone _ xs _ rfl hfin (hA _ _ _ hi ((hput W2 _).mono (fun k _ h => ⟨by omega, by omega⟩))) ((World.putObj_heap_other (by omega)).trans hd)⟩
end Go.Proofs.YtjaocgmicdnghaaGreatDoor
