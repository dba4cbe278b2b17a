/-
  A RANGE OVER A FUNCTION WHOSE LOOP MAY BREAK, OVER WHATEVER PROGRAM: 'H' are the blocks that the loop's code may not touch (the loop's record, the mark, what the iterator holds); they may change from yield to yield. No program is named here.
-/
import Derived.Test.YtillifkilkjpdaaDoorRange
namespace Go.Proofs.YtillifkilkjpdaaDoor
set_option linter.unusedSimpArgs false
set_option linter.unusedVariables false
open Go Go.RowKit

/-- What holds of the loop's state still holds when blocks of H have changed and H has become H'. -/
def Carries {α : Type} (Inv : (Nat → Prop) → List α → World → Prop) : Prop :=
  ∀ (H H' : Nat → Prop) (pre : List α) (A C : World), Inv H pre A → Fr H A C → (∀ k, H' k → H k ∨ A.heap.size ≤ k ∧ k < C.heap.size) → Inv H' pre C

/-- How a round ends: it goes on, or it breaks. -/
def RoundEndB {α : Type} (H : Nat → Prop) (Inv Ix : (Nat → Prop) → List α → World → Prop) (idb : Nat) (pre : List α) (x : α) (w2 : World) : Exit → Act → World → Prop
  | .normal, _, w3 => Fr (fun k => ¬ H k) w2 w3 ∧ Inv H (pre ++ [x]) w3
  | .exit id, _, w3 => id = idb ∧ Fr (fun k => ¬ H k) w2 w3 ∧ Ix H (pre ++ [x]) w3
  | _, _, _ => False

/-- What an iterator does with whatever loop. -/
def IteratesB {α : Type} (P : Program) (n gf : Nat) (lb : Array Value) (encs : α → Array Value) (ok : List α → α → Prop) (fin : List α → Prop) (L : Nat) (W1 : World) : Prop :=
  ∀ J Jx : (Nat → Prop) → List α → World → Prop, Carries J → Carries Jx →
    (∀ H pre x W', J H pre W' → ok pre x → YieldAt Fence.wide (n - 1) P L (encs x) W' fun e W'' => ((e = .returned (.bool true) ∧ J H (pre ++ [x]) W'') ∨ (e = .returned (.bool false) ∧ Jx H (pre ++ [x]) W'')) ∧ Fr (fun k => ¬ H k) W' W'') →
    J (fun _ => False) [] W1 → CallsIn Fence.wide n P gf (#[.func (.yield L) #[] #[]] ++ lb) W1 fun e W' => (∃ v, e = .returned v) ∧ ((∃ xs, fin xs ∧ J (fun _ => False) xs W') ∨ (∃ xs, Jx (fun _ => False) xs W'))

theorem wpIn_range_brk {α : Type} {P : Program} {n : Nat} {g : Operand} {ps : Array Tmp} {assign body : Code} {Q : Exit → Act → World → Prop} {a : Act} {w : World} {gf : Nat} {lb : Array Value}
    (hg : a.eval g = .func (.func gf) #[] lb) (eg : ∀ args w, (callFunc gf args).run P w = .ok (.enter gf args) w)
    (encs : α → Array Value) (hps : ∀ x, (encs x).size = ps.size) (ok : List α → α → Prop) (fin : List α → Prop) (idb : Nat)
    (Inv Ix : (Nat → Prop) → List α → World → Prop) (hA : Carries Inv) (hX : Carries Ix) (h0 : Inv (fun _ => False) [] w)
    (hit : ∀ W1, W1.heap.size = w.heap.size + 2 → Fr (fun _ => False) w W1 → IteratesB P (n - 1) gf lb encs ok fin (w.heap.size + 1) W1)
    (hround : ∀ H pre x W', H w.heap.size → H (w.heap.size + 1) → Inv H pre W' → w.heap.size + 2 ≤ W'.heap.size → ok pre x → assign.wpIn (Fence.wide.inRound (w.heap.size + 1)) (n - 1 - 1) P
      (Exit.then (fun a1 w1 => w1 = W' ∧ ∀ w2, Inv H pre w2 → body.wpIn (Fence.wide.inRound (w.heap.size + 1)) (n - 1 - 1) P (RoundEndB H Inv Ix idb pre x w2) a1 w2) (fun _ _ _ => False))
      { tmps := (ps.zip (encs x)).foldl (fun t (p, v) => t.setIfInBounds p v) a.tmps, defers := [] } W')
    (hdone : ∀ D xs W', D = w.heap.size → fin xs → Inv (fun k => k = D) xs W' → W'.heap[D]? = some (.deferred (some [])) → Q .normal { a with defers := { target := .collected D, args := #[] } :: a.defers } W')
    (hstop : ∀ D xs W', D = w.heap.size → Ix (fun k => k = D) xs W' → W'.heap[D]? = some (.deferred (some [])) → Q (.exit idb) { a with defers := { target := .collected D, args := #[] } :: a.defers } W') :
    (Code.rangeFunc g ps assign body).wpIn Fence.wide n P Q a w := by
  refine wpIn_rangeFunc ?_
  intro fn _
  obtain ⟨rc, hrc⟩ : ∃ rc : LoopState → Option Code → Loop, rc = fun st pe => { state := st, pending := pe, fn, tmps := a.tmps, params := ps, assign, body, defers := w.heap.size } := ⟨_, rfl⟩
  obtain ⟨W1, hW1⟩ : ∃ W1, (w.alloc (.deferred (some []))).alloc (.loop (rc .ready none)) = W1 := ⟨_, rfl⟩
  have hf1 : Fr (fun _ => False) w W1 := by rw [← hW1]; exact ((Fr.refl _ w).alloc _).alloc _
  have hs1 : W1.heap.size = w.heap.size + 2 := by rw [← hW1]; simp
  have hL1 : W1.heap[w.heap.size + 1]? = some (.loop (rc .ready none)) := by
    have := World.alloc_heap_new (w.alloc (.deferred (some []))) (.loop (rc .ready none))
    rw [World.size_alloc] at this
    rw [← hW1]
    exact this
  have hD1 : W1.heap[w.heap.size]? = some (.deferred (some [])) := by
    rw [← hW1]
    exact (Below.heap_alloc _ _ _ (by simp)).trans (World.alloc_heap_new w _)
  have hI1 : Inv (fun k => k = w.heap.size ∨ k = w.heap.size + 1 ∨ False) [] W1 := hA _ _ _ _ _ h0 hf1 (fun k hk => .inr (by rcases hk with rfl | rfl | h; exact ⟨Nat.le_refl _, by omega⟩; exact ⟨by omega, by omega⟩; exact h.elim))
  refine ⟨w.heap.size + 1, [{ target := .collected w.heap.size, args := #[] }], W1, { target := .fn (.func gf) lb, args := #[.func (.yield (w.heap.size + 1)) #[] #[]] }, W1, gf,
    #[.func (.yield (w.heap.size + 1)) #[] #[]] ++ lb, W1, ?_, ?_, fun _ _ => trivial, ?_, (fun h => by cases h), ?_⟩
  · rw [← hW1, hrc]
    exact run_enterLoop_outer _ _ _ _ _
  · simp only [resolve, hg]
    simp [go_sem]
  · simp [invoke, go_sem, eg]
  have hput : ∀ (W : World) (o : Obj), Fr (fun k => k = w.heap.size + 1) W (W.putObj (w.heap.size + 1) o) := fun W o => (Fr.refl (fun k => k = w.heap.size + 1) W).putObj (fun _ => rfl) o
  have carry : ∀ (Iv : (Nat → Prop) → List α → World → Prop) (st : LoopState) (pe : Option Code), Carries Iv →
      Carries (fun H pre W => Iv (fun k => k = w.heap.size ∨ k = w.heap.size + 1 ∨ H k) pre W ∧ W.heap[w.heap.size + 1]? = some (.loop (rc st pe)) ∧ W.heap[w.heap.size]? = some (.deferred (some [])) ∧ ∀ k, H k → w.heap.size + 2 ≤ k) := by
    rintro Iv st pe hc H H' pre A C ⟨hi, hl, hd, hh⟩ hf hH
    have ha := (Array.getElem?_eq_some_iff.1 hl).1
    have hb := (Array.getElem?_eq_some_iff.1 hd).1
    refine ⟨hc _ _ _ _ _ hi (hf.mono (fun k _ h => .inr (.inr h))) (fun k hk => ?_), (hf.block _ ha (fun h => by have := hh _ h; omega)).trans hl, (hf.block _ hb (fun h => by have := hh _ h; omega)).trans hd, fun k hk => ?_⟩
    · rcases hk with h | h | h
      · exact .inl (.inl h)
      · exact .inl (.inr (.inl h))
      · rcases hH k h with h | h
        · exact .inl (.inr (.inr h))
        · exact .inr h
    · rcases hH k hk with h | h
      · exact hh _ h
      · omega
  refine (hit W1 hs1 hf1 (fun H pre W => Inv (fun k => k = w.heap.size ∨ k = w.heap.size + 1 ∨ H k) pre W ∧ W.heap[w.heap.size + 1]? = some (.loop (rc .ready none)) ∧ W.heap[w.heap.size]? = some (.deferred (some [])) ∧ ∀ k, H k → w.heap.size + 2 ≤ k)
    (fun H pre W => Ix (fun k => k = w.heap.size ∨ k = w.heap.size + 1 ∨ H k) pre W ∧ W.heap[w.heap.size + 1]? = some (.loop (rc .done (some (.exit idb)))) ∧ W.heap[w.heap.size]? = some (.deferred (some [])) ∧ ∀ k, H k → w.heap.size + 2 ≤ k)
    (carry Inv _ _ hA) (carry Ix _ _ hX) ?_ ⟨hI1, hL1, hD1, fun _ h => h.elim⟩).mono ?_
  · rintro H pre x W' ⟨hi, hl, hd, hh⟩ hok
    obtain ⟨HH, hHH⟩ : ∃ HH : Nat → Prop, HH = fun k => k = w.heap.size ∨ k = w.heap.size + 1 ∨ H k := ⟨_, rfl⟩
    have hHD : HH w.heap.size := by rw [hHH]; exact .inl rfl
    have hHL : HH (w.heap.size + 1) := by rw [hHH]; exact .inr (.inl rfl)
    have hHs : ∀ k, H k → HH k := fun k h => by rw [hHH]; exact .inr (.inr h)
    simp only [← hHH] at hi ⊢
    have hlt := (Array.getElem?_eq_some_iff.1 hl).1
    have hy := run_yield (P := P) (args := encs x) hl (by rw [hrc]; exact hps x)
    rw [hrc] at hy
    refine ⟨fn, _, assign, body, hy, roundIn_of_wpIn trivial (wpIn_mono (hround HH pre x W' hHD hHL hi (by omega) hok) ?_)⟩
    rintro e a1 w1 he
    cases e with
    | normal =>
      obtain ⟨rfl, hb⟩ := he
      refine ⟨_, run_beginRound hl (by rw [hrc]), ?_⟩
      have hlt1 := hlt
      refine wpIn_mono (hb _ (hA _ _ _ _ _ hi ((hput w1 _).mono (fun k _ h => h ▸ hHL)) (fun k h => .inl h))) ?_
      rintro e2 a2 w3 he2
      have hl2 : (w1.putObj (w.heap.size + 1) (.loop { rc .ready none with state := .busy })).heap[w.heap.size + 1]? = some (.loop { rc .ready none with state := .busy }) := World.putObj_heap_same hlt1
      have hd2 : (w1.putObj (w.heap.size + 1) (.loop { rc .ready none with state := .busy })).heap[w.heap.size]? = some (.deferred (some [])) := (World.putObj_heap_other (by omega)).trans hd
      have fin_ : ∀ (jump : Option Code), Fr (fun k => ¬ HH k) (w1.putObj (w.heap.size + 1) (.loop { rc .ready none with state := .busy })) w3 →
          (Instr.endRound (w.heap.size + 1) jump).run P w3 = .ok (.bool jump.isNone) (w3.putObj (w.heap.size + 1) (.loop (rc (if jump.isNone then .ready else .done) jump))) ∧
          (w3.putObj (w.heap.size + 1) (.loop (rc (if jump.isNone then .ready else .done) jump))).heap[w.heap.size + 1]? = some (.loop (rc (if jump.isNone then .ready else .done) jump)) ∧
          (w3.putObj (w.heap.size + 1) (.loop (rc (if jump.isNone then .ready else .done) jump))).heap[w.heap.size]? = some (.deferred (some [])) ∧
          Fr (fun k => ¬ H k) w1 (w3.putObj (w.heap.size + 1) (.loop (rc (if jump.isNone then .ready else .done) jump))) := by
        intro jump hf3
        have hlb : w.heap.size + 1 < (w1.putObj (w.heap.size + 1) (.loop { rc .ready none with state := .busy })).heap.size := Nat.lt_of_lt_of_le hlt1 (hput w1 _).size
        have hl3 := (hf3.block _ hlb (fun h => h hHL)).trans hl2
        have hd3 := (hf3.block _ (by omega) (fun h => h hHD)).trans hd2
        have hend := run_endRound (P := P) jump hl3
        have hlt3 := (Array.getElem?_eq_some_iff.1 hl3).1
        have hnL : ¬ H (w.heap.size + 1) := fun h => by have := hh _ h; omega
        have f1 : Fr (fun k => ¬ H k) w1 (w1.putObj (w.heap.size + 1) (.loop { rc .ready none with state := .busy })) := (hput w1 _).mono (fun k _ h => by rw [h]; exact hnL)
        have f2 := f1.trans hf3 (fun k _ h hk => h (hHs k hk))
        refine ⟨?_, ?_, (World.putObj_heap_other (by omega)).trans hd3, f2.trans (hput w3 _) (fun k _ h => by rw [h]; exact hnL)⟩
        · rw [hrc] at hend ⊢
          exact hend
        · rw [World.putObj_heap_same hlt3]
      cases e2 with
      | normal =>
        obtain ⟨hf3, hi3⟩ := he2
        obtain ⟨h1, h2, h3, h4⟩ := fin_ none hf3
        exact ⟨_, _, h1, .inl ⟨rfl, hA _ _ _ _ _ hi3 ((hput w3 _).mono (fun k _ h => h ▸ hHL)) (fun k h => .inl h), h2, h3, hh⟩, h4⟩
      | exit id =>
        obtain ⟨rfl, hf3, hi3⟩ := he2
        obtain ⟨h1, h2, h3, h4⟩ := fin_ (some (.exit id)) hf3
        exact ⟨_, _, h1, .inr ⟨rfl, hX _ _ _ _ _ hi3 ((hput w3 _).mono (fun k _ h => h ▸ hHL)) (fun k h => .inl h), h2, h3, hh⟩, h4⟩
      | ret => exact he2.elim
      | goto t => exact he2.elim
      | panic c => exact he2.elim
      | outgrown => exact he2.elim
    | ret => exact he.elim
    | exit id => exact he.elim
    | goto t => exact he.elim
    | panic c => exact he.elim
    | outgrown => exact he.elim
  · rintro e W2 ⟨⟨v, rfl⟩, ⟨xs, hfin, hi, hl, hd, -⟩ | ⟨xs, hi, hl, hd, -⟩⟩
    · have hend := run_endLoop (P := P) hl (by rw [hrc]; simp)
      rw [hrc] at hend
      have hlt2 := (Array.getElem?_eq_some_iff.1 hl).1
      exact ⟨none, _, hend, hdone _ xs _ rfl hfin (hA _ _ _ _ _ hi ((hput W2 _).mono (fun k _ h => .inr (.inl h))) (fun k h => .inl (.inl h))) ((World.putObj_heap_other (by omega)).trans hd)⟩
    · have hend := run_endLoop (P := P) hl (by rw [hrc]; simp)
      rw [hrc] at hend
      exact ⟨some (.exit idb), _, hend, wpIn_exit (hstop _ xs _ rfl (hX _ _ _ _ _ hi ((hput W2 _).mono (fun k _ h => .inr (.inl h))) (fun k h => .inl (.inl h))) ((World.putObj_heap_other (by omega)).trans hd))⟩
end Go.Proofs.YtillifkilkjpdaaDoor
