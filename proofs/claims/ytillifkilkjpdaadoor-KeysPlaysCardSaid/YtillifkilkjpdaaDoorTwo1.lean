/-
  SETS ONE BEHIND THE OTHER, as lists; several indexes of the call's own beside each other.
-/
import Derived.Test.YtillifkilkjpdaaDoorLong
namespace Go.Proofs.YtillifkilkjpdaaDoor
set_option linter.unusedSimpArgs false
set_option linter.unusedVariables false
open Go Go.RowKit

def fsetA (acc : Ents) (l : List Ac) : Ents := l.foldl (fun a x => mset a x.k x.u) acc
theorem srt_fsetA {l : List Ac} : ∀ {acc : Ents}, Srt acc → Srt (fsetA acc l) := by
  unfold fsetA
  induction l with
  | nil => intro acc h; exact h
  | cons e m ih => intro acc h; exact ih (srt_mset h _ _)
theorem fsetA_take {l : List Ac} {i : Nat} (h : i < l.length) (acc : Ents) : fsetA acc (l.take (i + 1)) = mset (fsetA acc (l.take i)) l[i].k l[i].u := by
  have e : l.take (i + 1) = l.take i ++ [l[i]] := by rw [List.take_add_one, List.getElem?_eq_getElem h]; rfl
  rw [e]
  unfold fsetA
  rw [List.foldl_append]
  rfl
theorem fsetA_len (l : List Ac) : ∀ acc : Ents, (fsetA acc l).length ≤ acc.length + l.length := by
  induction l with
  | nil => intro acc; exact Nat.le_refl _
  | cons e m ih =>
    intro acc
    have h1 := ih (mset acc e.k e.u)
    have h2 := mset_len acc e.k e.u
    rw [List.length_cons]
    show (fsetA (mset acc e.k e.u) m).length ≤ _
    omega
theorem lk_fsetA (k : List UInt8) : ∀ (l : List Ac) (acc : Ents), Srt acc → lk (fsetA acc l) k = l.foldl (fun r x => if x.k = k then some x.u else r) (lk acc k)
  | [], acc, _ => rfl
  | e :: l, acc, h => by
    show lk (fsetA (mset acc e.k e.u) l) k = _
    rw [lk_fsetA k l _ (srt_mset h _ _), lk_mset h]
    rfl
theorem fold_or (k : List UInt8) (l : List Ac) : ∀ r : Option Int, l.foldl (fun r x => if x.k = k then some x.u else r) r = (l.foldl (fun r x => if x.k = k then some x.u else r) none).or r := by
  induction l with
  | nil => intro r; simp
  | cons e l ih =>
    intro r
    rw [List.foldl_cons, List.foldl_cons]
    by_cases h : e.k = k
    · rw [if_pos h, if_pos h, ih (some e.u)]
      cases (l.foldl (fun r x => if x.k = k then some x.u else r) none) <;> rfl
    · rw [if_neg h, if_neg h, ih r]
/-- Two indexes merged are what one is into which the second one's things were set, and then the first one's. -/
theorem two_eq (l m : List Ac) : mrg [fsetA [] l, fsetA [] m] = fsetA (fsetA [] m) l := by
  have s1 : Srt (fsetA [] l) := srt_fsetA List.Pairwise.nil
  have s2 : Srt (fsetA [] m) := srt_fsetA List.Pairwise.nil
  refine srt_ext (srt_mrg _) (srt_fsetA s2) fun k => ?_
  rw [lk_mrg (by intro x hx; rcases List.mem_cons.1 hx with rfl | hx; exact s1; rcases List.mem_cons.1 hx with rfl | hx; exact s2; cases hx), lk_fsetA k l _ s2, fold_or k l, ← lk_nil k, ← lk_fsetA k l [] List.Pairwise.nil]
  simp only [List.findSome?_cons, List.findSome?_nil]
  cases lk (fsetA [] l) k <;> cases lk (fsetA [] m) k <;> rfl

/-- No block of entries is of both. -/
def Dj (v v' : Value) : Prop := ∀ k, v.ownBlock = some k → v'.ownBlock ≠ some k
theorem Dj.symm {v v' : Value} (h : Dj v v') : Dj v' v := fun k h1 h2 => h k h2 h1
theorem Dj.nil (v : Value) : Dj (.slice none 0 0) v := fun k h => by cases h
theorem IX.base_ {w : World} {B B' g : Nat} {v : Value} {m : Ents} (h : IX w B g v m) (hb : B' ≤ B) : IX w B' g v m :=
  ⟨h.blk, Nat.le_trans hb h.base, own_base h.own (fun k hk => Nat.le_trans hb (World.ownsRow.lt h.own k hk).1), h.srt⟩
/-- What is done to one leaves the other one. -/
theorem IX.other {w w' : World} {B B' g g' : Nat} {v v' : Value} {m m' : Ents} (hy : IX w B' g' v' m') (hx : IX w B g v m) (hg : g' ≠ g) (hd : Dj v v') (f : Fr (fun k => k = g ∨ v.ownBlock = some k) w w') : IX w' B' g' v' m' :=
  hy.fr f (by
    rintro (h | h)
    · exact hg h
    · exact own_blk_ne hx.own hy.blk (by decide) h) (by
    rintro k hk (h | h)
    · exact own_blk_ne hy.own hx.blk (by decide) (h ▸ hk)
    · exact hd k h hk)
theorem Dj.step {w : World} {B' g' : Nat} {v v' v1 : Value} {m' : Ents} (hd : Dj v v') (hy : IX w B' g' v' m') (h : v1.ownBlock = v.ownBlock ∨ ∃ k, v1.ownBlock = some k ∧ w.heap.size ≤ k) : Dj v1 v' := fun k h1 h2 => by
  rcases h with h | ⟨q, h, hq⟩
  · exact hd k (h ▸ h1) h2
  · rw [h] at h1
    cases h1
    have := (World.ownsRow.lt hy.own k h2).2
    omega
end Go.Proofs.YtillifkilkjpdaaDoor
