/-
  SETS AND DELETIONS ONE BEHIND THE OTHER, as lists.
-/
import Derived.Test.YtillifkilkjpdaaDoorTwo1
namespace Go.Proofs.YtillifkilkjpdaaDoor
set_option linter.unusedSimpArgs false
set_option linter.unusedVariables false
open Go Go.RowKit

def stepR (acc : Ents) (a : Ac) : Ents := if a.d = 0 then mset acc a.k a.u else mdel acc a.k
def fR (l : List Ac) : Ents := l.foldl stepR []
theorem srt_stepR {acc : Ents} (h : Srt acc) (a : Ac) : Srt (stepR acc a) := by
  unfold stepR
  split
  · exact srt_mset h _ _
  · exact srt_mdel h _
theorem stepR_len (acc : Ents) (a : Ac) : (stepR acc a).length ≤ acc.length + 1 := by
  unfold stepR
  split
  · exact mset_len _ _ _
  · have := mdel_len acc a.k; omega
theorem foldR (l : List Ac) : ∀ acc : Ents, Srt acc → Srt (l.foldl stepR acc) ∧ (l.foldl stepR acc).length ≤ acc.length + l.length := by
  induction l with
  | nil => intro acc h; exact ⟨h, Nat.le_refl _⟩
  | cons a l ih =>
    intro acc h
    obtain ⟨h1, h2⟩ := ih (stepR acc a) (srt_stepR h a)
    have := stepR_len acc a
    exact ⟨h1, by rw [List.length_cons]; show (List.foldl stepR (stepR acc a) l).length ≤ _; omega⟩
theorem srt_fR (l : List Ac) : Srt (fR l) := (foldR l [] List.Pairwise.nil).1
theorem fR_len (l : List Ac) : (fR l).length ≤ l.length := by have := (foldR l [] List.Pairwise.nil).2; rw [List.length_nil] at this; unfold fR; omega
theorem fR_take {l : List Ac} {i : Nat} (h : i < l.length) : fR (l.take (i + 1)) = stepR (fR (l.take i)) l[i] := by
  have e : l.take (i + 1) = l.take i ++ [l[i]] := by rw [List.take_add_one, List.getElem?_eq_getElem h]; rfl
  rw [e]
  unfold fR
  rw [List.foldl_append]
  rfl
theorem lk_stepR {acc : Ents} (h : Srt acc) (a : Ac) (k : List UInt8) : lk (stepR acc a) k = if a.k = k then (if a.d = 0 then some a.u else none) else lk acc k := by
  unfold stepR
  split
  · exact lk_mset h _ _ _
  · exact lk_mdel h _ _
theorem lk_fR_none (k : List UInt8) : ∀ (l : List Ac) (acc : Ents), Srt acc → (∀ a ∈ l, a.k ≠ k) → lk (l.foldl stepR acc) k = lk acc k
  | [], _, _, _ => rfl
  | a :: l, acc, h, hn => by
    show lk (l.foldl stepR (stepR acc a)) k = _
    rw [lk_fR_none k l _ (srt_stepR h a) (fun x hx => hn x (List.mem_cons_of_mem _ hx)), lk_stepR h, if_neg (hn a List.mem_cons_self)]
/-- What was done last with a key is what stands there. -/
theorem lk_fR_last {l : List Ac} {p : Nat} (hp : p < l.length) (hl : ∀ j (hj : j < l.length), p < j → l[j].k ≠ l[p].k) : lk (fR l) l[p].k = if l[p].d = 0 then some l[p].u else none := by
  have e : l = l.take p ++ l[p] :: l.drop (p + 1) := by
    conv => lhs; rw [← List.take_append_drop p l, List.drop_eq_getElem_cons hp]
  obtain ⟨a, ha⟩ : ∃ a, l[p] = a := ⟨_, rfl⟩
  have hd : ∀ x ∈ l.drop (p + 1), x.k ≠ a.k := fun x hx => by
    obtain ⟨j, hj, rfl⟩ := List.mem_iff_getElem.1 hx
    rw [List.length_drop] at hj
    rw [List.getElem_drop, ← ha]
    exact hl _ (by omega) (by omega)
  rw [ha] at e ⊢
  have h1 : fR l = (l.drop (p + 1)).foldl stepR (stepR (fR (l.take p)) a) := by
    unfold fR
    conv => lhs; rw [e]
    rw [List.foldl_append]
    rfl
  rw [h1, lk_fR_none a.k _ _ (srt_stepR (srt_fR _) a) hd, lk_stepR (srt_fR _), if_pos rfl]
theorem rscn_take {m : Ents} {i : Nat} (h : i < m.length) (fr tt : List UInt8) : (rscn (m.take (i + 1)) fr tt).length = (rscn (m.take i) fr tt).length + if rscP fr tt (m[i].1, m[i].2) = true then 1 else 0 := by
  rw [take_next h]
  unfold rscn
  rw [List.filter_append, List.length_append]
  congr 1
  by_cases hp : rscP fr tt (m[i].1, m[i].2) = true
  · simp [hp]
  · simp [hp]
theorem scn_mem {m : Ents} (hs : Srt m) {fr tt : List UInt8} {e : List UInt8 × Int} (h : e ∈ scn m fr tt) : rscP fr tt e = true := by
  rw [← rscn_eq hs fr tt] at h
  exact (List.mem_filter.1 h).2
theorem srt_scn {m : Ents} (hs : Srt m) (fr tt : List UInt8) : Srt (scn m fr tt) := by
  rw [← rscn_eq hs fr tt]
  exact List.Pairwise.sublist List.filter_sublist hs
theorem srt_next {m : Ents} (hs : Srt m) {i : Nat} (h : i + 1 < m.length) : kl m[i].1 m[i + 1].1 = true := (List.pairwise_iff_getElem.1 hs) i (i + 1) (by omega) h (by omega)
end Go.Proofs.YtillifkilkjpdaaDoor
