/-
  NetRoom's plain side: how many of the letters go one way.
-/
import Derived.Test.YtpgklhbbjbdejaaLetH
import Derived.Test.YtpgklhbbjbdejaaGw
namespace Go.Proofs.Ytpgklhbbjbdejaa
set_option linter.unusedSimpArgs false
set_option linter.unusedVariables false
open Go Go.RowKit Go.Maps

def mW (T : List Ms) (f t : Nat) (id : Nat) : Bool := match lookT T id with
  | some x => x.f == f && x.t == t
  | none => false
theorem mW_at (T : List Ms) (f t n : Nat) (x : Ms) (h : T[n]? = some x) : mW T f t (1 + 1 * n) = isW f t x := by
  rw [show 1 + 1 * n = n + 1 by omega]
  unfold mW isW
  have hl : lookT T (n + 1) = if x.live then some x else none := by
    show (match T[n]? with | some x => if x.live then some x else none | none => none) = _
    rw [h]
  rw [hl]
  cases x.live <;> simp
theorem way_range (T : List Ms) (f t : Nat) : ∀ n, n ≤ T.length → ((List.range' 1 n).filter (mW T f t)).length = ((T.take n).filter (isW f t)).length
  | 0, _ => by simp
  | n + 1, h => by
    have ih := way_range T f t n (by omega)
    obtain ⟨x, hx⟩ : ∃ x, T[n]? = some x := ⟨_, List.getElem?_eq_getElem (by omega)⟩
    rw [List.range'_concat, List.take_add_one, hx, List.filter_append, List.filter_append, List.length_append, List.length_append, ih]
    congr 1
    show (List.filter (mW T f t) [1 + 1 * n]).length = (List.filter (isW f t) [x]).length
    have e := mW_at T f t n x hx
    simp only [List.filter_cons, List.filter_nil, e]
    split <;> rfl
theorem way_ids (T : List Ms) (f t : Nat) : ((lids T).filter (mW T f t)).length = wayN T f t := by
  have h := way_range T f t T.length (Nat.le_refl _)
  rw [List.take_length] at h
  unfold lids wayN
  rw [List.filter_filter, ← h]
  congr 2
  funext id
  unfold mW
  cases lookT T id <;> simp
theorem lookT_add {T : List Ms} {id : Nat} {x y : Ms} (h : lookT T id = some x) : lookT (T ++ [y]) id = some x := by
  obtain ⟨k, rfl, hk, hl⟩ := lookT_some h
  show (match (T ++ [y])[k]? with | some x => if x.live then some x else none | none => none) = _
  rw [List.getElem?_append_left (List.getElem?_eq_some_iff.1 hk).1, hk]
  simp [hl]
theorem lookT_new (T : List Ms) (y : Ms) (hy : y.live = true) : lookT (T ++ [y]) (T.length + 1) = some y := by
  show (match (T ++ [y])[T.length]? with | some x => if x.live then some x else none | none => none) = _
  rw [List.getElem?_append_right (Nat.le_refl _), Nat.sub_self]
  simp [hy]
theorem lcells_at (T : List Ms) : ∀ (l : List Nat) (q id : Nat), l[q]? = some id → ∀ j, j < 4 → (lcells T l)[q * 4 + j]? = (lcell T id)[j]?
  | [], _, _, h, _, _ => by cases h
  | a :: l, 0, id, h, j, hj => by
    have : a = id := by simpa using h
    subst this
    unfold lcells
    rw [List.flatMap_cons, Nat.zero_mul, Nat.zero_add, List.getElem?_append_left (by rw [lcell_len]; exact hj)]
  | a :: l, q + 1, id, h, j, hj => by
    have ih := lcells_at T l q id (by simpa using h) j hj
    unfold lcells at ih ⊢
    rw [List.flatMap_cons, List.getElem?_append_right (by rw [lcell_len, Nat.add_mul]; omega), lcell_len, show (q + 1) * 4 + j - 4 = q * 4 + j by rw [Nat.add_mul]; omega]
    exact ih
theorem take_cnt {l : List Nat} {p : Nat → Bool} {q id : Nat} (h : l[q]? = some id) : ((l.take (q + 1)).filter p).length = ((l.take q).filter p).length + (if p id then 1 else 0) := by
  rw [List.take_add_one, h, List.filter_append, List.length_append]
  congr 1
  show (List.filter p [id]).length = _
  rw [List.filter_cons]
  split <;> rfl
end Go.Proofs.Ytpgklhbbjbdejaa
