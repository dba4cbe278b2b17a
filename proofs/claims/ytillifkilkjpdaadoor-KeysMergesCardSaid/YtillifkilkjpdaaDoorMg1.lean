/-
  ROWS OF INDEXES, and of the reference's rows, of the call's own.
-/
import Derived.Test.YtillifkilkjpdaaDoorPl
namespace Go.Proofs.YtillifkilkjpdaaDoor
set_option linter.unusedSimpArgs false
set_option linter.unusedVariables false
open Go Go.RowKit

theorem own_own_ne {w : World} {B B' : Nat} {e e' : TypeId} {sz sz' n n' : Nat} {v v' : Value} {xs xs' : List Value} (h : w.ownsRow B e sz v n xs) (h' : w.ownsRow B' e' sz' v' n' xs') (hne : e ≠ e') {k : Nat} (hk : v.ownBlock = some k) : v'.ownBlock ≠ some k := by
  rcases h.2 with ⟨rfl, _⟩ | ⟨g, cap, cur, rfl, _, hh, _⟩
  · cases hk
  · have : g = k := by simpa [Value.ownBlock] using hk
    subst this
    exact own_blk_ne h' (t := e) (cs := cur) hh (Ne.symm hne)
structure IXs (w : World) (B : Nat) (ps : List Value) (ms : List Ents) : Prop where
  len : ps.length = ms.length
  at_ : ∀ (i : Nat) (x : Value) (m : Ents), ps[i]? = some x → ms[i]? = some m → ∃ g v, x = .pointer (some ⟨g, 0, none⟩) ∧ IX w B g v m
structure ORs (w : World) (B : Nat) (vs : List Value) (ms : List Ents) : Prop where
  len : vs.length = ms.length
  at_ : ∀ (i : Nat) (x : Value) (m : Ents), vs[i]? = some x → ms[i]? = some m → OwR w B x m
section
variable {w w' : World} {B : Nat} {ps vs : List Value} {ms : List Ents}
theorem IXs.fr {fp : Nat → Prop} (h : IXs w B ps ms) (hf : Fr fp w w') (h1 : ∀ k cur, Blk w k 61 cur → ¬ fp k) (h2 : ∀ k cur, Blk w k 68 cur → ¬ fp k) : IXs w' B ps ms :=
  ⟨h.len, fun i x m hx hm => by
    obtain ⟨g, v, rfl, hi⟩ := h.at_ i x m hx hm
    refine ⟨g, v, rfl, hi.fr hf (h1 g _ hi.blk) (fun k hk => ?_)⟩
    rcases hi.own.2 with ⟨rfl, _⟩ | ⟨b, cap, cur, rfl, _, hh, _⟩
    · cases hk
    · have : b = k := by simpa [Value.ownBlock] using hk
      subst this
      exact h2 b cur hh⟩
theorem IXs.far (h : IXs w B ps ms) (hf : Fr (fun _ => False) w w') : IXs w' B ps ms := h.fr hf (fun _ _ _ h => h) (fun _ _ _ h => h)
theorem ORs.fr {fp : Nat → Prop} (h : ORs w B vs ms) (hf : Fr fp w w') (h1 : ∀ k cur, Blk w k 63 cur → ¬ fp k) : ORs w' B vs ms :=
  ⟨h.len, fun i x m hx hm => by
    have ho := h.at_ i x m hx hm
    refine own_fr ho hf (fun k hk => ?_)
    rcases ho.2 with ⟨rfl, _⟩ | ⟨b, cap, cur, rfl, _, hh, _⟩
    · cases hk
    · have : b = k := by simpa [Value.ownBlock] using hk
      subst this
      exact h1 b cur hh⟩
theorem ORs.far (h : ORs w B vs ms) (hf : Fr (fun _ => False) w w') : ORs w' B vs ms := h.fr hf (fun _ _ _ h => h)
theorem IXs.nil (w : World) (B : Nat) : IXs w B [] [] := ⟨rfl, fun i x m h => by cases h⟩
theorem ORs.nil (w : World) (B : Nat) : ORs w B [] [] := ⟨rfl, fun i x m h => by cases h⟩
theorem snoc_at {α β : Type} {l : List α} {r : List β} (hl : l.length = r.length) {a : α} {b : β} {i : Nat} {x : α} {y : β} (hx : (l ++ [a])[i]? = some x) (hy : (r ++ [b])[i]? = some y) : (l[i]? = some x ∧ r[i]? = some y) ∨ (x = a ∧ y = b) := by
  by_cases h : i < l.length
  · rw [List.getElem?_append_left h] at hx
    rw [List.getElem?_append_left (by omega)] at hy
    exact .inl ⟨hx, hy⟩
  · rw [List.getElem?_append_right (by omega)] at hx
    rw [List.getElem?_append_right (by omega)] at hy
    have h1 := (List.getElem?_eq_some_iff.1 hx).1
    simp only [List.length_singleton] at h1
    have e1 : i - l.length = 0 := by omega
    have e2 : i - r.length = 0 := by omega
    rw [e1] at hx
    rw [e2] at hy
    simp at hx hy
    exact .inr ⟨hx.symm, hy.symm⟩
theorem IXs.snoc {g : Nat} {v : Value} {m : Ents} (h : IXs w B ps ms) (hx : IX w B g v m) : IXs w B (ps ++ [.pointer (some ⟨g, 0, none⟩)]) (ms ++ [m]) :=
  ⟨by rw [List.length_append, List.length_append, h.len]; rfl, fun i x m' h1 h2 => by
    rcases snoc_at h.len h1 h2 with ⟨h1, h2⟩ | ⟨rfl, rfl⟩
    · exact h.at_ i x m' h1 h2
    · exact ⟨g, v, rfl, hx⟩⟩
theorem ORs.snoc {v : Value} {m : Ents} (h : ORs w B vs ms) (hx : OwR w B v m) : ORs w B (vs ++ [v]) (ms ++ [m]) :=
  ⟨by rw [List.length_append, List.length_append, h.len]; rfl, fun i x m' h1 h2 => by
    rcases snoc_at h.len h1 h2 with ⟨h1, h2⟩ | ⟨rfl, rfl⟩
    · exact h.at_ i x m' h1 h2
    · exact hx⟩
theorem IXs.xrs (h : IXs w B ps ms) : XRs w (ps ++ [.pointer none]) (ms ++ [[]]) :=
  ⟨by rw [List.length_append, List.length_append, h.len]; rfl, fun i x m' h1 h2 => by
    rcases snoc_at h.len h1 h2 with ⟨h1, h2⟩ | ⟨rfl, rfl⟩
    · obtain ⟨g, v, rfl, hi⟩ := h.at_ i x m' h1 h2
      exact hi.xr
    · exact .inl ⟨rfl, rfl⟩⟩
theorem IXs.srt (h : IXs w B ps ms) : ∀ m ∈ ms, Srt m := fun m hm => by
  obtain ⟨i, hi, rfl⟩ := List.mem_iff_getElem.1 hm
  obtain ⟨g, v, -, hx⟩ := h.at_ i (ps[i]'(by rw [h.len]; exact hi)) _ (List.getElem?_eq_getElem _) (List.getElem?_eq_getElem hi)
  exact hx.srt
theorem ORs.rrs (h : ORs w B vs ms) : RRs w vs ms := ⟨h.len, fun i v m h1 h2 => OwR.rd (h.at_ i v m h1 h2)⟩
theorem ORs.one (h : ORs w B vs ms) : ∀ u ∈ vs, u.oneCell' = true := by
  intro u hu
  obtain ⟨i, hi, rfl⟩ := List.mem_iff_getElem.1 hu
  obtain ⟨A, c, hv, -⟩ := OwR.rd (h.at_ i _ _ (List.getElem?_eq_getElem hi) (List.getElem?_eq_getElem (h.len ▸ hi)))
  rw [hv]
  rfl
end
theorem mrg_nil_snoc (ms : List Ents) : mrg (ms ++ [[]]) = mrg ms := by
  unfold mrg
  rw [List.foldr_append]
  rfl
theorem tot_snoc (ms : List Ents) (m : Ents) : tot (ms ++ [m]) = tot ms + m.length := by
  unfold tot
  rw [List.map_append, List.sum_append]
  simp
theorem tot_at {ms : List Ents} {m : Ents} (h : m ∈ ms) : m.length ≤ tot ms := by
  induction ms with
  | nil => cases h
  | cons a ms ih =>
    unfold tot at *
    rw [List.map_cons, List.sum_cons]
    rcases List.mem_cons.1 h with rfl | h
    · omega
    · have := ih h; omega
theorem ents_info : (Tryd.prog.info? 27).map (fun i => (i.zero, i.size, i.bytes)) = some (some (.slice none 0 0), 1, 24) := by kernel_rfl
end Go.Proofs.YtillifkilkjpdaaDoor
