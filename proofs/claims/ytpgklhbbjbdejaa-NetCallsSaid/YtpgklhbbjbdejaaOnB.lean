/-
  NetOnce's own lists: what was given, what is out.
-/
import Derived.Test.YtpgklhbbjbdejaaOnA
namespace Go.Proofs.Ytpgklhbbjbdejaa
set_option linter.unusedSimpArgs false
set_option linter.unusedVariables false
open Go Go.RowKit Go.Maps

structure Ge where
  f : Nat
  t : Nat
  A : Option Addr
  m : Nat
  c : Nat
def gcell (e : Ge) : List Value := [.int .i64 (e.f : Nat), .int .i64 (e.t : Nat), .slice e.A e.m e.c]
def gcells (E : List Ge) : List Value := ((⟨0, 0, none, 0, 0⟩ : Ge) :: E).flatMap gcell
def ocell (x : Ms) : Value := .int .i64 (if x.live then 0 else 1)
def ocells (T : List Ms) : List Value := .int .i64 0 :: T.map ocell
theorem gcells_add (E : List Ge) (e : Ge) : gcells E ++ gcell e = gcells (E ++ [e]) := by simp [gcells]
theorem ocells_add (T : List Ms) (x : Ms) (h : x.live = true) : ocells T ++ [.int .i64 0] = ocells (T ++ [x]) := by simp [ocells, ocell, h]
theorem flat_at3 : ∀ (l : List Ge) (i : Nat) (h : i < l.length) (j : Nat), j < 3 → (l.flatMap gcell)[i * 3 + j]? = (gcell l[i])[j]?
  | a :: l, 0, _, j, hj => by
    rw [List.flatMap_cons, Nat.zero_mul, Nat.zero_add, List.getElem?_append_left (by show j < 3; exact hj)]
    rfl
  | a :: l, i + 1, h, j, hj => by
    have hl : (gcell a).length = 3 := rfl
    rw [List.flatMap_cons, List.getElem?_append_right (by rw [hl, Nat.add_mul]; omega), hl, show (i + 1) * 3 + j - 3 = i * 3 + j by rw [Nat.add_mul]; omega]
    exact flat_at3 l i (by simpa using h) j hj
theorem gcells_at (E : List Ge) (k : Nat) (e : Ge) (h : E[k]? = some e) (j : Nat) (hj : j < 3) : (gcells E)[(k + 1) * 3 + j]? = (gcell e)[j]? := by
  have hk := (List.getElem?_eq_some_iff.1 h)
  obtain ⟨hlt, he⟩ := hk
  unfold gcells
  rw [flat_at3 _ (k + 1) (by simp; exact hlt) j hj]
  simp [he]
theorem ocells_at (T : List Ms) (k : Nat) (x : Ms) (h : T[k]? = some x) : (ocells T)[k + 1]? = some (ocell x) := by
  unfold ocells
  rw [List.getElem?_cons_succ, List.getElem?_map, h]
  rfl
theorem ocells_kill (T : List Ms) (k : Nat) (x : Ms) : (ocells T).set (k + 1) (.int .i64 1) = ocells (kill T k x) := by
  unfold ocells kill
  rw [List.set_cons_succ, List.map_set]
  rfl
theorem own_of_blk {W : World} {g n size base : Nat} {t : TypeId} {cs : Array Value} (h : Blk W g t cs) (hs : cs.size = n * size) (hb : base ≤ g) (hn : n ≤ maxLen) : W.ownsRow base t size (.slice (some ⟨g, 0, none⟩) n n) n cs.toList :=
  ⟨by rw [Array.length_toList]; exact hs, .inr ⟨g, n, cs, rfl, hb, h, Nat.le_refl _, hn, hs, by rw [← hs, ← Array.length_toList, List.take_length]⟩⟩
theorem own_set {W : World} {base g n size c k : Nat} {t : TypeId} {xs : List Value} (h : W.ownsRow base t size (.slice (some ⟨g, 0, none⟩) n c) n xs) (u : Value) :
    (W.setCell ⟨g, k, none⟩ u).ownsRow base t size (.slice (some ⟨g, 0, none⟩) n c) n (xs.set k u) := by
  obtain ⟨h0, ⟨h1, _⟩ | ⟨g', cap, cur, hv, h2, h3, h4, h5, h6, h7⟩⟩ := h
  · cases h1
  · injection hv with hv _ hc
    injection hv with hv
    injection hv with hv _ _
    subst hv hc
    refine ⟨by rw [List.length_set]; exact h0, .inr ⟨g, c, cur.setIfInBounds k u, rfl, h2, Blk.set_ (t := t) h3 k u, h4, h5, by rw [Array.size_setIfInBounds]; exact h6, ?_⟩⟩
    rw [Array.toList_setIfInBounds, List.take_set, h7]
theorem row_blk {W : World} {base k : Nat} {e : TypeId} {size n : Nat} {v : Value} {xs : List Value} (h : W.ownsRow base e size v n xs) (hk : v.ownBlock = some k) : ∃ cs, Blk W k e cs := by
  obtain ⟨_, ⟨rfl, _⟩ | ⟨g', cap, cur, rfl, _, hh, _⟩⟩ := h
  · simp [Value.ownBlock] at hk
  · have : g' = k := by simpa [Value.ownBlock] using hk
    subst this
    exact ⟨cur, hh⟩
theorem own_far {W W' : World} {base : Nat} {e : TypeId} {size n : Nat} {v : Value} {xs : List Value} (h : W.ownsRow base e size v n xs) (f : Fr (fun _ => False) W W') : W'.ownsRow base e size v n xs := own_fr h f (fun _ _ h => h)
theorem cell_far {W W' : World} {p : Addr} {v : Value} (h : W.cell? p = some v) (f : Fr (fun _ => False) W W') : W'.cell? p = some v := by
  have hlt : p.block < W.heap.size := by
    rcases Nat.lt_or_ge p.block W.heap.size with h' | h'
    · exact h'
    · exfalso
      have : W.heap[p.block]? = none := by simp [h']
      simp [World.cell?, this] at h
  rw [f.cell hlt (fun h => h)]
  exact h
structure OnS (w : World) (b0 g mb r k : Nat) (T : List Ms) (E : List Ge) (gv ov : Value) (wr : World) : Prop where
  fr : Fr (fun _ => False) w wr
  net : NetAt wr b0 g mb r T k
  giv : wr.ownsRow b0 51 3 gv (E.length + 1) (gcells E)
  out : wr.ownsRow b0 3 1 ov (T.length + 1) (ocells T)
  len : E.length = T.length
  each : ∀ (j : Nat) (e : Ge) (x : Ms), E[j]? = some e → T[j]? = some x → e.f = x.f ∧ e.t = x.t ∧ e.m = x.bs.length ∧ Rd w e.A e.m (bv x.bs)
  lo : w.heap.size ≤ g ∧ w.heap.size ≤ mb ∧ w.heap.size ≤ b0
section
variable {w wr w' : World} {b0 g mb r k : Nat} {T : List Ms} {E : List Ge} {gv ov : Value}
theorem OnS.far (h : OnS w b0 g mb r k T E gv ov wr) (f : Fr (fun _ => False) wr w') : OnS w b0 g mb r k T E gv ov w' :=
  ⟨h.fr.trans f (fun _ _ h => h), h.net.far f, own_far h.giv f, own_far h.out f, h.len, h.each, h.lo⟩
theorem OnS.up (h : OnS w b0 g mb r k T E gv ov wr) : OnS w b0 g mb r (k + 1) T E gv ov wr := ⟨h.fr, h.net.up (by omega), h.giv, h.out, h.len, h.each, h.lo⟩
theorem row_gm {base : Nat} {e : TypeId} {size n : Nat} {v : Value} {xs : List Value} (h : wr.ownsRow b0 e size v n xs) (f : Fr (Gm g mb) wr w') (hg : g < b0) (hm : mb < b0) : w'.ownsRow b0 e size v n xs :=
  own_fr h f (fun q hq e => by have := (World.ownsRow.lt h q hq).1; rcases e with e | e <;> omega)
/-- A list's block is not the net's. -/
theorem off_row {fp : Nat → Prop} {e : TypeId} {size n : Nat} {v : Value} {xs : List Value} (h : wr.ownsRow b0 e size v n xs) (h1 : 5 ≠ e) (h2 : 46 ≠ e) (hfp : ∀ q, fp q → v.ownBlock = some q) : ∀ q, fp q → ∃ t cs, Blk wr q t cs ∧ 5 ≠ t ∧ 46 ≠ t :=
  fun q hq => by obtain ⟨cs, hb⟩ := row_blk h (hfp q hq); exact ⟨e, cs, hb, h1, h2⟩
theorem off_other {fp : Nat → Prop} {e e' : TypeId} {size size' n n' : Nat} {v v' : Value} {xs xs' : List Value} (h : wr.ownsRow b0 e size v n xs) (h' : wr.ownsRow b0 e' size' v' n' xs') (hne : e' ≠ e) (f : Fr fp wr w') (hfp : ∀ q, fp q → v.ownBlock = some q) : w'.ownsRow b0 e' size' v' n' xs' :=
  own_fr h' f (fun q hq e => by obtain ⟨cs, hb⟩ := row_blk h (hfp q e); exact own_blk_ne h' hb hne hq)
theorem fr_row {fp : Nat → Prop} {e : TypeId} {size n : Nat} {v : Value} {xs : List Value} (h : wr.ownsRow b0 e size v n xs) (f : Fr (fun _ => False) w wr) (f2 : Fr fp wr w') (hlo : w.heap.size ≤ b0) (hfp : ∀ q, fp q → v.ownBlock = some q) : Fr (fun _ => False) w w' :=
  f.trans f2 (fun q hq e => by have := (World.ownsRow.lt h q (hfp q e)).1; omega)
end
end Go.Proofs.Ytpgklhbbjbdejaa
