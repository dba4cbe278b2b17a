/-
  A NET BY WHAT WAS SENT: the list of the messages, each live or gone.
-/
import Derived.Test.YtpgklhbbjbdejaaSendG
import Derived.Test.YtpgklhbbjbdejaaAwk
namespace Go.Proofs.Ytpgklhbbjbdejaa
set_option linter.unusedSimpArgs false
set_option linter.unusedVariables false
open Go Go.RowKit Go.Maps

structure Ms where
  f : Nat
  t : Nat
  bs : List UInt8
  live : Bool
abbrev ky (k : Nat) : Lit := .int .u64 (k : Nat)
theorem ky_ne {a b : Nat} (h : a ≠ b) : ky a ≠ ky b := by
  intro e
  injection e with _ e
  omega
theorem ky_key {k : Nat} (h : k < 18446744073709551616) : WideAt.IsKeyLit (ky k) := K64.key (key64 h)
def gone (D : DataW Value) (k : Nat) : Prop := Maps.has D (ky k) = false ∧ D.atKey (ky k) (.held zM) = .held zM
def Held (W : World) (b0 : Nat) (D : DataW Value) (k : Nat) (x : Ms) : Prop :=
  Maps.has D (ky k) = true ∧ ∃ A c, D.atKey (ky k) (.held zM) = .held (.agg #[.int .i64 (x.f : Nat), .int .i64 (x.t : Nat), .slice A x.bs.length c]) ∧ W.ownsRow b0 5 1 (.slice A x.bs.length c) x.bs.length (bv x.bs)
def Each (W : World) (b0 : Nat) (D : DataW Value) (T : List Ms) : Prop :=
  ∀ k x, T[k]? = some x → (x.f < 5 ∧ x.t < 5 ∧ x.bs.length ≤ 16384) ∧ (x.live = true → Held W b0 D (k + 1) x) ∧ (x.live = false → gone D (k + 1))
structure NetAt (W : World) (b0 g mb r : Nat) (T : List Ms) (i : Nat) : Prop where
  ex : ∃ lk D n, Blk W g 46 (netC (r : Nat) (T.length : Nat) (some mb) lk) ∧ MapI W mb n D ∧ n ≤ i ∧ (∀ j, -(i : Int) ≤ lk j ∧ lk j ≤ i) ∧ Maps.size D = (T.filter (·.live)).length ∧ Each W b0 D T ∧ gone D 0 ∧ ∀ k, T.length < k → gone D k
  le : T.length ≤ i
  gb : g < b0
  mbb : mb < b0
  sz : b0 ≤ W.heap.size

theorem gone_put {D : DataW Value} {a b : Nat} {v : DataW Value} (h : gone D a) (hne : a ≠ b) : gone (D.put (ky b) v) a :=
  ⟨by rw [Maps.has_put_other (ky_ne hne)]; exact h.1, by rw [Maps.atKey_put_other (ky_ne hne)]; exact h.2⟩
theorem gone_del {D : DataW Value} {a b : Nat} (h : gone D a) : gone (D.del (ky b)) a := by
  by_cases hne : a = b
  · subst hne
    exact ⟨Maps.has_del_same, Maps.atKey_del_same _⟩
  · exact ⟨by rw [Maps.has_del_other (ky_ne hne)]; exact h.1, by rw [Maps.atKey_del_other (ky_ne hne)]; exact h.2⟩
theorem held_put {W : World} {b0 : Nat} {D : DataW Value} {a b : Nat} {v : DataW Value} {x : Ms} (h : Held W b0 D a x) (hne : a ≠ b) : Held W b0 (D.put (ky b) v) a x := by
  obtain ⟨h1, A, c, h2, h3⟩ := h
  exact ⟨by rw [Maps.has_put_other (ky_ne hne)]; exact h1, A, c, by rw [Maps.atKey_put_other (ky_ne hne)]; exact h2, h3⟩
theorem held_del {W : World} {b0 : Nat} {D : DataW Value} {a b : Nat} {x : Ms} (h : Held W b0 D a x) (hne : a ≠ b) : Held W b0 (D.del (ky b)) a x := by
  obtain ⟨h1, A, c, h2, h3⟩ := h
  exact ⟨by rw [Maps.has_del_other (ky_ne hne)]; exact h1, A, c, by rw [Maps.atKey_del_other (ky_ne hne)]; exact h2, h3⟩
theorem Each.fr {W W' : World} {b0 : Nat} {D : DataW Value} {T : List Ms} {fp : Nat → Prop} (h : Each W b0 D T) (f : Fr fp W W') (hfp : ∀ k, fp k → k < b0 ∨ ∃ t cs, Blk W k t cs ∧ 5 ≠ t) : Each W' b0 D T := by
  intro k x hx
  obtain ⟨h0, h1, h2⟩ := h k x hx
  refine ⟨h0, fun hl => ?_, h2⟩
  obtain ⟨g1, A, c, g2, g3⟩ := h1 hl
  refine ⟨g1, A, c, g2, own_fr g3 f (fun q hq e => ?_)⟩
  rcases hfp q e with h | ⟨t, cs, hb, hne⟩
  · have := (World.ownsRow.lt g3 q hq).1
    omega
  · exact own_blk_ne g3 hb hne hq
theorem NetAt.fr {W W' : World} {b0 g mb r i : Nat} {T : List Ms} {fp : Nat → Prop} (h : NetAt W b0 g mb r T i) (f : Fr fp W W') (hfp : ∀ k, fp k → ∃ t cs, Blk W k t cs ∧ 5 ≠ t ∧ 46 ≠ t) : NetAt W' b0 g mb r T i := by
  obtain ⟨lk, D, n, hB, hO, h1, h2, h3, h4, h5, h6⟩ := h.ex
  refine ⟨⟨lk, D, n, hB.fr f (fun e => ?_), MapI.fr hO f (fun e => ?_), h1, h2, h3, h4.fr f (fun k e => ?_), h5, h6⟩, h.le, h.gb, h.mbb, Nat.le_trans h.sz f.size⟩
  · obtain ⟨t, cs, hb, _, hne⟩ := hfp _ e
    exact hB.ne_ hb hne rfl
  · obtain ⟨t, cs, hb, _, _⟩ := hfp _ e
    exact map_ne hb hO rfl
  · obtain ⟨t, cs, hb, hne, _⟩ := hfp _ e
    exact .inr ⟨t, cs, hb, hne⟩
theorem NetAt.far {W W' : World} {b0 g mb r i : Nat} {T : List Ms} (h : NetAt W b0 g mb r T i) (f : Fr (fun _ => False) W W') : NetAt W' b0 g mb r T i := h.fr f (fun _ e => e.elim)
theorem NetAt.up {W : World} {b0 g mb r i j : Nat} {T : List Ms} (h : NetAt W b0 g mb r T i) (hij : i ≤ j) : NetAt W b0 g mb r T j := by
  obtain ⟨lk, D, n, hB, hO, h1, h2, h3⟩ := h.ex
  exact ⟨⟨lk, D, n, hB, hO, by omega, fun q => by have := h2 q; omega, h3⟩, by have := h.le; omega, h.gb, h.mbb, h.sz⟩

/-- What put answers. -/
def PutQ (W : World) (b0 g mb r : Nat) (T : List Ms) (i : Nat) (x : Ms) (id v : Int) (w' : World) : Prop :=
  (id = ((T.length + 1 : Nat) : Int) ∧ v = 0 ∧ NetAt w' b0 g mb r (T ++ [x]) (i + 1) ∧ Fr (Gm g mb) W w') ∨ (id = 0 ∧ v = 3 ∧ Fr (fun _ => False) W w')
theorem gh_put {W : World} {b0 g mb r i : Nat} {T : List Ms} (h : NetAt W b0 g mb r T i) (hi : i ≤ 4000) (f t : Nat) (hf : f < 5) (ht : t < 5) (A : Option Addr) (m c : Nat) (bs : List UInt8) (hr : Rd W A m (bv bs)) (hm : m ≤ 16384) :
    Calls Try.prog 32 #[.pointer (some ⟨g, 0, none⟩), .agg #[.int .i64 (f : Nat), .int .i64 (t : Nat), .slice A m c]] W fun e w' => ∃ id v, e = .returned (.tuple #[.int .u64 id, .int .i64 v]) ∧ PutQ W b0 g mb r T i ⟨f, t, bs, true⟩ id v w' := by
  obtain ⟨lk, D, n, hB, hO, h1, h2, h3, h4, h5, h6⟩ := h.ex
  have hle := h.le
  by_cases hl : lk (f * 5 + t) < 32
  · have hb := h2 (f * 5 + t)
    refine (put_g W g mb n (r : Nat) T.length lk D f t A m c bs hB hO hr (by omega) hf ht hl (by omega) (by omega) (by unfold maxLen; omega)).mono ?_
    rintro e w' ⟨rfl, v, k1, k2, k3, k4⟩
    have hbl : bs.length = m := by rw [← hr.1, bv_length]
    obtain ⟨A9, c9, rfl, _, _⟩ := own_slice k1
    have ky1 : WideAt.IsKeyLit (ky (T.length + 1)) := ky_key (by omega)
    have g1 := h6 (T.length + 1) (by omega)
    refine ⟨_, _, rfl, .inl ⟨rfl, rfl, ⟨⟨_, _, n + 1, by rw [List.length_append]; exact k2, k3, by omega, fun j => ?_, ?_, ?_, gone_put h5 (by omega), fun k hk => ?_⟩, by rw [List.length_append]; simp; omega, h.gb, h.mbb, Nat.le_trans h.sz k4.size⟩, k4⟩⟩
    · unfold upd
      have := h2 j
      split <;> omega
    · rw [Maps.size_put (World.ownsMap.tidy hO K64), g1.1, List.filter_append, List.length_append, h3]
      simp
    · have hE := h4.fr k4 (fun k e => .inl (by have := h.gb; have := h.mbb; rcases e with e | e <;> omega))
      intro k x hx
      rcases Nat.lt_or_ge k T.length with hk | hk
      · rw [List.getElem?_append_left hk] at hx
        obtain ⟨e0, e1, e2⟩ := hE k x hx
        exact ⟨e0, fun hl => held_put (e1 hl) (by omega), fun hl => gone_put (e2 hl) (by omega)⟩
      · rw [List.getElem?_append_right hk] at hx
        have hk0 : k = T.length := by
          have := (List.getElem?_eq_some_iff.1 hx).1
          simp at this
          omega
        subst hk0
        rw [Nat.sub_self] at hx
        injection hx with hx
        subst hx
        refine ⟨⟨hf, ht, by show bs.length ≤ _; omega⟩, fun _ => ⟨Maps.has_put_same (World.ownsMap.isMap hO) ky1 _, A9, c9, ?_, ?_⟩, fun hl => by cases hl⟩
        · show _ = DataW.held (Value.agg #[.int .i64 (f : Nat), .int .i64 (t : Nat), .slice A9 bs.length c9])
          rw [hbl]
          exact Maps.atKey_put_same (World.ownsMap.isMap hO) ky1 _ _
        · show w'.ownsRow b0 5 1 (.slice A9 bs.length c9) bs.length (bv bs)
          rw [hbl]
          exact own_base k1 (fun q hq => Nat.le_trans h.sz (World.ownsRow.lt k1 q hq).1)
    · rw [List.length_append] at hk
      simp at hk
      exact gone_put (h6 k (by omega)) (by omega)
  · refine (put_full W g mb (r : Nat) (T.length : Nat) lk f t A m c hB hf ht (by omega)).mono ?_
    rintro e w' ⟨rfl, k1⟩
    exact ⟨_, _, rfl, .inr ⟨rfl, rfl, k1⟩⟩
end Go.Proofs.Ytpgklhbbjbdejaa
