/-
  THE CALLS OF A NET by what was sent.
-/
import Derived.Test.YtpgklhbbjbdejaaGh
namespace Go.Proofs.Ytpgklhbbjbdejaa
set_option linter.unusedSimpArgs false
set_option linter.unusedVariables false
open Go Go.RowKit Go.Maps

def lookT (T : List Ms) : Nat → Option Ms
  | 0 => none
  | k + 1 => match T[k]? with
    | some x => if x.live then some x else none
    | none => none
theorem lookT_some {T : List Ms} {id : Nat} {x : Ms} (h : lookT T id = some x) : ∃ k, id = k + 1 ∧ T[k]? = some x ∧ x.live = true := by
  cases id with
  | zero => cases h
  | succ k =>
    have h : (match T[k]? with | some x => if x.live then some x else none | none => none) = some x := h
    cases hT : T[k]? with
    | none => rw [hT] at h; cases h
    | some y =>
      rw [hT] at h
      simp only at h
      split at h
      · injection h with h
        subst h
        exact ⟨k, rfl, hT, by assumption⟩
      · cases h
theorem gone_of {W : World} {b0 : Nat} {D : DataW Value} {T : List Ms} (hE : Each W b0 D T) (h0 : gone D 0) (h1 : ∀ k, T.length < k → gone D k) {id : Nat} (h : lookT T id = none) : gone D id := by
  cases id with
  | zero => exact h0
  | succ k =>
    have h : (match T[k]? with | some x => if x.live then some x else none | none => none) = none := h
    cases hT : T[k]? with
    | none => exact h1 _ (by have := List.getElem?_eq_none_iff.1 hT; omega)
    | some y =>
      rw [hT] at h
      simp only at h
      split at h
      · cases h
      · rename_i hl
        exact (hE k y hT).2.2 (by simpa using hl)
theorem gh_found {W : World} {b0 g mb r i : Nat} {T : List Ms} (h : NetAt W b0 g mb r T i) {id : Nat} (hid : id < 18446744073709551616) {x : Ms} (hx : lookT T id = some x) :
    ∃ A c, Rd W A x.bs.length (bv x.bs) ∧ x.f < 5 ∧ x.t < 5 ∧ x.bs.length ≤ 16384 ∧
      ∀ W', Fr (fun _ => False) W W' → Calls Try.prog 33 #[.pointer (some ⟨g, 0, none⟩), .int .u64 (id : Nat)] W' fun e w' => e = .returned (.tuple #[.agg #[.int .i64 (x.f : Nat), .int .i64 (x.t : Nat), .slice A x.bs.length c], .int .i64 0]) ∧ Fr (fun _ => False) W' w' := by
  obtain ⟨lk, D, n, hB, hO, h1, h2, h3, h4, h5, h6⟩ := h.ex
  obtain ⟨k, rfl, hk, hl⟩ := lookT_some hx
  obtain ⟨⟨e0, e1, e2⟩, e3, _⟩ := h4 k x hk
  obtain ⟨k1, A, c, k2, k3⟩ := e3 hl
  exact ⟨A, c, Rd.of_own k3, e0, e1, e2, fun W' hW => find_yes W' g mb n (r : Nat) (T.length : Nat) lk D (k + 1) _ _ A _ c (keepB hB hW) (MapI.fr hO hW (fun h => h)) hid k2 k1⟩
theorem gh_lost {W : World} {b0 g mb r i : Nat} {T : List Ms} (h : NetAt W b0 g mb r T i) {id : Nat} (hid : id < 18446744073709551616) (hx : lookT T id = none) :
    Calls Try.prog 33 #[.pointer (some ⟨g, 0, none⟩), .int .u64 (id : Nat)] W fun e w' => e = .returned (.tuple #[.agg #[.int .i64 0, .int .i64 0, .slice none 0 0], .int .i64 4]) ∧ Fr (fun _ => False) W w' := by
  obtain ⟨lk, D, n, hB, hO, h1, h2, h3, h4, h5, h6⟩ := h.ex
  have hg := gone_of h4 h5 h6 hx
  exact find_none W g mb n (r : Nat) (T.length : Nat) lk D id hB hO hid hg.2 hg.1
/-- Send. -/
theorem gh_send {W : World} {b0 g mb r i : Nat} {T : List Ms} (h : NetAt W b0 g mb r T i) (hi : i ≤ 4000) (hr4 : r ≤ 4) (f t : Int) (A : Option Addr) (m c : Nat) (bs : List UInt8) (hr : Rd W A m (bv bs)) :
    Calls Try.prog 15 #[.pointer (some ⟨g, 0, none⟩), .int .i64 f, .int .i64 t, .slice A m c] W fun e w' =>
      (∃ F T' : Nat, f = F ∧ t = T' ∧ e = .returned (.tuple #[.int .u64 ((T.length + 1 : Nat) : Int), .int .i64 0]) ∧ NetAt w' b0 g mb r (T ++ [⟨F, T', bs, true⟩]) (i + 1) ∧ Fr (Gm g mb) W w') ∨
      (∃ v : Int, v ≠ 0 ∧ e = .returned (.tuple #[.int .u64 0, .int .i64 v]) ∧ Fr (fun _ => False) W w') := by
  obtain ⟨lk, D, n, hB, _⟩ := h.ex
  by_cases hg : (1 ≤ f ∧ f ≤ (r : Nat)) ∧ (1 ≤ t ∧ t ≤ (r : Nat)) ∧ f ≠ t
  · obtain ⟨hf, ht, hne⟩ := hg
    obtain ⟨F, rfl⟩ := Int.eq_ofNat_of_zero_le (show 0 ≤ f by omega)
    obtain ⟨T', rfl⟩ := Int.eq_ofNat_of_zero_le (show 0 ≤ t by omega)
    by_cases hm : m ≤ 16384
    · refine (send_of W g mb r (T.length : Nat) lk F T' A m c (PutQ W b0 g mb r T i ⟨F, T', bs, true⟩) hB hf ht hne hm (gh_put h hi F T' (by omega) (by omega) A m c bs hr hm)).mono ?_
      rintro e w' ⟨id, v, rfl, ⟨rfl, rfl, h1, h2⟩ | ⟨rfl, rfl, h1⟩⟩
      · exact .inl ⟨F, T', rfl, rfl, rfl, h1, h2⟩
      · exact .inr ⟨3, by decide, rfl, h1⟩
    · refine (send_long W g mb r (T.length : Nat) lk F T' A m c hB hf ht hne (by omega)).mono ?_
      rintro e w' ⟨rfl, rfl⟩
      exact .inr ⟨6, by decide, rfl, Fr.refl _ _⟩
  · refine (send_bad W g mb r (T.length : Nat) lk f t A m c hB hg).mono ?_
    rintro e w' ⟨rfl, rfl⟩
    exact .inr ⟨1, by decide, rfl, Fr.refl _ _⟩
/-- Double. -/
theorem gh_double {W : World} {b0 g mb r i : Nat} {T : List Ms} (h : NetAt W b0 g mb r T i) (hi : i ≤ 4000) {id : Nat} (hid : id < 18446744073709551616) {x : Ms} (hx : lookT T id = some x) :
    Calls Try.prog 17 #[.pointer (some ⟨g, 0, none⟩), .int .u64 (id : Nat)] W fun e w' =>
      (e = .returned (.tuple #[.int .u64 ((T.length + 1 : Nat) : Int), .int .i64 0]) ∧ NetAt w' b0 g mb r (T ++ [⟨x.f, x.t, x.bs, true⟩]) (i + 1) ∧ Fr (Gm g mb) W w') ∨
      (e = .returned (.tuple #[.int .u64 0, .int .i64 3]) ∧ Fr (fun _ => False) W w') := by
  obtain ⟨A, c, h1, h2, h3, h4, h5⟩ := gh_found h hid hx
  refine (double_of W _ _ _ _ A _ c (fun id v w' => (id = ((T.length + 1 : Nat) : Int) ∧ v = 0 ∧ NetAt w' b0 g mb r (T ++ [⟨x.f, x.t, x.bs, true⟩]) (i + 1) ∧ Fr (Gm g mb) W w') ∨ (id = 0 ∧ v = 3 ∧ Fr (fun _ => False) W w')) (h5 W (Fr.refl _ _)) (fun W' hW => ?_)).mono ?_
  · refine (gh_put (h.far hW) hi x.f x.t h2 h3 A _ c x.bs (h1.far hW) h4).mono ?_
    rintro e w' ⟨id, v, rfl, ⟨rfl, rfl, k1, k2⟩ | ⟨rfl, rfl, k1⟩⟩
    · exact ⟨_, _, rfl, .inl ⟨rfl, rfl, k1, (hW.mono (fun _ _ h => h.elim)).trans k2 (fun _ _ h => h)⟩⟩
    · exact ⟨_, _, rfl, .inr ⟨rfl, rfl, hW.trans k1 (fun _ _ h => h)⟩⟩
  · rintro e w' ⟨id, v, rfl, ⟨rfl, rfl, k1, k2⟩ | ⟨rfl, rfl, k1⟩⟩
    · exact .inl ⟨rfl, k1, k2⟩
    · exact .inr ⟨rfl, k1⟩
theorem gh_double_none {W : World} {b0 g mb r i : Nat} {T : List Ms} (h : NetAt W b0 g mb r T i) {id : Nat} (hid : id < 18446744073709551616) (hx : lookT T id = none) :
    Calls Try.prog 17 #[.pointer (some ⟨g, 0, none⟩), .int .u64 (id : Nat)] W fun e w' => e = .returned (.tuple #[.int .u64 0, .int .i64 4]) ∧ Fr (fun _ => False) W w' :=
  double_none W _ _ (gh_lost h hid hx)
/-- At. -/
theorem gh_at {W : World} {b0 g mb r i : Nat} {T : List Ms} (h : NetAt W b0 g mb r T i) {id : Nat} (hid : id < 18446744073709551616) {x : Ms} (hx : lookT T id = some x) :
    Calls Try.prog 18 #[.pointer (some ⟨g, 0, none⟩), .int .u64 (id : Nat)] W fun e w' => ∃ A c, e = .returned (.tuple #[.agg #[.int .i64 (x.f : Nat), .int .i64 (x.t : Nat), .slice A x.bs.length c], .int .i64 0]) ∧ w'.ownsRow W.heap.size 5 1 (.slice A x.bs.length c) x.bs.length (bv x.bs) ∧ Fr (fun _ => False) W w' := by
  obtain ⟨A, c, h1, h2, h3, h4, h5⟩ := gh_found h hid hx
  refine (at_of W _ _ _ _ 0 A _ c x.bs h1 (by omega) h5).mono ?_
  rintro e w' ⟨v, rfl, k1, k2⟩
  obtain ⟨A9, c9, rfl, _, _⟩ := own_slice k1
  exact ⟨A9, c9, rfl, k1, k2⟩
theorem gh_at_none {W : World} {b0 g mb r i : Nat} {T : List Ms} (h : NetAt W b0 g mb r T i) {id : Nat} (hid : id < 18446744073709551616) (hx : lookT T id = none) :
    Calls Try.prog 18 #[.pointer (some ⟨g, 0, none⟩), .int .u64 (id : Nat)] W fun e w' => ∃ A n c, e = .returned (.tuple #[.agg #[.int .i64 0, .int .i64 0, .slice A n c], .int .i64 4]) ∧ Fr (fun _ => False) W w' := by
  refine (at_of W _ _ 0 0 4 none 0 0 [] (Rd.none_ _ _) (by decide) (fun W' hW => gh_lost (h.far hW) hid hx)).mono ?_
  rintro e w' ⟨v, h0, h1, h2⟩
  obtain ⟨A9, c9, rfl, _, _⟩ := own_slice h1
  exact ⟨A9, 0, c9, h0, h2⟩
theorem filter_kill : ∀ (T : List Ms) (k : Nat) (x y : Ms), T[k]? = some x → x.live = true → y.live = false → ((T.set k y).filter (·.live)).length + 1 = (T.filter (·.live)).length
  | [], _, _, _, h, _, _ => by cases h
  | a :: T, 0, x, y, h, h1, h2 => by
    have : a = x := by simpa using h
    subst this
    simp [h1, h2]
  | a :: T, k + 1, x, y, h, h1, h2 => by
    have h' : T[k]? = some x := by simpa using h
    have ih := filter_kill T k x y h' h1 h2
    rw [List.set_cons_succ, List.filter_cons, List.filter_cons]
    split <;> (try simp only [List.length_cons]) <;> omega
/-- The list where one message is out. -/
def kill (T : List Ms) (k : Nat) (x : Ms) : List Ms := T.set k ⟨x.f, x.t, x.bs, false⟩
theorem gh_deliver {W : World} {b0 g mb r i : Nat} {T : List Ms} (h : NetAt W b0 g mb r T i) (hi : i ≤ 4000) {k : Nat} (hid : k + 1 < 18446744073709551616) {x : Ms} (hx : lookT T (k + 1) = some x) :
    Calls Try.prog 16 #[.pointer (some ⟨g, 0, none⟩), .int .u64 ((k + 1 : Nat) : Int)] W fun e w' => ∃ A c, e = .returned (.tuple #[.agg #[.int .i64 (x.f : Nat), .int .i64 (x.t : Nat), .slice A x.bs.length c], .int .i64 0]) ∧
      w'.ownsRow W.heap.size 5 1 (.slice A x.bs.length c) x.bs.length (bv x.bs) ∧ NetAt w' b0 g mb r (kill T k x) (i + 1) ∧ Fr (Gm g mb) W w' := by
  obtain ⟨lk, D, n, hB, hO, h1, h2, h3, h4, h5, h6⟩ := h.ex
  have hle := h.le
  obtain ⟨k', e', hk, hl⟩ := lookT_some hx
  have ek : k = k' := by omega
  subst ek
  obtain ⟨⟨e0, e1, e2⟩, e3, _⟩ := h4 k x hk
  obtain ⟨k1, A, c, k2, k3⟩ := e3 hl
  have hb := h2 (x.f * 5 + x.t)
  refine (deliver_g W g mb n (r : Nat) (T.length : Nat) lk D (k + 1) x.f x.t A _ c x.bs hB hO hid k2 k1 (Rd.of_own k3) (by omega) e0 e1 (by omega) (by omega)).mono ?_
  rintro e w' ⟨v, rfl, q1, q2, q3, q4⟩
  obtain ⟨A9, c9, rfl, _, _⟩ := own_slice q1
  refine ⟨A9, c9, rfl, q1, ⟨⟨_, _, n, by unfold kill; rw [List.length_set]; exact q2, q3, by omega, fun j => ?_, ?_, ?_, gone_del h5, fun q hq => ?_⟩, by unfold kill; rw [List.length_set]; omega, h.gb, h.mbb, Nat.le_trans h.sz q4.size⟩, q4⟩
  · unfold upd
    have := h2 j
    split <;> omega
  · have hs := Maps.size_del (World.ownsMap.tidy hO K64) (k := ky (k + 1))
    rw [k1, if_pos rfl] at hs
    have hf := filter_kill T k x ⟨x.f, x.t, x.bs, false⟩ hk hl rfl
    have hs' : Maps.size (D.del (ky (k + 1))) + 1 = Maps.size D := hs
    show Maps.size (D.del (ky (k + 1))) = ((T.set k ⟨x.f, x.t, x.bs, false⟩).filter (·.live)).length
    rw [h3] at hs'
    omega
  · have hE := h4.fr q4 (fun k e => .inl (by have := h.gb; have := h.mbb; rcases e with e | e <;> omega))
    intro q y hy
    unfold kill at hy
    by_cases hq : q = k
    · subst hq
      rw [List.getElem?_set_self (List.getElem?_eq_some_iff.1 hk).1] at hy
      injection hy with hy
      subst hy
      exact ⟨⟨e0, e1, e2⟩, (fun hl => by cases hl), fun _ => ⟨Maps.has_del_same, Maps.atKey_del_same _⟩⟩
    · rw [List.getElem?_set_ne (by omega)] at hy
      obtain ⟨p0, p1, p2⟩ := hE q y hy
      exact ⟨p0, fun hl => held_del (p1 hl) (by omega), fun hl => gone_del (p2 hl)⟩
  · unfold kill at hq
    rw [List.length_set] at hq
    exact gone_del (h6 q hq)
theorem gh_deliver_none {W : World} {b0 g mb r i : Nat} {T : List Ms} (h : NetAt W b0 g mb r T i) {id : Nat} (hid : id < 18446744073709551616) (hx : lookT T id = none) :
    Calls Try.prog 16 #[.pointer (some ⟨g, 0, none⟩), .int .u64 (id : Nat)] W fun e w' => e = .returned (.tuple #[.agg #[.int .i64 0, .int .i64 0, .slice none 0 0], .int .i64 4]) ∧ Fr (fun _ => False) W w' :=
  deliver_of W _ _ (fun _ hW => gh_at_none (h.far hW) hid hx)
theorem gh_drop {W : World} {b0 g mb r i : Nat} {T : List Ms} (h : NetAt W b0 g mb r T i) (hi : i ≤ 4000) {k : Nat} (hid : k + 1 < 18446744073709551616) {x : Ms} (hx : lookT T (k + 1) = some x) :
    Calls Try.prog 19 #[.pointer (some ⟨g, 0, none⟩), .int .u64 ((k + 1 : Nat) : Int)] W fun e w' => e = .returned (.int .i64 0) ∧ NetAt w' b0 g mb r (kill T k x) (i + 1) ∧ Fr (Gm g mb) W w' := by
  refine (drop_of W _ _ 0 (fun w' => NetAt w' b0 g mb r (kill T k x) (i + 1) ∧ Fr (Gm g mb) W w') (fun W' o hQ => ⟨hQ.1.far ((Fr.refl _ _).alloc _), hQ.2.alloc _⟩) ((gh_deliver h hi hid hx).mono ?_)).mono ?_
  · rintro e w' ⟨A, c, rfl, _, h1, h2⟩
    exact ⟨_, _, _, _, _, rfl, h1, h2⟩
  · rintro e w' h1
    exact h1
theorem gh_drop_none {W : World} {b0 g mb r i : Nat} {T : List Ms} (h : NetAt W b0 g mb r T i) {id : Nat} (hid : id < 18446744073709551616) (hx : lookT T id = none) :
    Calls Try.prog 19 #[.pointer (some ⟨g, 0, none⟩), .int .u64 (id : Nat)] W fun e w' => e = .returned (.int .i64 4) ∧ Fr (fun _ => False) W w' := by
  refine (drop_of W _ _ 4 (fun w' => Fr (fun _ => False) W w') (fun W' o hQ => hQ.alloc _) ((gh_deliver_none h hid hx).mono ?_)).mono ?_
  · rintro e w' ⟨rfl, h1⟩
    exact ⟨_, _, _, _, _, rfl, h1⟩
  · rintro e w' h1
    exact h1
theorem gh_count {W : World} {b0 g mb r i : Nat} {T : List Ms} (h : NetAt W b0 g mb r T i) :
    Calls Try.prog 21 #[.pointer (some ⟨g, 0, none⟩)] W fun e w' => e = .returned (.int .i64 ((T.filter (·.live)).length : Nat)) ∧ w' = W := by
  obtain ⟨lk, D, n, hB, hO, h1, h2, h3, h4⟩ := h.ex
  rw [← h3]
  exact count_c W g mb n (r : Nat) (T.length : Nat) lk D hB hO
end Go.Proofs.Ytpgklhbbjbdejaa
