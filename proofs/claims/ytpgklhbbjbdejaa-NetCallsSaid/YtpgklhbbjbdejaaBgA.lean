/-
  NetBag's plain side; its row of messages; two nets.
-/
import Derived.Test.YtpgklhbbjbdejaaLetV
import Derived.Test.YtpgklhbbjbdejaaCopy
import Derived.Laws.MakeOwn
namespace Go.Proofs.Ytpgklhbbjbdejaa
set_option linter.unusedSimpArgs false
set_option linter.unusedVariables false
open Go Go.RowKit Go.Maps

theorem lookT_at {T : List Ms} {k : Nat} {x : Ms} (h : T[k]? = some x) : lookT T (k + 1) = if x.live then some x else none := by
  show (match T[k]? with | some x => if x.live then some x else none | none => none) = _
  rw [h]
theorem lookT_kill {T : List Ms} {k : Nat} {x : Ms} (hx : T[k]? = some x) (id : Nat) : lookT (kill T k x) id = if id = k + 1 then none else lookT T id := by
  cases id with
  | zero => simp [lookT]
  | succ j =>
    show (match (kill T k x)[j]? with | some x => if x.live then some x else none | none => none) = if j + 1 = k + 1 then none else (match T[j]? with | some x => if x.live then some x else none | none => none)
    unfold kill
    by_cases h : j = k
    · subst h
      rw [List.getElem?_set_self (List.getElem?_eq_some_iff.1 hx).1]
      simp
    · rw [List.getElem?_set_ne (by omega), if_neg (by omega)]
theorem lids_range (T : List Ms) : ∀ n, n ≤ T.length → ((List.range' 1 n).filter fun id => (lookT T id).isSome).length = ((T.take n).filter (·.live)).length
  | 0, _ => by simp
  | n + 1, h => by
    have ih := lids_range T n (by omega)
    obtain ⟨x, hx⟩ : ∃ x, T[n]? = some x := ⟨_, List.getElem?_eq_getElem (by omega)⟩
    rw [List.range'_concat, List.take_add_one, hx, List.filter_append, List.filter_append, List.length_append, List.length_append, ih]
    congr 1
    show (List.filter (fun id => (lookT T id).isSome) [1 + 1 * n]).length = (List.filter (·.live) [x]).length
    have e : (lookT T (1 + 1 * n)).isSome = x.live := by
      rw [show 1 + 1 * n = n + 1 by omega, lookT_at hx]
      cases x.live <;> rfl
    simp only [List.filter_cons, List.filter_nil, e]
    split <;> rfl
theorem lids_cnt (T : List Ms) : (lids T).length = (T.filter (·.live)).length := by
  have h := lids_range T T.length (Nat.le_refl _)
  rw [List.take_length] at h
  exact h
theorem dead_live {T : List Ms} (h : ∀ id, lookT T id = none) : (T.filter (·.live)).length = 0 := by
  rw [List.length_eq_zero_iff, List.filter_eq_nil_iff]
  intro x hx hl
  obtain ⟨k, hk⟩ := List.getElem?_of_mem hx
  have h1 := h (k + 1)
  rw [lookT_at hk, if_pos hl] at h1
  cases h1
theorem dead_way {T : List Ms} (h : (T.filter (·.live)).length = 0) (f t : Nat) : wayN T f t = 0 := by
  unfold wayN
  rw [List.length_eq_zero_iff, List.filter_eq_nil_iff] at h ⊢
  intro x hx hi
  unfold isW at hi
  rw [Bool.and_eq_true] at hi
  exact h x hx hi.1
theorem own_off {W W' : World} {fp : Nat → Prop} {base : Nat} {e : TypeId} {size n : Nat} {v : Value} {xs : List Value} (h : W.ownsRow base e size v n xs) (f : Fr fp W W') (hfp : ∀ k, fp k → (∃ t cs, Blk W k t cs ∧ e ≠ t) ∨ ∃ n D, MapI W k n D) : W'.ownsRow base e size v n xs :=
  own_fr h f (fun q hq e => by
    rcases hfp q e with ⟨t, cs, hb, hne⟩ | ⟨n, D, hO⟩
    · exact own_blk_ne h hb hne hq
    · exact own_map_ne h hO hq)
theorem NetV.off {W : World} {g mb r i : Nat} {T : List Ms} (h : NetV W g mb r T i) (e : TypeId) (he : e ≠ 46) : ∀ k, Gm g mb k → (∃ t cs, Blk W k t cs ∧ e ≠ t) ∨ ∃ n D, MapI W k n D := fun k hk => by
  obtain ⟨lk, D, n, hB, hO, _⟩ := h.ex
  rcases hk with rfl | rfl
  · exact .inl ⟨_, _, hB, he⟩
  · exact .inr ⟨_, _, hO⟩
theorem NetV.blk {W : World} {g mb r i : Nat} {T : List Ms} (h : NetV W g mb r T i) : ∃ C, Blk W g 46 C := by
  obtain ⟨lk, D, n, hB, hO, _⟩ := h.ex
  exact ⟨_, hB⟩
theorem NetV.lt {W : World} {g mb r i : Nat} {T : List Ms} (h : NetV W g mb r T i) : g < W.heap.size ∧ mb < W.heap.size := by
  obtain ⟨lk, D, n, hB, hO, _⟩ := h.ex
  exact ⟨hB.lt, World.ownsMap.lt hO⟩
/-- Another block's store leaves a net. -/
theorem NetV.sto {W W' : World} {g mb r i b : Nat} {T : List Ms} {t : TypeId} {C : Array Value} (h : NetV W g mb r T i) (hB : Blk W b t C) (h1 : 5 ≠ t) (h2 : 46 ≠ t) (f : Fr (fun k => k = b) W W') : NetV W' g mb r T i :=
  h.fr f (fun k e => by
    have e' : k = b := e
    subst e'
    obtain ⟨C2, hB2⟩ := h.blk
    exact .inl ⟨_, _, hB, h1, fun e => Blk.ne_ hB2 hB h2 e.symm⟩)
/-- What came, so far. -/
def mcell (x : Ms) (A : Option Addr) (c : Nat) : List Value := [.int .i64 (x.f : Nat), .int .i64 (x.t : Nat), .slice A x.bs.length c]
structure BgC (W : World) (bc L : Nat) (T : List Ms) (i : Nat) : Prop where
  ex : ∃ CS : Array Value, Blk W bc 51 CS ∧ CS.size = L * 3 ∧ ∀ j id x, j < i → (lids T)[j]? = some id → lookT T id = some x → ∃ A c, (∀ q v, (mcell x A c)[q]? = some v → CS[j * 3 + q]? = some v) ∧ W.ownsRow 0 5 1 (.slice A x.bs.length c) x.bs.length (bv x.bs)
theorem BgC.fr {W W' : World} {bc L i : Nat} {T : List Ms} {fp : Nat → Prop} (h : BgC W bc L T i) (f : Fr fp W W') (hfp : ∀ k, fp k → (∃ t cs, Blk W k t cs ∧ 5 ≠ t ∧ 51 ≠ t) ∨ ∃ n D, MapI W k n D) : BgC W' bc L T i := by
  obtain ⟨CS, h1, h2, h3⟩ := h.ex
  refine ⟨⟨CS, h1.fr f (fun e => ?_), h2, fun j id x q1 q2 q3 => ?_⟩⟩
  · rcases hfp _ e with ⟨t, cs, hb, _, hne⟩ | ⟨n, D, hO⟩
    · exact h1.ne_ hb hne rfl
    · exact map_ne h1 hO rfl
  · obtain ⟨A, c, q4, q5⟩ := h3 j id x q1 q2 q3
    refine ⟨A, c, q4, own_off q5 f (fun k e => ?_)⟩
    rcases hfp _ e with ⟨t, cs, hb, hne, _⟩ | ⟨n, D, hO⟩
    · exact .inl ⟨t, cs, hb, hne⟩
    · exact .inr ⟨n, D, hO⟩
theorem BgC.far {W W' : World} {bc L i : Nat} {T : List Ms} (h : BgC W bc L T i) (f : Fr (fun _ => False) W W') : BgC W' bc L T i := h.fr f (fun _ e => e.elim)
theorem BgC.gm {W W' : World} {bc L i : Nat} {T : List Ms} {g mb r i2 : Nat} {T2 : List Ms} (h : BgC W bc L T i) (o : NetV W g mb r T2 i2) (f : Fr (Gm g mb) W W') : BgC W' bc L T i := by
  obtain ⟨lk, D, n, hB, hO, _⟩ := o.ex
  refine h.fr f (fun k e => ?_)
  rcases e with rfl | rfl
  · exact .inl ⟨_, _, hB, by decide, by decide⟩
  · exact .inr ⟨_, _, hO⟩
theorem BgC.put {W : World} {bc L i id : Nat} {T : List Ms} {x : Ms} {A : Option Addr} {c : Nat} (h : BgC W bc L T i) (hi : i < L) (hid : (lids T)[i]? = some id) (hx : lookT T id = some x) (ho : W.ownsRow 0 5 1 (.slice A x.bs.length c) x.bs.length (bv x.bs)) :
    BgC (W.setCells bc (i * 3) (mcell x A c)) bc L T (i + 1) ∧ Fr (fun k => k = bc) W (W.setCells bc (i * 3) (mcell x A c)) ∧ W.there bc (i * 3) 3 := by
  obtain ⟨CS, h1, h2, h3⟩ := h.ex
  have f : Fr (fun k => k = bc) W (W.setCells bc (i * 3) (mcell x A c)) := Fr.setCells (fp := fun k => k = bc) (g := bc) (fun _ => rfl) _ _ _ (Fr.refl _ W)
  have own' : ∀ {v : Value} {n : Nat} {xs : List Value}, W.ownsRow 0 5 1 v n xs → (W.setCells bc (i * 3) (mcell x A c)).ownsRow 0 5 1 v n xs := fun hv => own_off hv f (fun k e => by have e' : k = bc := e; subst e'; exact .inl ⟨_, _, h1, by decide⟩)
  obtain ⟨CS2, g1, g2⟩ := heap_setCells bc (mcell x A c) (i * 3) W CS 51 (0, 0) h1 (by show _ + 3 ≤ _; rw [h2]; omega)
  have hsz : CS2.size = CS.size := by
    have := congrArg List.length g2
    simp [mcell] at this
    omega
  have hat : ∀ k, CS2[k]? = if i * 3 ≤ k ∧ k < i * 3 + 3 then (mcell x A c)[k - i * 3]? else CS[k]? := fun k => by
    rw [← Array.getElem?_toList, g2]
    have hl : (CS.toList.take (i * 3)).length = i * 3 := by simp; omega
    rcases Nat.lt_or_ge k (i * 3) with q | q
    · rw [if_neg (by omega), List.append_assoc, List.getElem?_append_left (by rw [hl]; exact q), List.getElem?_take, if_pos q, Array.getElem?_toList]
    · rcases Nat.lt_or_ge k (i * 3 + 3) with q2 | q2
      · rw [if_pos ⟨q, q2⟩, List.append_assoc, List.getElem?_append_right (by rw [hl]; exact q), hl, List.getElem?_append_left (by show _ < 3; omega)]
      · rw [if_neg (by omega), List.getElem?_append_right (by rw [List.length_append, hl]; exact q2), List.length_append, hl, List.getElem?_drop, ← Array.getElem?_toList]
        congr 1
        show i * 3 + 3 + (k - (i * 3 + 3)) = k
        omega
  refine ⟨⟨CS2, g1, by rw [hsz, h2], fun j id2 x2 q1 q2 q3 => ?_⟩, f, fun j hj => ?_⟩
  · by_cases hj : j = i
    · subst hj
      rw [hid] at q2
      injection q2 with q2
      subst q2
      rw [hx] at q3
      injection q3 with q3
      subst q3
      refine ⟨A, c, fun q v hv => ?_, own' ho⟩
      have hq : q < 3 := (List.getElem?_eq_some_iff.1 hv).1
      rw [hat, if_pos ⟨by omega, by omega⟩, show j * 3 + q - j * 3 = q by omega]
      exact hv
    · obtain ⟨A', c', q4, q5⟩ := h3 j id2 x2 (by omega) q2 q3
      refine ⟨A', c', fun q v hv => ?_, own' q5⟩
      have hq : q < 3 := (List.getElem?_eq_some_iff.1 hv).1
      rw [hat, if_neg (by omega)]
      exact q4 q v hv
  · have h4 : i * 3 + j < CS.size := by rw [h2]; omega
    exact ⟨by rw [h1.cell, Array.getElem?_eq_getElem h4]; rfl, h1.frozen _⟩
theorem mk_msgs (L : Nat) (hL : L ≤ 4000) : ∃ Z : Array Value, Z.size = L * 3 ∧ ∀ W : World, (Instr.makeSlice 60 (.int .i64 (L : Nat)) (.int .i64 (L : Nat))).run Try.prog W = .ok (.slice (some ⟨W.heap.size, 0, none⟩) L L) (W.alloc (.cells Z 51)) := by
  have h : (Try.prog.info? 51).map (fun i => (i.size, i.bytes, i.zero.isSome)) = some (3, 40, true) := by kernel_rfl
  obtain ⟨i, hi, hzz⟩ := Option.map_eq_some_iff.1 h
  simp only [Prod.mk.injEq] at hzz
  obtain ⟨hs, hb, hz⟩ := hzz
  obtain ⟨z, hz⟩ := Option.isSome_iff_exists.1 hz
  refine ⟨madeCells z.cells (L * 3), size_madeCells _ _, fun W => ?_⟩
  have hr := _root_.Go.run_make (P := Try.prog) W 60 51 i z Try.underlying60 hi hz .i64 .i64 (L : Nat) (L : Nat) (by omega) (Int.le_refl _) (by rw [hb]; omega) (by omega)
  rw [hs] at hr
  simpa using hr
theorem BgC.new {W : World} {bc L : Nat} {T : List Ms} {Z : Array Value} (hz : Z.size = L * 3) (h : Blk W bc 51 Z) : BgC W bc L T 0 := ⟨⟨Z, h, hz, fun j id x hj => absurd hj (by omega)⟩⟩
end Go.Proofs.Ytpgklhbbjbdejaa
