/-
  NetBag's state.
-/
import Derived.Test.YtpgklhbbjbdejaaBgA
import Derived.Test.YtpgklhbbjbdejaaRoom
namespace Go.Proofs.Ytpgklhbbjbdejaa
set_option linter.unusedSimpArgs false
set_option linter.unusedVariables false
open Go Go.RowKit Go.Maps

structure RvS (w : World) (g mb r i : Nat) (T : List Ms) (W : World) : Prop where
  fr : Fr (fun _ => False) w W
  net : NetV W g mb r T i
  lo : w.heap.size ≤ g ∧ w.heap.size ≤ mb
theorem RvS.far {w W W' : World} {g mb r i : Nat} {T : List Ms} (h : RvS w g mb r i T W) (f : Fr (fun _ => False) W W') : RvS w g mb r i T W' := ⟨h.fr.trans f (fun _ _ e => e), h.net.far f, h.lo⟩
theorem RvS.gm {w W W' : World} {g mb r i j : Nat} {T T2 : List Ms} (h : RvS w g mb r i T W) (f : Fr (Gm g mb) W W') (k : NetV W' g mb r T2 j) : RvS w g mb r j T2 W' :=
  ⟨h.fr.trans f (fun q hq e => by have := h.lo; rcases e with e | e <;> omega), k, h.lo⟩
/-- Two nets, the row of the letters, what came. -/
structure BgS (w W : World) (g mb gc mbc r : Nat) (T1 T2 : List Ms) (i1 i2 : Nat) : Prop where
  fr : Fr (fun _ => False) w W
  n1 : NetV W g mb r T1 i1
  n2 : NetV W gc mbc r T2 i2
  lo : (w.heap.size ≤ g ∧ w.heap.size ≤ mb) ∧ w.heap.size ≤ gc ∧ w.heap.size ≤ mbc
  ne : g ≠ gc ∧ mb ≠ mbc
section
variable {w W W' : World} {g mb gc mbc r i1 i2 j : Nat} {T T1 T2 T3 : List Ms}
theorem BgS.far (h : BgS w W g mb gc mbc r T1 T2 i1 i2) (f : Fr (fun _ => False) W W') : BgS w W' g mb gc mbc r T1 T2 i1 i2 := ⟨h.fr.trans f (fun _ _ e => e), h.n1.far f, h.n2.far f, h.lo, h.ne⟩
theorem BgS.one (h : BgS w W g mb gc mbc r T1 T2 i1 i2) (k : NetV W' g mb r T3 j) (f : Fr (Gm g mb) W W') : BgS w W' g mb gc mbc r T3 T2 j i2 :=
  ⟨h.fr.trans f (fun q hq e => by have := h.lo; rcases e with e | e <;> omega), k, h.n2.gm h.n1 f h.ne.1 h.ne.2, h.lo, h.ne⟩
theorem BgS.two (h : BgS w W g mb gc mbc r T1 T2 i1 i2) (k : NetV W' gc mbc r T3 j) (f : Fr (Gm gc mbc) W W') : BgS w W' g mb gc mbc r T1 T3 i1 j :=
  ⟨h.fr.trans f (fun q hq e => by have := h.lo; rcases e with e | e <;> omega), h.n1.gm h.n2 f (Ne.symm h.ne.1) (Ne.symm h.ne.2), k, h.lo, h.ne⟩
theorem BgS.sto {b : Nat} {C : Array Value} (h : BgS w W g mb gc mbc r T1 T2 i1 i2) (hB : Blk W b 51 C) (hb : w.heap.size ≤ b) (f : Fr (fun k => k = b) W W') : BgS w W' g mb gc mbc r T1 T2 i1 i2 :=
  ⟨h.fr.trans f (fun q hq e => by have e' : q = b := e; omega), h.n1.sto hB (by decide) (by decide) f, h.n2.sto hB (by decide) (by decide) f, h.lo, h.ne⟩
theorem lrow {base bl L cl q id : Nat} {x : Ms} (h : W.ownsRow base 65 4 (.slice (some ⟨bl, 0, none⟩) L cl) L (lcells T (lids T))) (hq : q < L) (hid : (lids T)[q]? = some id) (hx : lookT T id = some x) :
    W.cell? ⟨bl, q * 4, none⟩ = some (.int .u64 (id : Nat)) ∧ W.cell? ⟨bl, q * 4 + 1, none⟩ = some (.int .i64 (x.f : Nat)) ∧ W.cell? ⟨bl, q * 4 + 2, none⟩ = some (.int .i64 (x.t : Nat)) ∧ W.cell? ⟨bl, q * 4 + 3, none⟩ = some (.int .i64 (x.bs.length : Nat)) := by
  obtain ⟨b', cl', e', _, _, hcl⟩ := own_cells h (by omega)
  injection e' with e1 e2 e3
  injection e1 with e1
  injection e1 with e1 _ _
  subst e1
  have hc := fun j v (hj : j < 4) (h : (lcell T id)[j]? = some v) => hcl (q * 4 + j) v ((lcells_at T _ q id hid j hj).trans h)
  have hce : lcell T id = [.int .u64 (id : Nat), .int .i64 (x.f : Nat), .int .i64 (x.t : Nat), .int .i64 (x.bs.length : Nat)] := by unfold lcell; rw [hx]
  rw [hce] at hc
  exact ⟨hc 0 _ (by omega) rfl, hc 1 _ (by omega) rfl, hc 2 _ (by omega) rfl, hc 3 _ (by omega) rfl⟩
theorem lid_at {q : Nat} (hq : q < (lids T).length) : ∃ id x, (lids T)[q]? = some id ∧ lookT T id = some x := by
  obtain ⟨id, hid⟩ : ∃ id, (lids T)[q]? = some id := ⟨_, List.getElem?_eq_getElem hq⟩
  obtain ⟨x, hx⟩ := Option.isSome_iff_exists.1 (mem_lids.1 (List.mem_of_getElem? hid))
  exact ⟨id, x, hid, hx⟩
theorem BgC.at_ {bc L i id : Nat} {x : Ms} (h : BgC W bc L T i) (hj : j < i) (hid : (lids T)[j]? = some id) (hx : lookT T id = some x) : ∃ A c, W.rangeAt bc (j * 3) (mcell x A c) ∧ W.ownsRow 0 5 1 (.slice A x.bs.length c) x.bs.length (bv x.bs) := by
  obtain ⟨CS, h1, h2, h3⟩ := h.ex
  obtain ⟨A, c, h4, h5⟩ := h3 j id x hj hid hx
  exact ⟨A, c, fun q v hv => by rw [h1.cell]; exact h4 q v hv, h5⟩
theorem BgC.blk {bc L i : Nat} (h : BgC W bc L T i) : ∃ C, Blk W bc 51 C := by
  obtain ⟨CS, h1, h2, h3⟩ := h.ex
  exact ⟨CS, h1⟩
/-- After the first of them were delivered. -/
def Done (T T1 : List Ms) (q : Nat) : Prop := T1.length = T.length ∧ ∀ id, lookT T1 id = if id ∈ (lids T).take q then none else lookT T id
theorem Done.look {q id : Nat} {x : Ms} (h : Done T T1 q) (hid : (lids T)[q]? = some id) (hx : lookT T id = some x) : lookT T1 id = some x := by
  rw [h.2 id, if_neg, hx]
  intro hm
  obtain ⟨i, hi⟩ := List.getElem?_of_mem hm
  rw [List.getElem?_take] at hi
  split at hi
  · rename_i hlt
    have h1 := List.getElem?_eq_some_iff.1 hi
    have h2 := List.getElem?_eq_some_iff.1 hid
    have h3 := (List.pairwise_iff_getElem.1 (lids_lt T)) i q h1.1 h2.1 hlt
    rw [h1.2, h2.2] at h3
    omega
  · cases hi
theorem Done.step {q k : Nat} {x : Ms} (h : Done T T1 q) (hid : (lids T)[q]? = some (k + 1)) (hk : T1[k]? = some x) : Done T (kill T1 k x) (q + 1) := by
  refine ⟨by unfold kill; rw [List.length_set]; exact h.1, fun id => ?_⟩
  rw [lookT_kill hk, h.2 id, List.take_add_one, hid]
  by_cases e : id = k + 1
  · subst e
    rw [if_pos rfl, if_pos (by simp)]
  · rw [if_neg e]
    by_cases m : id ∈ (lids T).take q
    · rw [if_pos m, if_pos (by simp [m])]
    · rw [if_neg m, if_neg (by simp [m, e])]
theorem Done.end_ (h : Done T T1 (lids T).length) : (T1.filter (·.live)).length = 0 := by
  refine dead_live (fun id => ?_)
  rw [h.2 id, List.take_length]
  by_cases m : id ∈ lids T
  · rw [if_pos m]
  · rw [if_neg m]
    cases hx : lookT T id with
    | none => rfl
    | some x => exact absurd (mem_lids.2 (by rw [hx]; rfl)) m
/-- Of the copy. -/
def Left (T T2 : List Ms) (k : Nat) : Prop := T2.length = T.length ∧ (∀ id x, lookT T2 id = some x → lookT T id = some x) ∧ (T2.filter (·.live)).length + k = (T.filter (·.live)).length
theorem Left.step {k j : Nat} {x : Ms} (h : Left T T2 k) (hk : T2[j]? = some x) (hl : x.live = true) : Left T (kill T2 j x) (k + 1) := by
  refine ⟨by unfold kill; rw [List.length_set]; exact h.1, fun id y hy => ?_, ?_⟩
  · rw [lookT_kill hk] at hy
    split at hy
    · cases hy
    · exact h.2.1 id y hy
  · have h1 := filter_kill T2 j x ⟨x.f, x.t, x.bs, false⟩ hk hl rfl
    have h2 := h.2.2
    show ((T2.set j ⟨x.f, x.t, x.bs, false⟩).filter (·.live)).length + (k + 1) = _
    omega
theorem gv_send_bad (h : NetV W g mb r T j) (f t : Int) (A : Option Addr) (m c : Nat) (hbad : ¬ ((1 ≤ f ∧ f ≤ (r : Nat)) ∧ (1 ≤ t ∧ t ≤ (r : Nat)) ∧ f ≠ t)) :
    Calls Try.prog 15 #[.pointer (some ⟨g, 0, none⟩), .int .i64 f, .int .i64 t, .slice A m c] W fun e w' => e = .returned (.tuple #[.int .u64 0, .int .i64 1]) ∧ w' = W := by
  obtain ⟨lk, D, n, hB, _⟩ := h.ex
  exact send_bad W g mb r (T.length : Nat) lk f t A m c hB hbad
/-- The last Send. -/
def lastI (r n : Nat) : Int := if 2 ≤ r then ((n + 1 : Nat) : Int) else 0
def lastE (r : Nat) : Int := if 2 ≤ r then 0 else 1
def lastN (r : Nat) : Nat := if 2 ≤ r then 1 else 0
theorem gv_last (h : NetV W g mb r T j) (hi : j ≤ 4000) (hr4 : r ≤ 4) (hd : (T.filter (·.live)).length = 0) :
    Calls Try.prog 15 #[.pointer (some ⟨g, 0, none⟩), .int .i64 1, .int .i64 2, .slice none 0 0] W fun e w' => ∃ T' ai av, e = .returned (.tuple #[.int .u64 ai, .int .i64 av]) ∧ ai = lastI r T.length ∧ av = lastE r ∧ NetV w' g mb r T' (j + 1) ∧ (T'.filter (·.live)).length = lastN r ∧ Fr (Gm g mb) W w' := by
  unfold lastI lastE lastN
  by_cases h2 : 2 ≤ r
  · rw [if_pos h2, if_pos h2, if_pos h2]
    refine (gv_send h hi hr4 1 2 ⟨Nat.le_refl _, by omega⟩ ⟨by decide, h2⟩ (by decide) none 0 0 [] (Rd.none_ _ _) (by decide) (by rw [dead_way hd]; decide)).mono ?_
    rintro e w' ⟨rfl, h3, h4⟩
    refine ⟨_, _, _, rfl, rfl, rfl, h3, ?_, h4⟩
    rw [List.filter_append, List.length_append, hd]
    rfl
  · rw [if_neg h2, if_neg h2, if_neg h2]
    refine (gv_send_bad h 1 2 none 0 0 (by omega)).mono ?_
    rintro e w' ⟨rfl, rfl⟩
    exact ⟨T, _, _, rfl, rfl, rfl, h.up (by omega), hd, Fr.refl _ _⟩
end
theorem mask_i64 (x : Int) (M : Nat) (hM : M < 4294967296) : ∃ X : Nat, X ≤ M ∧ bits .and .i64 x (M : Int) = (X : Int) := by
  refine ⟨(BitVec.ofInt 64 x &&& BitVec.ofInt 64 (M : Int)).toNat, ?_, ?_⟩
  · rw [BitVec.toNat_and]
    refine Nat.le_trans Nat.and_le_right ?_
    rw [BitVec.ofInt_natCast, BitVec.toNat_ofNat]
    exact Nat.mod_le _ _
  · have h : (BitVec.ofInt 64 x &&& BitVec.ofInt 64 (M : Int)).toNat ≤ M := by
      rw [BitVec.toNat_and]
      refine Nat.le_trans Nat.and_le_right ?_
      rw [BitVec.ofInt_natCast, BitVec.toNat_ofNat]
      exact Nat.mod_le _ _
    show IntKind.i64.wrap ((BitVec.ofInt 64 x &&& BitVec.ofInt 64 (M : Int)).toNat : Int) = _
    exact wrapz _ (by omega) (by omega)
end Go.Proofs.Ytpgklhbbjbdejaa
