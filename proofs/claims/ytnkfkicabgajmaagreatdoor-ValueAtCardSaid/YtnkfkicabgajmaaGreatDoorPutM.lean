/-
  AN OBJECT OF THE CALL's OWN, ONE FIELD OF WHICH IS ANOTHER ONE: its keys' row, its elements' row, in a box; what becomes of it by Insert and by a store.
-/
import Derived.Test.YtnkfkicabgajmaaGreatDoorPutP
import Derived.Test.YtnkfkicabgajmaaGreatDoorInsS
import Derived.Test.YtnkfkicabgajmaaGreatDoorInsV
namespace Go.Proofs.YtnkfkicabgajmaaGreatDoor
set_option linter.unusedSimpArgs false
set_option linter.unusedVariables false
open Go Go.RowKit

theorem OwnV.lts {w : World} {F : Nat → Prop} {C : Array Value} {v : V} (h : OwnV w F C v) : OwnV w (fun b => F b ∧ b < w.heap.size) C v := by
  induction h with
  | mk css Fs a b c d e f g i j m ih =>
    exact .mk css (fun q b => Fs q b ∧ b < w.heap.size) a b (fun g hg => ⟨c g hg, own_lt b hg⟩) d (fun g hg => ⟨e g hg, own_lt d hg⟩) f g (fun q b h1 h2 => ⟨⟨(i q b h1 h2.1).1, h2.2⟩, (i q b h1 h2.1).2⟩) (fun q r b h1 h2 h3 h4 => j q r b h1 h2 h3.1 h4.1) (fun q C x h1 h2 => ih q C x h1 h2)
theorem own_ty {w : World} {b1 b2 : Nat} {t1 t2 : TypeId} {s1 s2 n1 n2 : Nat} {v1 v2 : Value} {x1 x2 : List Value} (h1 : w.ownsRow b1 t1 s1 v1 n1 x1) (h2 : w.ownsRow b2 t2 s2 v2 n2 x2) (ht : t1 ≠ t2) {g : Nat} (e1 : v1.ownBlock = some g) : v2.ownBlock ≠ some g := by
  intro e2
  rcases h1.2 with ⟨rfl, _⟩ | ⟨g1, c1, cur1, rfl, _, hh1, _⟩
  · simp [Value.ownBlock] at e1
  · rcases h2.2 with ⟨rfl, _⟩ | ⟨g2, c2, cur2, rfl, _, hh2, _⟩
    · simp [Value.ownBlock] at e2
    · have a1 : g1 = g := by simpa [Value.ownBlock] using e1
      have a2 : g2 = g := by simpa [Value.ownBlock] using e2
      subst a1
      subst a2
      rw [hh1] at hh2
      injection hh2 with hh2
      injection hh2 with _ hh2
      exact ht hh2
theorem ty_ne : (9 : Nat) ≠ 25 := by decide
/-- Which blocks are the object's. -/
def Fp (lo g : Nat) (W : World) (b : Nat) : Prop := lo ≤ b ∧ b ≠ g ∧ b < W.heap.size
theorem Fp.grow {lo g : Nat} {W W' : World} (h : W.heap.size ≤ W'.heap.size) : ∀ b, Fp lo g W b → Fp lo g W' b := fun b hb => ⟨hb.1, hb.2.1, Nat.lt_of_lt_of_le hb.2.2 h⟩
structure PSt (lo g : Nat) (W : World) (k n : Int) (t : List UInt8) (l : List V) (ks : List (List UInt8)) (A : Option Addr) (c : Nat) (K : Option Addr) (kc : Nat) (css : List (Array Value)) (Fs : Nat → Nat → Prop) : Prop where
  hk : OwnK W (Fp lo g W) ks K kc
  hl : OwnL W (Fp lo g W) l A c css Fs
  ap : ∀ (i b : Nat), i < l.length → Fs i b → (Value.slice K ks.length kc).ownBlock ≠ some b
  box : Blk W g 25 (vcs k n t A l.length c K ks.length kc)
  ml : ∀ s ∈ ks, s.length ≤ 140737488355328
section
variable {lo g : Nat} {W W' : World} {k n : Int} {t : List UInt8} {l : List V} {ks : List (List UInt8)} {A K : Option Addr} {c kc : Nat} {css : List (Array Value)} {Fs : Nat → Nat → Prop}
theorem PSt.far (h : PSt lo g W k n t l ks A c K kc css Fs) (hf : Fr (fun _ => False) W W') : PSt lo g W' k n t l ks A c K kc css Fs :=
  ⟨⟨own_fr h.hk.row hf (fun _ _ h => h), fun q hq => Fp.grow hf.size q (h.hk.rf q hq)⟩, (h.hl.far hf).mono (Fp.grow hf.size), h.ap, keepB h.box hf, h.ml⟩
/-- Another block turned. -/
theorem PSt.fr {fp : Nat → Prop} (h : PSt lo g W k n t l ks A c K kc css Fs) (hf : Fr fp W W') (hn : ∀ b, Fp lo g W b → ¬ fp b) (hg : ¬ fp g) : PSt lo g W' k n t l ks A c K kc css Fs :=
  ⟨⟨own_fr h.hk.row hf (fun q hq => hn q (h.hk.rf q hq)), fun q hq => Fp.grow hf.size q (h.hk.rf q hq)⟩,
    OwnL.mono ⟨own_fr h.hl.row hf (fun q hq => hn q (h.hl.rf q hq)), h.hl.rf, h.hl.cn, h.hl.c5, h.hl.fs, h.hl.ap, fun i C x h1 h2 => (h.hl.el i C x h1 h2).fr hf (fun b hb => hn b (h.hl.fs i b (List.getElem?_eq_some_iff.1 h2).1 hb).1)⟩ (Fp.grow hf.size), h.ap, h.box.fr hf hg, h.ml⟩
theorem PSt.own (h : PSt lo g W k n t l ks A c K kc css Fs) (k0 : -9223372036854775808 ≤ k) (k1 : k ≤ 9223372036854775807) (n0 : -9223372036854775808 ≤ n) (n1 : n ≤ 9223372036854775807) (tl : t.length ≤ 140737488355328) (ll : l.length ≤ 140737488355328) (kl : ks.length ≤ 140737488355328) :
    OwnV W (Fp lo g W) (vcs k n t A l.length c K ks.length kc) (.mk k n t l ks) := OwnV.of ⟨k0, k1, n0, n1, tl, ll, kl, h.ml⟩ h.hk h.hl h.ap
/-- Its keys' row has become another one; the box says so. W: ahead; W': behind Insert; W2: behind the store. -/
theorem PSt.keys {W2 : World} {ks' : List (List UInt8)} {K' : Option Addr} {kc' : Nat} (h : PSt lo g W k n t l ks A c K kc css Fs) (hlo : lo ≤ W.heap.size) (hgw : g < W.heap.size)
    (o : W'.ownsRow 0 9 1 (.slice K' ks'.length kc') ks'.length (strs ks')) (f : Fr (fun q => (Value.slice K ks.length kc).ownBlock = some q) W W')
    (hn : (Value.slice K' ks'.length kc').ownBlock = (Value.slice K ks.length kc).ownBlock ∨ (Value.slice K' ks'.length kc').ownBlock = some W.heap.size)
    (hm : ∀ s ∈ ks', s.length ≤ 140737488355328) (b2 : Blk W2 g 25 (vcs k n t A l.length c K' ks'.length kc')) (f2 : Fr (fun q => q = g) W' W2) :
    PSt lo g W2 k n t l ks' A c K' kc' css Fs := by
  have s1 := f.size
  have s2 := f2.size
  have hnew : ∀ q, (Value.slice K' ks'.length kc').ownBlock = some q → Fp lo g W2 q := fun q hq => by
    rcases hn with e | e
    · have := h.hk.rf q (e ▸ hq)
      exact Fp.grow (by omega) q this
    · rw [e] at hq
      injection hq with hq
      subst hq
      refine ⟨hlo, by omega, ?_⟩
      have := own_lt o e
      omega
  have hng : ∀ q, (Value.slice K' ks'.length kc').ownBlock = some q → ¬ q = g := fun q hq => (hnew q hq).2.1
  have hrow : ∀ q, (Value.slice A l.length c).ownBlock = some q → ¬ (Value.slice K ks.length kc).ownBlock = some q := fun q hq => own_ty h.hl.row h.hk.row (fun e => ty_ne e.symm) hq
  refine ⟨⟨own_fr o f2 hng, hnew⟩, OwnL.mono (F := Fp lo g W) ⟨own_fr (own_fr h.hl.row f hrow) f2 (fun q hq => (h.hl.rf q hq).2.1), h.hl.rf, h.hl.cn, h.hl.c5, h.hl.fs, h.hl.ap, fun i C x h1 h2 => ?_⟩ (Fp.grow (by omega)), fun i b hi hb he => ?_, b2, hm⟩
  · have hi : i < l.length := (List.getElem?_eq_some_iff.1 h2).1
    exact ((h.hl.el i C x h1 h2).fr f (fun b hb => h.ap i b hi hb)).fr f2 (fun b hb => (h.hl.fs i b hi hb).1.2.1)
  · rcases hn with e | e
    · exact h.ap i b hi hb (e ▸ he)
    · rw [e] at he
      injection he with he
      have := (h.hl.fs i b hi hb).1.2.2
      omega
theorem getElem?_ins {α : Type} (l : List α) (x : α) (p i : Nat) (hp : p ≤ l.length) : (l.take p ++ x :: l.drop p)[i]? = if i < p then l[i]? else if i = p then some x else l[i - 1]? := by
  by_cases h1 : i < p
  · rw [if_pos h1, List.getElem?_append_left (by simp; omega), List.getElem?_take, if_pos h1]
  · rw [if_neg h1, List.getElem?_append_right (by simp; omega), List.length_take, Nat.min_eq_left hp]
    by_cases h2 : i = p
    · subst h2; simp
    · rw [if_neg h2, show i - p = (i - 1 - p) + 1 by omega, List.getElem?_cons_succ, List.getElem?_drop, show p + (i - 1 - p) = i - 1 by omega]
/-- An element was put in between. -/
theorem PSt.ins {W2 : World} {A' : Option Addr} {c' p G0 : Nat} {C' : Array Value} {x : V} (h : PSt lo g W k n t l ks A c K kc css Fs) (hlo : lo ≤ W.heap.size) (hgw : g < W.heap.size) (hp : p ≤ l.length)
    (hx : OwnV W (fun b => G0 ≤ b ∧ b < W.heap.size) C' x) (hG : ∀ b, Fp lo g W b → (∃ i, i < l.length ∧ Fs i b) ∨ (Value.slice A l.length c).ownBlock = some b ∨ (Value.slice K ks.length kc).ownBlock = some b → b < G0) (hG2 : g < G0) (hG3 : lo ≤ G0)
    (o : W'.ownsRow 0 25 5 (.slice A' (l.length + 1) c') (l.length + 1) ((flat css).take (p * 5) ++ C'.toList ++ (flat css).drop (p * 5))) (f : Fr (fun q => (Value.slice A l.length c).ownBlock = some q) W W')
    (hn : (Value.slice A' (l.length + 1) c').ownBlock = (Value.slice A l.length c).ownBlock ∨ (Value.slice A' (l.length + 1) c').ownBlock = some W.heap.size)
    (b2 : Blk W2 g 25 (vcs k n t A' (l.length + 1) c' K ks.length kc)) (f2 : Fr (fun q => q = g) W' W2) :
    ∃ Fs', PSt lo g W2 k n t (l.take p ++ x :: l.drop p) ks A' c' K kc (css.take p ++ C' :: css.drop p) Fs' := by
  have s1 := f.size
  have s2 := f2.size
  have hcn := h.hl.cn
  have hlen : (l.take p ++ x :: l.drop p).length = l.length + 1 := by simp; omega
  have hfl : flat (css.take p ++ C' :: css.drop p) = (flat css).take (p * 5) ++ C'.toList ++ (flat css).drop (p * 5) := by
    have e1 : flat css = flat (css.take p) ++ flat (css.drop p) := by rw [← flat_append, List.take_append_drop]
    have e2 : (flat (css.take p)).length = p * 5 := by
      rw [flat_len _ (fun C hC => h.hl.c5 C (List.mem_of_mem_take hC)), List.length_take]
      omega
    rw [flat_append, show C' :: css.drop p = [C'] ++ css.drop p from rfl, flat_append, flat_one, e1, List.take_left' e2, List.drop_left' e2, List.append_assoc]
  have hown : ∀ q, (Value.slice A' (l.length + 1) c').ownBlock = some q → Fp lo g W2 q ∧ (∀ b, (G0 ≤ b ∧ b < W.heap.size) → q ≠ b) := fun q hq => by
    rcases hn with e | e
    · have h1 := h.hl.rf q (e ▸ hq)
      have h2 := hG q h1 (.inr (.inl (e ▸ hq)))
      exact ⟨Fp.grow (by omega) q h1, fun b hb => by omega⟩
    · rw [e] at hq
      injection hq with hq
      subst hq
      have := own_lt o e
      exact ⟨⟨hlo, by omega, by omega⟩, fun b hb => by omega⟩
  have hold : ∀ i b, i < l.length → Fs i b → (Value.slice A' (l.length + 1) c').ownBlock ≠ some b := fun i b hi hb he => by
    rcases hn with e | e
    · exact (h.hl.fs i b hi hb).2 (e ▸ he)
    · rw [e] at he
      injection he with he
      have := (h.hl.fs i b hi hb).1.2.2
      omega
  refine ⟨fun i b => if i < p then Fs i b else if i = p then G0 ≤ b ∧ b < W.heap.size else Fs (i - 1) b, ⟨own_fr (own_fr h.hk.row f (fun q hq e => own_ty h.hk.row h.hl.row ty_ne hq e)) f2 (fun q hq => (h.hk.rf q hq).2.1), fun q hq => Fp.grow (by omega) q (h.hk.rf q hq)⟩, ⟨?_, ?_, ?_, ?_, ?_, ?_, ?_⟩, ?_, ?_, h.ml⟩
  · rw [hlen, hfl]
    exact own_fr o f2 (fun q hq => (hown q hq).1.2.1)
  · rw [hlen]
    exact fun q hq => (hown q hq).1
  · simp [hcn]
  · intro C hC
    rcases List.mem_append.1 hC with hC | hC
    · exact h.hl.c5 C (List.mem_of_mem_take hC)
    · rcases List.mem_cons.1 hC with rfl | hC
      · exact hx.rd.size
      · exact h.hl.c5 C (List.mem_of_mem_drop hC)
  · intro i b hi hb
    rw [hlen] at hi ⊢
    try dsimp only at hb
    split at hb
    · exact ⟨Fp.grow (by omega) b (h.hl.fs i b (by omega) hb).1, hold i b (by omega) hb⟩
    · split at hb
      · exact ⟨⟨by omega, by omega, by omega⟩, fun e => (hown b e).2 b hb rfl⟩
      · exact ⟨Fp.grow (by omega) b (h.hl.fs (i - 1) b (by omega) hb).1, hold (i - 1) b (by omega) hb⟩
  · intro i j b hi hj hb hb'
    rw [hlen] at hi hj
    try dsimp only at hb hb'
    have key : ∀ q, q < l.length → Fs q b → ¬ (G0 ≤ b ∧ b < W.heap.size) := fun q hq hqb hb => by
      have := hG b (h.hl.fs q b hq hqb).1 (.inl ⟨q, hq, hqb⟩)
      omega
    split at hb
    · split at hb'
      · exact h.hl.ap i j b (by omega) (by omega) hb hb'
      · split at hb'
        · exact absurd hb' (key i (by omega) hb)
        · have := h.hl.ap i (j - 1) b (by omega) (by omega) hb hb'
          omega
    · split at hb
      · split at hb'
        · exact absurd hb (key j (by omega) hb')
        · split at hb'
          · omega
          · exact absurd hb (key (j - 1) (by omega) hb')
      · split at hb'
        · have := h.hl.ap (i - 1) j b (by omega) (by omega) hb hb'
          omega
        · split at hb'
          · exact absurd hb' (key (i - 1) (by omega) hb)
          · have := h.hl.ap (i - 1) (j - 1) b (by omega) (by omega) hb hb'
            omega
  · intro i C y h1 h2
    rw [getElem?_ins css C' p i (by omega)] at h1
    rw [getElem?_ins l x p i hp] at h2
    try dsimp only
    by_cases a : i < p
    · rw [if_pos a] at h1 h2
      refine OwnV.mono (F := Fs i) ?_ (fun b hb => by simp only [if_pos a]; exact hb)
      exact ((h.hl.el i C y h1 h2).fr f (fun b hb e => (h.hl.fs i b (by omega) hb).2 e)).fr f2 (fun b hb => (h.hl.fs i b (by omega) hb).1.2.1)
    · rw [if_neg a] at h1 h2
      by_cases a2 : i = p
      · rw [if_pos a2] at h1 h2
        refine OwnV.mono (F := fun b => G0 ≤ b ∧ b < W.heap.size) ?_ (fun b hb => by simp only [if_neg a, if_pos a2]; exact hb)
        injection h1 with h1
        injection h2 with h2
        subst h1 h2
        refine (hx.fr f (fun b hb e => ?_)).fr f2 (fun b hb => by omega)
        have h3 := h.hl.rf b e
        have := hG b h3 (.inr (.inl e))
        omega
      · rw [if_neg a2] at h1 h2
        refine OwnV.mono (F := Fs (i - 1)) ?_ (fun b hb => by simp only [if_neg a, if_neg a2]; exact hb)
        have hi : i - 1 < l.length := (List.getElem?_eq_some_iff.1 h2).1
        exact ((h.hl.el (i - 1) C y h1 h2).fr f (fun b hb e => (h.hl.fs (i - 1) b hi hb).2 e)).fr f2 (fun b hb => (h.hl.fs (i - 1) b hi hb).1.2.1)
  · intro i b hi hb
    rw [hlen] at hi
    try dsimp only at hb
    split at hb
    · exact h.ap i b (by omega) hb
    · split at hb
      · intro e
        have h3 := h.hk.rf b e
        have := hG b h3 (.inr (.inr e))
        omega
      · exact h.ap (i - 1) b (by omega) hb
  · rw [hlen]
    exact b2
/-- .. where the object is known from a world ahead of the element's making. -/
theorem PSt.ins0 {W0 W2 : World} {A' : Option Addr} {c' p : Nat} {C' : Array Value} {x : V} (h0 : PSt lo g W0 k n t l ks A c K kc css Fs) (f0 : Fr (fun _ => False) W0 W) (hlo : lo ≤ W0.heap.size) (hp : p ≤ l.length)
    (hx : OwnV W (fun b => W0.heap.size ≤ b ∧ b < W.heap.size) C' x)
    (o : W'.ownsRow 0 25 5 (.slice A' (l.length + 1) c') (l.length + 1) ((flat css).take (p * 5) ++ C'.toList ++ (flat css).drop (p * 5))) (f : Fr (fun q => (Value.slice A l.length c).ownBlock = some q) W W')
    (hn : (Value.slice A' (l.length + 1) c').ownBlock = (Value.slice A l.length c).ownBlock ∨ (Value.slice A' (l.length + 1) c').ownBlock = some W.heap.size)
    (b2 : Blk W2 g 25 (vcs k n t A' (l.length + 1) c' K ks.length kc)) (f2 : Fr (fun q => q = g) W' W2) :
    ∃ Fs', PSt lo g W2 k n t (l.take p ++ x :: l.drop p) ks A' c' K kc (css.take p ++ C' :: css.drop p) Fs' := by
  have s0 := f0.size
  have hg := h0.box.lt
  refine (h0.far f0).ins (by omega) (by omega) hp hx (fun b hb hh => ?_) hg hlo o f hn b2 f2
  rcases hh with ⟨i, hi, hb⟩ | hb | hb
  · exact (h0.hl.fs i b hi hb).1.2.2
  · exact (h0.hl.rf b hb).2.2
  · exact (h0.hk.rf b hb).2.2
theorem flat_set : ∀ (css : List (Array Value)) (p : Nat) (C : Array Value), (∀ X ∈ css, X.size = 5) → C.size = 5 → p < css.length → flat (css.set p C) = (flat css).take (p * 5) ++ C.toList ++ (flat css).drop (p * 5 + C.toList.length)
  | X :: css, 0, C, h, hc, _ => by
    have h5 := h X List.mem_cons_self
    rw [List.set_cons_zero, flat, flat, List.flatMap_cons, List.flatMap_cons, Nat.zero_mul, Nat.zero_add, List.take_zero, List.nil_append, Array.length_toList, hc, List.drop_left' (by rw [Array.length_toList, h5])]
  | X :: css, p + 1, C, h, hc, hp => by
    have h5 := h X List.mem_cons_self
    have ih := flat_set css p C (fun Y hY => h Y (List.mem_cons_of_mem _ hY)) hc (by simpa using hp)
    rw [List.set_cons_succ, show flat (X :: css.set p C) = X.toList ++ flat (css.set p C) from rfl, ih, show flat (X :: css) = X.toList ++ flat css from rfl]
    have hx : X.toList.length = 5 := by rw [Array.length_toList, h5]
    rw [show (p + 1) * 5 = X.toList.length + p * 5 by omega, List.take_length_add_append, show X.toList.length + p * 5 + C.toList.length = X.toList.length + (p * 5 + C.toList.length) by omega, List.drop_length_add_append]
    simp only [List.append_assoc]
  | [], _, _, _, _, hp => by simp at hp
/-- An element has become another one, in place. -/
theorem PSt.set0 {W0 : World} {p : Nat} {C' : Array Value} {x : V} (h0 : PSt lo g W0 k n t l ks A c K kc css Fs) (f0 : Fr (fun _ => False) W0 W) (hlo : lo ≤ W0.heap.size) (hp : p < l.length)
    (hx : OwnV W (fun b => W0.heap.size ≤ b ∧ b < W.heap.size) C' x)
    (o : W'.ownsRow 0 25 5 (.slice A l.length c) l.length (flat (css.set p C'))) (f : Fr (fun q => (Value.slice A l.length c).ownBlock = some q) W W') :
    ∃ Fs', PSt lo g W' k n t (l.set p x) ks A c K kc (css.set p C') Fs' := by
  have s0 := f0.size
  have s1 := f.size
  have hg := h0.box.lt
  have h := h0.far f0
  have hcn := h.hl.cn
  have hlen : (l.set p x).length = l.length := by simp
  have key : ∀ q b, q < l.length → Fs q b → ¬ (W0.heap.size ≤ b ∧ b < W.heap.size) := fun q b hq hqb hb => by
    have := (h0.hl.fs q b hq hqb).1.2.2
    omega
  refine ⟨fun i b => if i = p then W0.heap.size ≤ b ∧ b < W.heap.size else Fs i b, ⟨own_fr h.hk.row f (fun q hq e => own_ty h.hk.row h.hl.row ty_ne hq e), fun q hq => Fp.grow (by omega) q (h.hk.rf q hq)⟩, ⟨?_, ?_, ?_, ?_, ?_, ?_, ?_⟩, ?_, ?_, h.ml⟩
  · rw [hlen]; exact o
  · rw [hlen]
    exact fun q hq => Fp.grow (by omega) q (h.hl.rf q hq)
  · simp [hcn]
  · intro C hC
    rcases List.mem_or_eq_of_mem_set hC with hC | rfl
    · exact h.hl.c5 C hC
    · exact hx.rd.size
  · intro i b hi hb
    rw [hlen] at hi ⊢
    try dsimp only at hb
    split at hb
    · refine ⟨⟨by omega, by omega, by omega⟩, fun e => ?_⟩
      have := (h0.hl.rf b e).2.2
      omega
    · exact ⟨Fp.grow (by omega) b (h.hl.fs i b hi hb).1, (h.hl.fs i b hi hb).2⟩
  · intro i j b hi hj hb hb'
    rw [hlen] at hi hj
    try dsimp only at hb hb'
    split at hb
    · split at hb'
      · omega
      · exact absurd hb (key j b hj hb')
    · split at hb'
      · exact absurd hb' (key i b hi hb)
      · exact h.hl.ap i j b hi hj hb hb'
  · intro i C y h1 h2
    try dsimp only
    by_cases a : i = p
    · subst a
      rw [List.getElem?_set, if_pos rfl, if_pos (by omega)] at h1 h2
      injection h1 with h1
      injection h2 with h2
      subst h1 h2
      refine OwnV.mono (F := fun b => W0.heap.size ≤ b ∧ b < W.heap.size) ?_ (fun b hb => by simp only [if_true]; exact hb)
      refine hx.fr f (fun b hb e => ?_)
      have := (h0.hl.rf b e).2.2
      omega
    · rw [List.getElem?_set, if_neg (fun e => a e.symm)] at h1 h2
      refine OwnV.mono (F := Fs i) ?_ (fun b hb => by simp only [if_neg a]; exact hb)
      have hi : i < l.length := (List.getElem?_eq_some_iff.1 h2).1
      exact (h.hl.el i C y h1 h2).fr f (fun b hb e => (h.hl.fs i b hi hb).2 e)
  · intro i b hi hb
    rw [hlen] at hi
    try dsimp only at hb
    split at hb
    · intro e
      have := (h0.hk.rf b e).2.2
      omega
    · exact h.ap i b hi hb
  · rw [hlen]
    refine h.box.fr f (fun e => ?_)
    exact (h.hl.rf g e).2.1 rfl
end
end Go.Proofs.YtnkfkicabgajmaaGreatDoor
