/-
  A VALUE IN MEMORY OF ITS OWN: no two of its blocks are one. No statement is proved here.
-/
import Derived.Test.YtnkfkicabgajmaaDoorMayC
namespace Go.Proofs.YtnkfkicabgajmaaDoor
set_option linter.unusedSimpArgs false
set_option linter.unusedVariables false
open Go Go.RowKit

/-- These cells read as this value; its blocks are F's, each once. -/
inductive OwnV (w : World) : (Nat → Prop) → Array Value → V → Prop
  | mk {F : Nat → Prop} {k n : Int} {t : List UInt8} {l : List V} {ks : List (List UInt8)} {Al : Option Addr} {cl : Nat} {Ak : Option Addr} {ck : Nat} (css : List (Array Value)) (Fs : Nat → Nat → Prop) : VB k n t l.length ks →
      w.ownsRow 0 9 1 (.slice Ak ks.length ck) ks.length (strs ks) → (∀ g, (Value.slice Ak ks.length ck).ownBlock = some g → F g) →
      w.ownsRow 0 25 5 (.slice Al l.length cl) l.length (flat css) → (∀ g, (Value.slice Al l.length cl).ownBlock = some g → F g) →
      css.length = l.length → (∀ C ∈ css, C.size = 5) →
      (∀ (i b : Nat), i < l.length → Fs i b → F b ∧ (Value.slice Ak ks.length ck).ownBlock ≠ some b ∧ (Value.slice Al l.length cl).ownBlock ≠ some b) →
      (∀ (i j b : Nat), i < l.length → j < l.length → Fs i b → Fs j b → i = j) →
      (∀ (i : Nat) (C : Array Value) (x : V), css[i]? = some C → l[i]? = some x → OwnV w (Fs i) C x) → OwnV w F (vcs k n t Al l.length cl Ak ks.length ck) (.mk k n t l ks)
/-- Its list. -/
structure OwnL (w : World) (F : Nat → Prop) (l : List V) (Al : Option Addr) (cl : Nat) (css : List (Array Value)) (Fs : Nat → Nat → Prop) : Prop where
  row : w.ownsRow 0 25 5 (.slice Al l.length cl) l.length (flat css)
  rf : ∀ g, (Value.slice Al l.length cl).ownBlock = some g → F g
  cn : css.length = l.length
  c5 : ∀ C ∈ css, C.size = 5
  fs : ∀ (i b : Nat), i < l.length → Fs i b → F b ∧ (Value.slice Al l.length cl).ownBlock ≠ some b
  ap : ∀ (i j b : Nat), i < l.length → j < l.length → Fs i b → Fs j b → i = j
  el : ∀ (i : Nat) (C : Array Value) (x : V), css[i]? = some C → l[i]? = some x → OwnV w (Fs i) C x
/-- Its keys. -/
structure OwnK (w : World) (F : Nat → Prop) (ks : List (List UInt8)) (Ak : Option Addr) (ck : Nat) : Prop where
  row : w.ownsRow 0 9 1 (.slice Ak ks.length ck) ks.length (strs ks)
  rf : ∀ g, (Value.slice Ak ks.length ck).ownBlock = some g → F g
section
variable {w w' : World} {F : Nat → Prop} {C : Array Value} {v : V}
theorem OwnV.inv (h : OwnV w F C v) : ∃ k n t l ks Al cl Ak ck css Fs, v = .mk k n t l ks ∧ C = vcs k n t Al l.length cl Ak ks.length ck ∧ VB k n t l.length ks ∧ OwnK w F ks Ak ck ∧ OwnL w F l Al cl css Fs ∧
    (∀ (i b : Nat), i < l.length → Fs i b → (Value.slice Ak ks.length ck).ownBlock ≠ some b) := by
  cases h with
  | mk css Fs a b c d e f g i j m => exact ⟨_, _, _, _, _, _, _, _, _, css, Fs, rfl, rfl, a, ⟨b, c⟩, ⟨d, e, f, g, fun q b h1 h2 => ⟨(i q b h1 h2).1, (i q b h1 h2).2.2⟩, j, m⟩, fun q b h1 h2 => (i q b h1 h2).2.1⟩
theorem OwnV.of {k n : Int} {t : List UInt8} {l : List V} {ks : List (List UInt8)} {Al Ak : Option Addr} {cl ck : Nat} {css : List (Array Value)} {Fs : Nat → Nat → Prop} (hb : VB k n t l.length ks) (hk : OwnK w F ks Ak ck) (hl : OwnL w F l Al cl css Fs)
    (ha : ∀ (i b : Nat), i < l.length → Fs i b → (Value.slice Ak ks.length ck).ownBlock ≠ some b) : OwnV w F (vcs k n t Al l.length cl Ak ks.length ck) (.mk k n t l ks) :=
  .mk css Fs hb hk.row hk.rf hl.row hl.rf hl.cn hl.c5 (fun i b h1 h2 => ⟨(hl.fs i b h1 h2).1, ha i b h1 h2, (hl.fs i b h1 h2).2⟩) hl.ap hl.el
theorem OwnV.fr {fp : Nat → Prop} (h : OwnV w F C v) (hf : Fr fp w w') (hd : ∀ b, F b → ¬ fp b) : OwnV w' F C v := by
  induction h with
  | mk css Fs a b c d e f g i j m ih =>
    exact .mk css Fs a (own_fr b hf (fun k hk => hd k (c k hk))) c (own_fr d hf (fun k hk => hd k (e k hk))) e f g i j (fun q C x h1 h2 => ih q C x h1 h2 (fun b hb => hd b (i q b (by
      have := (List.getElem?_eq_some_iff.1 h2).1
      exact this) hb).1))
theorem OwnV.far (h : OwnV w F C v) (hf : Fr (fun _ => False) w w') : OwnV w' F C v := h.fr hf (fun _ _ h => h)
theorem OwnV.mono {E : Nat → Prop} (h : OwnV w F C v) (hd : ∀ b, F b → E b) : OwnV w E C v := by
  cases h with
  | mk css Fs a b c d e f g i j m => exact .mk css Fs a b (fun g hg => hd g (c g hg)) d (fun g hg => hd g (e g hg)) f g (fun q b h1 h2 => ⟨hd b (i q b h1 h2).1, (i q b h1 h2).2⟩) j m
theorem own_rd5 {base : Nat} {e : TypeId} {A : Option Addr} {n c : Nat} {xs : List Value} (h : w.ownsRow base e 5 (.slice A n c) n xs) : Rd w A (n * 5) xs := by
  refine ⟨h.1, fun hn => ?_⟩
  obtain ⟨g, cap, hv, _, hlt⟩ := h.form (by omega)
  have hA : A = some ⟨g, 0, none⟩ := by injection hv
  subst hA
  exact ⟨_, rfl, h.cells (g := g) rfl⟩
theorem own_in {base : Nat} {e : TypeId} {sz : Nat} {A : Option Addr} {n c : Nat} {xs : List Value} (h : w.ownsRow base e sz (.slice A n c) n xs) {b : Nat} (hn : 0 < n) (hb : inA A b) : (Value.slice A n c).ownBlock = some b := by
  obtain ⟨g, cap, hv, _, hlt⟩ := h.form hn
  have hA : A = some ⟨g, 0, none⟩ := by injection hv
  subst hA
  obtain ⟨ad, e1, rfl⟩ := hb
  injection e1 with e1
  subst e1
  rfl
theorem own_cap {base : Nat} {e : TypeId} {sz : Nat} {A : Option Addr} {n c : Nat} {xs : List Value} (h : w.ownsRow base e sz (.slice A n c) n xs) : n ≤ c := by
  obtain ⟨A', c', e, h1, _⟩ := own_slice h
  injection e with _ _ e
  omega
theorem OwnV.rd (h : OwnV w F C v) : RdV F w C v := by
  induction h with
  | mk css Fs a b c d e f g i j m ih =>
    exact .mk css a (Rd.of_own b) (fun hn k hk => c k (own_in b hn hk)) (own_cap b) f g (own_rd5 d) (fun hn k hk => e k (own_in d hn hk)) (own_cap d)
      (fun q C x h1 h2 => (ih q C x h1 h2).mono (fun b hb => (i q b (by
        have := (List.getElem?_eq_some_iff.1 h2).1
        exact this) hb).1))
theorem OwnV.zero (F : Nat → Prop) (w : World) : OwnV w F (vcs 0 0 [] none 0 0 none 0 0) V.zero :=
  OwnV.of (l := []) (ks := []) (css := []) (Fs := fun _ _ => False) ⟨by decide, by decide, by decide, by decide, Nat.zero_le _, Nat.zero_le _, Nat.zero_le _, fun _ h => by cases h⟩
    ⟨World.ownsRow_nil w _ _ _, fun g h => by simp [Value.ownBlock] at h⟩
    ⟨World.ownsRow_nil w _ _ _, fun g h => by simp [Value.ownBlock] at h, rfl, fun _ h => by (cases h), fun i b h => by (simp at h), fun i j b h => by (simp at h), fun i C x h => by simp at h⟩ (fun i b h => by simp at h)
end
end Go.Proofs.YtnkfkicabgajmaaDoor
