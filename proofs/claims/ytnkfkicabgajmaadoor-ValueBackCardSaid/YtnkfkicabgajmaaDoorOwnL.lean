/-
  One element more, of its own. No statement is proved here.
-/
import Derived.Test.YtnkfkicabgajmaaDoorOwnV
namespace Go.Proofs.YtnkfkicabgajmaaDoor
set_option linter.unusedSimpArgs false
set_option linter.unusedVariables false
open Go Go.RowKit
theorem own_lt {w : World} {base : Nat} {e : TypeId} {sz n : Nat} {v : Value} {xs : List Value} (h : w.ownsRow base e sz v n xs) {g : Nat} (hg : v.ownBlock = some g) : g < w.heap.size := by
  rcases h.2 with ⟨rfl, _⟩ | ⟨g', cap, cur, rfl, _, hh, _⟩
  · simp [Value.ownBlock] at hg
  · have : g' = g := by simpa [Value.ownBlock] using hg
    subst this
    rcases Nat.lt_or_ge g' w.heap.size with h' | h'
    · exact h'
    · rw [Array.getElem?_eq_none h'] at hh; cases hh
theorem OwnL.snoc {wr W5 W6 W6' W7 : World} {lo : Nat} {m : List V} {x : V} {A A' : Option Addr} {c c' : Nat} {css : List (Array Value)} {C' : Array Value} {Fs : Nat → Nat → Prop}
    (h : OwnL wr (fun b => lo ≤ b ∧ b < wr.heap.size) m A c css Fs) (hlo : lo ≤ wr.heap.size) (f5 : Fr (fun _ => False) wr W5) (f6 : Fr (fun _ => False) W5 W6) (f6' : Fr (fun _ => False) W6 W6')
    (hx : OwnV W6 (fun b => W5.heap.size ≤ b ∧ b < W6.heap.size) C' x)
    (o7 : W7.ownsRow 0 25 5 (.slice A' (m.length + 1) c') (m.length + 1) (flat css ++ C'.toList)) (f7 : Fr (fun k => (Value.slice A m.length c).ownBlock = some k) W6' W7)
    (hn : (Value.slice A' (m.length + 1) c').ownBlock = (Value.slice A m.length c).ownBlock ∨ (Value.slice A' (m.length + 1) c').ownBlock = some W6'.heap.size) :
    ∃ Fs', OwnL W7 (fun b => lo ≤ b ∧ b < W7.heap.size) (m ++ [x]) A' c' (css ++ [C']) Fs' := by
  have s5 := f5.size
  have s6 := f6.size
  have s6' := f6'.size
  have s7 := f7.size
  have fr6' := f5.trans (f6.trans f6' (fun _ _ h => h)) (fun _ _ h => h)
  have hlen : (m ++ [x]).length = m.length + 1 := by simp
  have hcn := h.cn
  refine ⟨fun i => if i < m.length then Fs i else fun b => W5.heap.size ≤ b ∧ b < W6.heap.size, ?_, ?_, ?_, ?_, ?_, ?_, ?_⟩
  · rw [hlen, flat_append, flat_one]
    exact o7
  · rw [hlen]
    intro g hg
    have hlt := own_lt o7 hg
    refine ⟨?_, hlt⟩
    rcases hn with hn | hn
    · exact (h.rf g (hn ▸ hg)).1
    · rw [hn] at hg
      injection hg with hg
      omega
  · simp [hcn]
  · intro C hC
    rcases List.mem_append.1 hC with hC | hC
    · exact h.c5 C hC
    · rw [List.mem_singleton.1 hC]; exact hx.rd.size
  · rw [hlen]
    intro i b hi hb
    by_cases him : i < m.length
    · rw [if_pos him] at hb
      have h1 := h.fs i b him hb
      refine ⟨⟨h1.1.1, by have := h1.1.2; omega⟩, fun e => ?_⟩
      rcases hn with hn | hn
      · exact h1.2 (hn ▸ e)
      · rw [hn] at e
        injection e with e
        have := h1.1.2
        omega
    · rw [if_neg him] at hb
      refine ⟨⟨by omega, by omega⟩, fun e => ?_⟩
      rcases hn with hn | hn
      · have := own_lt h.row (hn ▸ e)
        omega
      · rw [hn] at e
        injection e with e
        omega
  · rw [hlen]
    intro i j b hi hj h1 h2
    by_cases him : i < m.length
    · rw [if_pos him] at h1
      by_cases hjm : j < m.length
      · rw [if_pos hjm] at h2
        exact h.ap i j b him hjm h1 h2
      · rw [if_neg hjm] at h2
        have := (h.fs i b him h1).1.2
        omega
    · rw [if_neg him] at h1
      by_cases hjm : j < m.length
      · rw [if_pos hjm] at h2
        have := (h.fs j b hjm h2).1.2
        omega
      · omega
  · intro i C y h1 h2
    by_cases him : i < m.length
    · rw [List.getElem?_append_left (by omega)] at h1
      rw [List.getElem?_append_left him] at h2
      simp only [him, if_true]
      exact ((h.el i C y h1 h2).far fr6').fr f7 (fun b hb => (h.fs i b him hb).2)
    · have hi : i = m.length := by
        have := (List.getElem?_eq_some_iff.1 h2).1
        rw [hlen] at this
        omega
      subst hi
      rw [List.getElem?_append_right (by omega)] at h1 h2
      rw [show m.length - css.length = 0 by omega] at h1
      simp at h1 h2
      subst h1 h2
      simp only [Nat.lt_irrefl, if_false]
      exact (hx.far f6').fr f7 (fun b hb e => by have := own_lt h.row e; omega)
theorem OwnL.nil (w : World) (F : Nat → Prop) : OwnL w F [] none 0 [] (fun _ _ => False) :=
  ⟨World.ownsRow_nil w _ _ _, fun g h => by simp [Value.ownBlock] at h, rfl, fun _ h => by (cases h), fun i b h => by (simp at h), fun i j b h => by (simp at h), fun i C x h => by simp at h⟩
theorem OwnL.mono {w : World} {F E : Nat → Prop} {l : List V} {A : Option Addr} {c : Nat} {css : List (Array Value)} {Fs : Nat → Nat → Prop} (h : OwnL w F l A c css Fs) (hd : ∀ b, F b → E b) : OwnL w E l A c css Fs :=
  ⟨h.row, fun g hg => hd g (h.rf g hg), h.cn, h.c5, fun i b h1 h2 => ⟨hd b (h.fs i b h1 h2).1, (h.fs i b h1 h2).2⟩, h.ap, h.el⟩
theorem OwnL.far {w w' : World} {F : Nat → Prop} {l : List V} {A : Option Addr} {c : Nat} {css : List (Array Value)} {Fs : Nat → Nat → Prop} (h : OwnL w F l A c css Fs) (hf : Fr (fun _ => False) w w') : OwnL w' F l A c css Fs :=
  ⟨own_fr h.row hf (fun _ _ h => h), h.rf, h.cn, h.c5, h.fs, h.ap, fun i C x h1 h2 => (h.el i C x h1 h2).far hf⟩
theorem OwnK.far {w w' : World} {F : Nat → Prop} {ks : List (List UInt8)} {A : Option Addr} {c : Nat} (h : OwnK w F ks A c) (hf : Fr (fun _ => False) w w') : OwnK w' F ks A c := ⟨own_fr h.row hf (fun _ _ h => h), h.rf⟩
end Go.Proofs.YtnkfkicabgajmaaDoor
