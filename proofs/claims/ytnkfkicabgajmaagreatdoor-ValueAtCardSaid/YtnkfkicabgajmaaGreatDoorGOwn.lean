/-
  OwnV, OwnL, Own, in one text (merge.py).
-/
import Derived.Test.YtnkfkicabgajmaaGreatDoorGMay

/-
  A VALUE IN MEMORY OF ITS OWN: no two of its blocks are one. No statement is proved here.
-/
namespace Go.Proofs.YtnkfkicabgajmaaGreatDoor
set_option linter.unusedSimpArgs false
set_option linter.unusedVariables false
open Go Go.RowKit

/-- These cells read as this value; its blocks are F's, each once. -/
inductive OwnV (w : World) : (Nat → Prop) → Array Value → V → Prop
  | mk {F : Nat → Prop} {k n : Int} {t : List UInt8} {l : List V} {ks : List (List UInt8)} {Al : Option Addr} {cl : Nat} {Ak : Option Addr} {ck : Nat} (css : List (Array Value)) (Fs : Nat → Nat → Prop) : VB k n t l.length ks →
      w.ownsRow 0 9 1 (.slice Ak ks.length ck) ks.length (strs ks) → (∀ g, (Value.slice Ak ks.length ck).ownBlock = some g → F g) →
      w.ownsRow 0 25 5 (.slice Al l.length cl) l.length (flat css) → (∀ g, (Value.slice Al l.length cl).ownBlock = some g → F g) →
      css.length = l.length → (∀ C ∈ css, C.size = 5) →
      (∀ (i b : Nat), i < l.length → Fs i b → F b ∧ (Value.slice Ak ks.length ck).ownBlock ≠ some b ∧ (Value.slice Al l.length cl).ownBlock ≠ some b) →
      (∀ (i j b : Nat), i < l.length → j < l.length → Fs i b → Fs j b → i = j) →
      (∀ (i : Nat) (C : Array Value) (x : V), css[i]? = some C → l[i]? = some x → OwnV w (Fs i) C x) → OwnV w F (vcs k n t Al l.length cl Ak ks.length ck) (.mk k n t l ks)
/-- Its list. -/
structure OwnL (w : World) (F : Nat → Prop) (l : List V) (Al : Option Addr) (cl : Nat) (css : List (Array Value)) (Fs : Nat → Nat → Prop) : Prop where
  row : w.ownsRow 0 25 5 (.slice Al l.length cl) l.length (flat css)
  rf : ∀ g, (Value.slice Al l.length cl).ownBlock = some g → F g
  cn : css.length = l.length
  c5 : ∀ C ∈ css, C.size = 5
  fs : ∀ (i b : Nat), i < l.length → Fs i b → F b ∧ (Value.slice Al l.length cl).ownBlock ≠ some b
  ap : ∀ (i j b : Nat), i < l.length → j < l.length → Fs i b → Fs j b → i = j
  el : ∀ (i : Nat) (C : Array Value) (x : V), css[i]? = some C → l[i]? = some x → OwnV w (Fs i) C x
/-- Its keys. -/
structure OwnK (w : World) (F : Nat → Prop) (ks : List (List UInt8)) (Ak : Option Addr) (ck : Nat) : Prop where
  row : w.ownsRow 0 9 1 (.slice Ak ks.length ck) ks.length (strs ks)
  rf : ∀ g, (Value.slice Ak ks.length ck).ownBlock = some g → F g
section
variable {w w' : World} {F : Nat → Prop} {C : Array Value} {v : V}
theorem OwnV.inv (h : OwnV w F C v) : ∃ k n t l ks Al cl Ak ck css Fs, v = .mk k n t l ks ∧ C = vcs k n t Al l.length cl Ak ks.length ck ∧ VB k n t l.length ks ∧ OwnK w F ks Ak ck ∧ OwnL w F l Al cl css Fs ∧
    (∀ (i b : Nat), i < l.length → Fs i b → (Value.slice Ak ks.length ck).ownBlock ≠ some b) := by
  cases h with
  | mk css Fs a b c d e f g i j m => exact ⟨_, _, _, _, _, _, _, _, _, css, Fs, rfl, rfl, a, ⟨b, c⟩, ⟨d, e, f, g, fun q b h1 h2 => ⟨(i q b h1 h2).1, (i q b h1 h2).2.2⟩, j, m⟩, fun q b h1 h2 => (i q b h1 h2).2.1⟩
theorem OwnV.of {k n : Int} {t : List UInt8} {l : List V} {ks : List (List UInt8)} {Al Ak : Option Addr} {cl ck : Nat} {css : List (Array Value)} {Fs : Nat → Nat → Prop} (hb : VB k n t l.length ks) (hk : OwnK w F ks Ak ck) (hl : OwnL w F l Al cl css Fs)
    (ha : ∀ (i b : Nat), i < l.length → Fs i b → (Value.slice Ak ks.length ck).ownBlock ≠ some b) : OwnV w F (vcs k n t Al l.length cl Ak ks.length ck) (.mk k n t l ks) :=
  .mk css Fs hb hk.row hk.rf hl.row hl.rf hl.cn hl.c5 (fun i b h1 h2 => ⟨(hl.fs i b h1 h2).1, ha i b h1 h2, (hl.fs i b h1 h2).2⟩) hl.ap hl.el
theorem OwnV.fr {fp : Nat → Prop} (h : OwnV w F C v) (hf : Fr fp w w') (hd : ∀ b, F b → ¬ fp b) : OwnV w' F C v := by
  induction h with
  | mk css Fs a b c d e f g i j m ih =>
    exact .mk css Fs a (own_fr b hf (fun k hk => hd k (c k hk))) c (own_fr d hf (fun k hk => hd k (e k hk))) e f g i j (fun q C x h1 h2 => ih q C x h1 h2 (fun b hb => hd b (i q b (by
      have := (List.getElem?_eq_some_iff.1 h2).1
      exact this) hb).1))
theorem OwnV.far (h : OwnV w F C v) (hf : Fr (fun _ => False) w w') : OwnV w' F C v := h.fr hf (fun _ _ h => h)
theorem OwnV.mono {E : Nat → Prop} (h : OwnV w F C v) (hd : ∀ b, F b → E b) : OwnV w E C v := by
  cases h with
  | mk css Fs a b c d e f g i j m => exact .mk css Fs a b (fun g hg => hd g (c g hg)) d (fun g hg => hd g (e g hg)) f g (fun q b h1 h2 => ⟨hd b (i q b h1 h2).1, (i q b h1 h2).2⟩) j m
theorem own_rd5 {base : Nat} {e : TypeId} {A : Option Addr} {n c : Nat} {xs : List Value} (h : w.ownsRow base e 5 (.slice A n c) n xs) : Rd w A (n * 5) xs := by
  refine ⟨h.1, fun hn => ?_⟩
  obtain ⟨g, cap, hv, _, hlt⟩ := h.form (by omega)
  have hA : A = some ⟨g, 0, none⟩ := by injection hv
  subst hA
  exact ⟨_, rfl, h.cells (g := g) rfl⟩
theorem own_in {base : Nat} {e : TypeId} {sz : Nat} {A : Option Addr} {n c : Nat} {xs : List Value} (h : w.ownsRow base e sz (.slice A n c) n xs) {b : Nat} (hn : 0 < n) (hb : inA A b) : (Value.slice A n c).ownBlock = some b := by
  obtain ⟨g, cap, hv, _, hlt⟩ := h.form hn
  have hA : A = some ⟨g, 0, none⟩ := by injection hv
  subst hA
  obtain ⟨ad, e1, rfl⟩ := hb
  injection e1 with e1
  subst e1
  rfl
theorem own_cap {base : Nat} {e : TypeId} {sz : Nat} {A : Option Addr} {n c : Nat} {xs : List Value} (h : w.ownsRow base e sz (.slice A n c) n xs) : n ≤ c := by
  obtain ⟨A', c', e, h1, _⟩ := own_slice h
  injection e with _ _ e
  omega
theorem OwnV.rd (h : OwnV w F C v) : RdV F w C v := by
  induction h with
  | mk css Fs a b c d e f g i j m ih =>
    exact .mk css a (Rd.of_own b) (fun hn k hk => c k (own_in b hn hk)) (own_cap b) f g (own_rd5 d) (fun hn k hk => e k (own_in d hn hk)) (own_cap d)
      (fun q C x h1 h2 => (ih q C x h1 h2).mono (fun b hb => (i q b (by
        have := (List.getElem?_eq_some_iff.1 h2).1
        exact this) hb).1))
theorem OwnV.zero (F : Nat → Prop) (w : World) : OwnV w F (vcs 0 0 [] none 0 0 none 0 0) V.zero :=
  OwnV.of (l := []) (ks := []) (css := []) (Fs := fun _ _ => False) ⟨by decide, by decide, by decide, by decide, Nat.zero_le _, Nat.zero_le _, Nat.zero_le _, fun _ h => by cases h⟩
    ⟨World.ownsRow_nil w _ _ _, fun g h => by simp [Value.ownBlock] at h⟩
    ⟨World.ownsRow_nil w _ _ _, fun g h => by simp [Value.ownBlock] at h, rfl, fun _ h => by (cases h), fun i b h => by (simp at h), fun i j b h => by (simp at h), fun i C x h => by simp at h⟩ (fun i b h => by simp at h)
end
end Go.Proofs.YtnkfkicabgajmaaGreatDoor

/-
  One element more, of its own. No statement is proved here.
-/
namespace Go.Proofs.YtnkfkicabgajmaaGreatDoor
set_option linter.unusedSimpArgs false
set_option linter.unusedVariables false
open Go Go.RowKit
theorem own_lt {w : World} {base : Nat} {e : TypeId} {sz n : Nat} {v : Value} {xs : List Value} (h : w.ownsRow base e sz v n xs) {g : Nat} (hg : v.ownBlock = some g) : g < w.heap.size := by
  rcases h.2 with ⟨rfl, _⟩ | ⟨g', cap, cur, rfl, _, hh, _⟩
  · simp [Value.ownBlock] at hg
  · have : g' = g := by simpa [Value.ownBlock] using hg
    subst this
    rcases Nat.lt_or_ge g' w.heap.size with h' | h'
    · exact h'
    · rw [Array.getElem?_eq_none h'] at hh; cases hh
theorem OwnL.snoc {wr W5 W6 W6' W7 : World} {lo : Nat} {m : List V} {x : V} {A A' : Option Addr} {c c' : Nat} {css : List (Array Value)} {C' : Array Value} {Fs : Nat → Nat → Prop}
    (h : OwnL wr (fun b => lo ≤ b ∧ b < wr.heap.size) m A c css Fs) (hlo : lo ≤ wr.heap.size) (f5 : Fr (fun _ => False) wr W5) (f6 : Fr (fun _ => False) W5 W6) (f6' : Fr (fun _ => False) W6 W6')
    (hx : OwnV W6 (fun b => W5.heap.size ≤ b ∧ b < W6.heap.size) C' x)
    (o7 : W7.ownsRow 0 25 5 (.slice A' (m.length + 1) c') (m.length + 1) (flat css ++ C'.toList)) (f7 : Fr (fun k => (Value.slice A m.length c).ownBlock = some k) W6' W7)
    (hn : (Value.slice A' (m.length + 1) c').ownBlock = (Value.slice A m.length c).ownBlock ∨ (Value.slice A' (m.length + 1) c').ownBlock = some W6'.heap.size) :
    ∃ Fs', OwnL W7 (fun b => lo ≤ b ∧ b < W7.heap.size) (m ++ [x]) A' c' (css ++ [C']) Fs' := by
  have s5 := f5.size
  have s6 := f6.size
  have s6' := f6'.size
  have s7 := f7.size
  have fr6' := f5.trans (f6.trans f6' (fun _ _ h => h)) (fun _ _ h => h)
  have hlen : (m ++ [x]).length = m.length + 1 := by simp
  have hcn := h.cn
  refine ⟨fun i => if i < m.length then Fs i else fun b => W5.heap.size ≤ b ∧ b < W6.heap.size, ?_, ?_, ?_, ?_, ?_, ?_, ?_⟩
  · rw [hlen, flat_append, flat_one]
    exact o7
  · rw [hlen]
    intro g hg
    have hlt := own_lt o7 hg
    refine ⟨?_, hlt⟩
    rcases hn with hn | hn
    · exact (h.rf g (hn ▸ hg)).1
    · rw [hn] at hg
      injection hg with hg
      omega
  · simp [hcn]
  · intro C hC
    rcases List.mem_append.1 hC with hC | hC
    · exact h.c5 C hC
    · rw [List.mem_singleton.1 hC]; exact hx.rd.size
  · rw [hlen]
    intro i b hi hb
    by_cases him : i < m.length
    · rw [if_pos him] at hb
      have h1 := h.fs i b him hb
      refine ⟨⟨h1.1.1, by have := h1.1.2; omega⟩, fun e => ?_⟩
      rcases hn with hn | hn
      · exact h1.2 (hn ▸ e)
      · rw [hn] at e
        injection e with e
        have := h1.1.2
        omega
    · rw [if_neg him] at hb
      refine ⟨⟨by omega, by omega⟩, fun e => ?_⟩
      rcases hn with hn | hn
      · have := own_lt h.row (hn ▸ e)
        omega
      · rw [hn] at e
        injection e with e
        omega
  · rw [hlen]
    intro i j b hi hj h1 h2
    by_cases him : i < m.length
    · rw [if_pos him] at h1
      by_cases hjm : j < m.length
      · rw [if_pos hjm] at h2
        exact h.ap i j b him hjm h1 h2
      · rw [if_neg hjm] at h2
        have := (h.fs i b him h1).1.2
        omega
    · rw [if_neg him] at h1
      by_cases hjm : j < m.length
      · rw [if_pos hjm] at h2
        have := (h.fs j b hjm h2).1.2
        omega
      · omega
  · intro i C y h1 h2
    by_cases him : i < m.length
    · rw [List.getElem?_append_left (by omega)] at h1
      rw [List.getElem?_append_left him] at h2
      simp only [him, if_true]
      exact ((h.el i C y h1 h2).far fr6').fr f7 (fun b hb => (h.fs i b him hb).2)
    · have hi : i = m.length := by
        have := (List.getElem?_eq_some_iff.1 h2).1
        rw [hlen] at this
        omega
      subst hi
      rw [List.getElem?_append_right (by omega)] at h1 h2
      rw [show m.length - css.length = 0 by omega] at h1
      simp at h1 h2
      subst h1 h2
      simp only [Nat.lt_irrefl, if_false]
      exact (hx.far f6').fr f7 (fun b hb e => by have := own_lt h.row e; omega)
theorem OwnL.nil (w : World) (F : Nat → Prop) : OwnL w F [] none 0 [] (fun _ _ => False) :=
  ⟨World.ownsRow_nil w _ _ _, fun g h => by simp [Value.ownBlock] at h, rfl, fun _ h => by (cases h), fun i b h => by (simp at h), fun i j b h => by (simp at h), fun i C x h => by simp at h⟩
theorem OwnL.mono {w : World} {F E : Nat → Prop} {l : List V} {A : Option Addr} {c : Nat} {css : List (Array Value)} {Fs : Nat → Nat → Prop} (h : OwnL w F l A c css Fs) (hd : ∀ b, F b → E b) : OwnL w E l A c css Fs :=
  ⟨h.row, fun g hg => hd g (h.rf g hg), h.cn, h.c5, fun i b h1 h2 => ⟨hd b (h.fs i b h1 h2).1, (h.fs i b h1 h2).2⟩, h.ap, h.el⟩
theorem OwnL.far {w w' : World} {F : Nat → Prop} {l : List V} {A : Option Addr} {c : Nat} {css : List (Array Value)} {Fs : Nat → Nat → Prop} (h : OwnL w F l A c css Fs) (hf : Fr (fun _ => False) w w') : OwnL w' F l A c css Fs :=
  ⟨own_fr h.row hf (fun _ _ h => h), h.rf, h.cn, h.c5, h.fs, h.ap, fun i C x h1 h2 => (h.el i C x h1 h2).far hf⟩
theorem OwnK.far {w w' : World} {F : Nat → Prop} {ks : List (List UInt8)} {A : Option Addr} {c : Nat} (h : OwnK w F ks A c) (hf : Fr (fun _ => False) w w') : OwnK w' F ks A c := ⟨own_fr h.row hf (fun _ _ h => h), h.rf⟩
end Go.Proofs.YtnkfkicabgajmaaGreatDoor

/-
  CONTRACTS of value.ownAll, Own.
-/
namespace Go.Proofs.YtnkfkicabgajmaaGreatDoor
set_option linter.unusedSimpArgs false
set_option linter.unusedVariables false
open Go Go.RowKit
theorem v_info : (Tryz.prog.info? 25).map (fun i => (i.zero, i.size, i.bytes)) = some (some (.agg #[.int .i64 0, .int .i64 0, .string ⟨#[]⟩, .slice none 0 0, .slice none 0 0]), 5, 80) := by kernel_rfl
theorem Src.one {w : World} {g : Nat} {C : Array Value} (hb : w.rangeAt g 0 C.toList) (h5 : C.size = 5) (h1 : ∀ u ∈ C.toList, u.oneCell' = true) : Src Tryz.prog 5 22 (.slice (some ⟨g, 0, none⟩) 1 1) 1 C.toList w :=
  Src.ofSlice w Tryz.underlying22 ⟨g, 0, none⟩ 1 1 C.toList (by rw [Array.length_toList, h5]) (fun j u hu => by
    rw [Addr.add_lit]
    exact hb j u hu) h1
abbrev OwnIH (D : Nat → Prop) (l : List V) : Prop := ∀ (x : V), x ∈ l → ∀ (W : World) (C : Array Value), RdV D W C x → Calls Tryz.prog 29 #[.agg C] W fun e w' => ∃ C', e = .returned (.agg C') ∧ OwnV w' (fun b => W.heap.size ≤ b ∧ b < w'.heap.size) C' x ∧ Fr (fun _ => False) W w'
def OwnAllQ (l : List V) (w : World) (e : Ending) (w' : World) : Prop := ∃ A c css Fs, e = .returned (.slice A l.length c) ∧ OwnL w' (fun b => w.heap.size ≤ b ∧ b < w'.heap.size) l A c css Fs ∧ Fr (fun _ => False) w w'
set_option maxRecDepth 100000 in
set_option maxHeartbeats 2000000 in
theorem ownAll_c (w : World) {D : Nat → Prop} {k n : Int} {t : List UInt8} {l : List V} {ks : List (List UInt8)} {Al Ak : Option Addr} {cl ck : Nat} {css : List (Array Value)}
    (hp : VP D w k n t l ks Al cl Ak ck css) (ih : OwnIH D l) (hl : l.length ≤ 1000000) : Calls Tryz.prog 38 #[.slice Al l.length cl] w (OwnAllQ l w) := by
  obtain ⟨i0, hi0, hz0', hz1', hz2'⟩ := info_parts v_info
  have HI0 := Lib.hid hi0
  have HP := Lib.hid hp
  have IH := Lib.hid ih
  clear hp ih hi0
  go_enter Tryz.func38, Tryz.ntmps38
  go_wp2_with fail
  go_loopw [3, 8] (fun ov iv wr => ∃ (m : List V) (A : Option Addr) (c : Nat) (cs2 : List (Array Value)) (Fs : Nat → Nat → Prop), m.length ≤ l.length ∧ iv = .int .i64 (m.length : Int) ∧ ov = .slice A m.length c ∧ Hid (m = l.take m.length) ∧ Hid (OwnL wr (fun b => w.heap.size ≤ b ∧ b < wr.heap.size) m A c cs2 Fs) ∧ Hid (Fr (fun _ => False) w wr)) (fun _ iv _ => l.length - (intOf iv).toNat)
  case atStart => exact ⟨[], none, 0, [], fun _ _ => False, Nat.zero_le _, rfl, rfl, rfl, OwnL.nil _ _, Fr.refl _ _⟩
  case round =>
    obtain ⟨m, A, c, cs2, Fs, hm, rfl, rfl, hmt, ho, hf⟩ := hrel
    obtain ⟨i, hi⟩ : ∃ i, m.length = i := ⟨_, rfl⟩
    have HMI := Lib.hid hi
    rw [hi] at hm hmt ⊢
    clear hi
    by_cases hlt : i < l.length
    case neg =>
      obtain rfl : i = l.length := by omega
      have hdl : decide ((l.length : Int) < (l.length : Int)) = false := decide_eq_false (by omega)
      have hdl' : decide (l.length < l.length) = false := decide_eq_false (by omega)
      have hml : m = l := by rw [hmt.out, List.take_length]
      have HML := Lib.hid hml
      clear hml
      go_wp2_with fail
      go_ret
      exact ⟨A, c, cs2, Fs, rfl, HML.out ▸ ho.out, hf.out⟩
    have hdl : decide ((i : Int) < (l.length : Int)) = true := decide_eq_true (by omega)
    have hdl' : decide (i < l.length) = true := decide_eq_true hlt
    obtain ⟨b, off, C, hA, hci, hrv, hrg, h5⟩ := (HP.out.far hf.out).at_ hlt
    subst hA
    have HRV := Lib.hid hrv
    have HG := Lib.hid hrg
    have HSC := Lib.hid (szV hrv)
    have HO := Lib.hid (oneV hrv)
    have H5 := Lib.hid h5
    clear hci hrv hrg h5
    go_upto_region 5 with (first
      | (refine wpList_load_val rfl 25 _ rfl b _ rfl C HG.out _ Tryz.underlying25 rfl HSC.out ?_)
      | (refine wpList_store_blk rfl 25 _ _ rfl wr.heap.size C rfl rfl (Blk.new wr 25 _) H5.out HSC.out HO.out ?_
         intro W5 q5 f5
         have F5 := Lib.hid (((Fr.refl (fun _ => False) wr).alloc _).trans f5 (fun i hi h => by have : i = wr.heap.size := h; omega))
         have Q5 := Lib.hid (blk_all q5)
         clear q5 f5))
    have CALL := Lib.hid (IH.out l[i] (List.getElem_mem hlt) W5 C (HRV.out.far F5.out))
    obtain ⟨g5, hg5⟩ : ∃ g5, wr.heap.size = g5 := ⟨_, rfl⟩
    have HG5 := Lib.hid hg5
    rw [hg5] at Q5 ⊢
    clear hg5
    go_upto_region 5 with fail
    go_wp2_with (refine wpList_load_val rfl 25 _ rfl g5 _ rfl C Q5.out _ Tryz.underlying25 rfl HSC.out ?_)
    refine CALL.out.mono ?_
    rintro e W6 ⟨C', rfl, o6, f6⟩
    obtain ⟨k6, n6, t6, l6, ks6, A6, c6, B6, d6, cs6, Fs6, e6, rfl, -⟩ := o6.inv
    have O6 := Lib.hid o6
    have F6 := Lib.hid f6
    have N1 := Lib.hid o6.rd.one
    have OR := Lib.hid ho.out.row
    have E6 := Lib.hid e6
    clear o6 f6 CALL e6
    have h16 : i + 1 ≤ 1000000 := by omega
    have OR2 : Hid (W6.ownsRow 0 25 5 (.slice A i c) i (flat cs2)) := by
      refine Lib.hid ?_
      have := own_fr OR.out (F5.out.trans F6.out (fun _ _ h => h)) (fun _ _ h => h)
      rw [HMI.out] at this
      exact this
    clear OR
    go_wp2_with (
      at_builtin
      refine wpList_app rfl (.tmp 12) (.tmp 15) _ _ rfl 0 25 i0 _ 5 80 Tryz.underlying22 HI0.out hz0' hz1' hz2' rfl _ i (flat cs2) rfl (own_fr OR2.out ((Fr.refl (fun _ => False) W6).alloc _) (fun _ _ h => h)) _ 1 _ rfl (Src.one (Blk.rng (Blk.new W6 25 (vcs k6 n6 t6 A6 l6.length c6 B6 ks6.length d6))) rfl N1.out) (by omega) (by unfold maxLen; omega) (Nat.zero_le _) ?_
      intro v7 W7 o7 f7 hn7
      obtain ⟨A7, c7, rfl, -, -⟩ := own_slice o7
      have O7 := Lib.hid o7
      have F7 := Lib.hid f7
      have N7 := Lib.hid hn7
      clear o7 f7 hn7)
    go_roundw
    case rel =>
      have hi := HMI.out
      have o7 := O7.out
      have f7 := F7.out
      have n7 := N7.out
      subst hi
      obtain ⟨Fs', h'⟩ := OwnL.snoc (x := l[m.length]) ho.out hf.out.size F5.out F6.out ((Fr.refl (fun _ => False) W6).alloc _) O6.out o7 f7 n7
      have hlen : (m ++ [l[m.length]]).length = m.length + 1 := by simp
      have hfr : Fr (fun _ => False) w W7 := (hf.out.trans (F5.out.trans (F6.out.trans ((Fr.refl (fun _ => False) W6).alloc _) (fun _ _ h => h)) (fun _ _ h => h)) (fun _ _ h => h)).trans f7 (fun i hi he => by
        have := (ho.out.rf i he).1
        omega)
      refine ⟨m ++ [l[m.length]], A7, c7, _, Fs', by rw [hlen]; omega, ?_, by rw [hlen], ?_, h', hfr⟩
      · rw [hlen]; go_num
      · refine Lib.hid ?_
        rw [hlen, List.take_succ_eq_append_getElem hlt]
        congr 1
    case measure => simp [intOf]; omega
def OwnQ (v : V) (w : World) (e : Ending) (w' : World) : Prop := ∃ C', e = .returned (.agg C') ∧ OwnV w' (fun b => w.heap.size ≤ b ∧ b < w'.heap.size) C' v ∧ Fr (fun _ => False) w w'
set_option maxRecDepth 100000 in
set_option maxHeartbeats 2000000 in
theorem own_step (w : World) {D : Nat → Prop} {k n : Int} {t : List UInt8} {l : List V} {ks : List (List UInt8)} {Al Ak : Option Addr} {cl ck : Nat} {css : List (Array Value)}
    (hp : VP D w k n t l ks Al cl Ak ck css) (ih : OwnIH D l) (hl : l.length ≤ 1000000) (hk : ks.length ≤ 1000000) : Calls Tryz.prog 29 #[.agg (vcs k n t Al l.length cl Ak ks.length ck)] w (OwnQ (.mk k n t l ks) w) := by
  have HB := Lib.hid hp.b
  have CLO := Lib.hid (fun W (hW : Fr (fun _ => False) w W) => cloneS_c W ck (hp.far hW).kr (by omega))
  have ALL := Lib.hid (fun W (hW : Fr (fun _ => False) w W) => ownAll_c W (hp.far hW) ih hl)
  clear hp ih
  go_enter Tryz.func29, Tryz.ntmps29
  go_upto_region 1 with fail
  refine abs_world (fun W => Hid (Blk W w.heap.size 25 (vcs k n t Al l.length cl Ak ks.length ck)) ∧ Hid (Blk W (w.heap.size + 1) 25 (vcs 0 0 [] none 0 0 none 0 0)) ∧ Hid (Fr (fun _ => False) w W)) ⟨(Blk.new w _ _).alloc _, Blk.new1 w _ _ _, ((Fr.refl _ w).alloc _).alloc _⟩ ?_
  rintro W1 ⟨B1, B2, F1⟩
  have s1 := B2.out.lt
  generalize hg : w.heap.size = g at *
  have c4 : W1.cell? ⟨g, 4, none⟩ = some (.slice Ak ks.length ck) := B1.out.cell 4
  go_wp2_with fail
  refine (CLO.out W1 F1.out).mono ?_
  rintro e W2 ⟨v2, rfl, o2, f2⟩
  obtain ⟨A2, d2, rfl, h22, -⟩ := own_slice o2
  have O2 := Lib.hid o2
  have X1 := Lib.hid (keepB B1.out f2)
  have X2 := Lib.hid (keepB B2.out f2)
  have F2 := Lib.hid (F1.out.trans f2 (fun _ _ h => h))
  have s2 := Lib.hid f2.size
  clear o2 f2 c4 B1 B2
  have c4 : W2.cell? ⟨g, 4, none⟩ = some (.slice Ak ks.length ck) := X1.out.cell 4
  have z4 : W2.frozen? ⟨g, 4, none⟩ = false := X1.out.frozen 4
  go_upto_region 2 with fail
  refine abs_world (fun W => Hid (Blk W g 25 (vcs k n t Al l.length cl A2 ks.length d2)) ∧ Hid (Blk W (g + 1) 25 (vcs 0 0 [] none 0 0 none 0 0)) ∧ Hid (Fr (fun q => q = g) W2 W)) ⟨X1.out.set_ 4 _, X2.out.far (by show g + 1 ≠ g; omega) _, (Fr.refl (fun q => q = g) W2).setCell (p := ⟨g, 4, none⟩) (fun _ => rfl) _⟩ ?_
  clear c4 z4 X1 X2
  rintro W3 ⟨B1, B2, F3⟩
  have O3 := Lib.hid (own_fr O2.out F3.out (fun q hq he => by
    have h1 := (O2.out.lt q hq).1
    have h2 : q = g := he
    omega))
  have FW3 : Hid (Fr (fun _ => False) w W3) := F2.out.trans F3.out (fun i hi he => by have : i = g := he; omega)
  have s3 := Lib.hid F3.out.size
  have LK := Lib.hid (fun q (hq : (Value.slice A2 ks.length d2).ownBlock = some q) => (O2.out.lt q hq).2)
  clear O2 F2 F3
  have c3 : W3.cell? ⟨g, 3, none⟩ = some (.slice Al l.length cl) := B1.out.cell 3
  go_wp2_with fail
  refine (ALL.out W3 FW3.out).mono ?_
  rintro e W4 ⟨A4, d4, css4, Fs4, rfl, o4, f4⟩
  have O4 := Lib.hid o4
  have h44 := own_cap o4.row
  have K4 := Lib.hid (own_fr O3.out f4 (fun _ _ h => h))
  have X1 := Lib.hid (keepB B1.out f4)
  have X2 := Lib.hid (keepB B2.out f4)
  have F4 := Lib.hid (FW3.out.trans f4 (fun _ _ h => h))
  have s4 := Lib.hid f4.size
  clear o4 f4 c3 B1 B2 O3 FW3
  have c3 : W4.cell? ⟨g, 3, none⟩ = some (.slice Al l.length cl) := X1.out.cell 3
  have z3 : W4.frozen? ⟨g, 3, none⟩ = false := X1.out.frozen 3
  go_upto_region 3 with fail
  refine abs_world (fun W => Hid (Blk W g 25 (vcs k n t A4 l.length d4 A2 ks.length d2)) ∧ Hid (Blk W (g + 1) 25 (vcs 0 0 [] none 0 0 none 0 0)) ∧ Hid (Fr (fun q => q = g) W4 W)) ⟨X1.out.set_ 3 _, X2.out.far (by show g + 1 ≠ g; omega) _, (Fr.refl (fun q => q = g) W4).setCell (p := ⟨g, 3, none⟩) (fun _ => rfl) _⟩ ?_
  clear c3 z3 X1 X2
  rintro W5 ⟨B1, B2, F5⟩
  have BA := Lib.hid (blk_all B1.out)
  have S1 := Lib.hid (show (Tryz.prog.info? 25).map (·.size) = some (vcs k n t A4 l.length d4 A2 ks.length d2).size from lw5)
  have HO1 := Lib.hid (show (vcs k n t A4 l.length d4 A2 ks.length d2).all (·.oneCell') = true by simp [vcs, Value.oneCell'])
  go_wp2_with (first
    | (refine wpList_load_val rfl 25 _ rfl g _ rfl _ BA.out _ Tryz.underlying25 rfl S1.out ?_)
    | (refine wpList_store_blk rfl 25 _ _ rfl (g + 1) (vcs k n t A4 l.length d4 A2 ks.length d2) rfl rfl B2.out rfl S1.out HO1.out ?_
       intro W6 q6 f6
       have F6 := Lib.hid f6
       have Q6 := Lib.hid q6
       clear q6 f6))
  have hres := results_one (P := Tryz.prog) (fn := Tryz.f29) (p := 2) (ty := 25) Tryz.results29
  refine bodyPost_ret (v := .agg (vcs k n t A4 l.length d4 A2 ks.length d2)) (hres _ W6 (g + 1) 25 _ _ rfl Q6.out Tryz.underlying25 rfl S1.out) rfl ?_
  have FF : Fr (fun q => q = g ∨ q = g + 1) W4 W6 := (F5.out.mono (fun _ _ h => Or.inl h)).trans (F6.out.mono (fun _ _ h => Or.inr h)) (fun _ _ h => h)
  have q2 := s2.out
  have q3 := s3.out
  have q4 := s4.out
  have q6 := FF.size
  have gW1 : g + 1 < W1.heap.size := s1
  refine ⟨_, rfl, OwnV.of HB.out ⟨own_base (own_fr K4.out FF (fun q hq he => ?_)) (fun _ _ => Nat.zero_le _), fun q hq => ?_⟩ (css := css4) (Fs := Fs4) ⟨own_fr O4.out.row FF (fun q hq he => ?_), fun q hq => ?_, O4.out.cn, O4.out.c5, fun i b hi hb => ?_, O4.out.ap, fun i C x h1 h2 => ?_⟩ (fun i b hi hb he => ?_), ?_⟩
  · have := (K4.out.lt q hq).1
    omega
  · have := K4.out.lt q hq
    omega
  · have := (O4.out.rf q hq).1
    omega
  · have := O4.out.rf q hq
    omega
  · have h1 := O4.out.fs i b hi hb
    refine ⟨?_, h1.2⟩
    have := h1.1
    omega
  · have hi : i < l.length := (List.getElem?_eq_some_iff.1 h2).1
    refine (O4.out.el i C x h1 h2).fr FF (fun b hb he => ?_)
    have := (O4.out.fs i b hi hb).1
    omega
  · have h1 := (O4.out.fs i b hi hb).1
    have := LK.out b he
    omega
  · exact F4.out.trans FF (fun i hi he => by omega)
def OwnC : Prop := ∀ (v : V) (w : World) (D : Nat → Prop) (C : Array Value), RdV D w C v → Sm v → Calls Tryz.prog 29 #[.agg C] w (OwnQ v w)
theorem own_c : OwnC := by
  intro v
  induction v using V.ind with
  | h k n t l ks ih =>
    intro w D C h hs
    obtain ⟨k1, n1, t1, l1, ks1, Al, cl, Ak, ck, css, e, rfl, hp⟩ := h.inv
    injection e with e1 e2 e3 e4 e5
    subst e1 e2 e3 e4 e5
    exact own_step w hp (fun x hx W C hC => ih x hx W D C hC (hs.inv.el x hx)) hs.inv.ll hs.inv.kl
end Go.Proofs.YtnkfkicabgajmaaGreatDoor
