/-
  HOW A VALUE LIES IN MEMORY, over whatever program: five cells; its lists and keys behind slices; all blocks that it leads to are D's. No statement is proved here.
-/
import Derived.Test.YtnkfkicabgajmaaDoorStp
import Derived.Test.YtnkfkicabgajmaaDoorValQ
import Derived.Deep.OwnRows
import Derived.Deep.QuietTactic
import Derived.BigQuiet
import Derived.IntWalk
import Derived.Deep.CutRange
import Derived.Outline
import Derived.StillTailTactics
import Derived.Deep.RegionHeld3
namespace Go.Proofs.YtnkfkicabgajmaaDoor
set_option linter.unusedSimpArgs false
set_option linter.unusedVariables false
open Go Go.RowKit

def strOf (l : List UInt8) : ByteArray := ⟨l.toArray⟩
theorem strOf_toList (l : List UInt8) : (strOf l).toList = l := by simp [strOf]
theorem strOf_of (s : ByteArray) : strOf s.data.toList = s := by
  cases s
  simp [strOf]
theorem strOf_inj {l m : List UInt8} (h : strOf l = strOf m) : l = m := by rw [← strOf_toList l, h, strOf_toList]
/-- The order of texts. -/
def kl (a b : List UInt8) : Bool := Op.bytesLess a b
theorem kl_irr : ∀ a, kl a a = false
  | [] => rfl
  | a :: l => by
    have := kl_irr l
    simp only [kl, Op.bytesLess] at this ⊢
    simp [this]
theorem kl_trans : ∀ a b c, kl a b = true → kl b c = true → kl a c = true
  | _, _, [], _, h => by cases ‹List UInt8› <;> simp [kl, Op.bytesLess] at h
  | _, [], _ :: _, h, _ => by cases ‹List UInt8› <;> simp [kl, Op.bytesLess] at h
  | [], _ :: _, _ :: _, _, _ => rfl
  | a :: x, b :: y, c :: z, h1, h2 => by
    have ih := kl_trans x y z
    simp only [kl, Op.bytesLess, Bool.or_eq_true, Bool.and_eq_true, decide_eq_true_eq, beq_iff_eq] at h1 h2 ih ⊢
    rcases h1 with h1 | ⟨rfl, h1⟩
    · rcases h2 with h2 | ⟨rfl, h2⟩
      · exact .inl (UInt8.lt_trans h1 h2)
      · exact .inl h1
    · rcases h2 with h2 | ⟨rfl, h2⟩
      · exact .inl h2
      · exact .inr ⟨rfl, ih h1 h2⟩
theorem kl_tot : ∀ a b, kl a b = false → kl b a = false → a = b
  | [], [], _, _ => rfl
  | [], _ :: _, h, _ => by simp [kl, Op.bytesLess] at h
  | _ :: _, [], _, h => by simp [kl, Op.bytesLess] at h
  | a :: x, b :: y, h1, h2 => by
    have ih := kl_tot x y
    simp only [kl, Op.bytesLess, Bool.or_eq_false_iff, Bool.and_eq_false_iff, decide_eq_false_iff_not] at h1 h2 ih
    have e : a = b := UInt8.le_antisymm (UInt8.not_lt.1 h2.1) (UInt8.not_lt.1 h1.1)
    subst e
    rcases h1.2 with h | h
    · simp at h
    · rcases h2.2 with h' | h'
      · simp at h'
      · rw [ih h h']
theorem kl_asym {a b : List UInt8} (h : kl a b = true) : kl b a = false := by
  cases hb : kl b a with
  | false => rfl
  | true => have := kl_trans a b a h hb; rw [kl_irr] at this; cases this
theorem kl_ne {a b : List UInt8} (h : kl a b = true) : a ≠ b := fun e => by rw [e, kl_irr] at h; cases h
/-- a is not behind b. -/
theorem kl_le_trans {a b c : List UInt8} (h1 : kl b a = false) (h2 : kl c b = false) : kl c a = false := by
  cases h : kl c a with
  | false => rfl
  | true =>
    cases hab : kl a b with
    | true => have := kl_trans c a b h hab; rw [h2] at this; cases this
    | false =>
      have := kl_tot a b hab h1
      subst this
      rw [h2] at h
      cases h
def cmpK (a b : List UInt8) : Int := if kl a b then -1 else if a = b then 0 else 1


theorem strOf_size (l : List UInt8) : (strOf l).size = l.length := by simp [strOf, ByteArray.size]
theorem strOf_data (l : List UInt8) : (strOf l).data.toList = l := rfl
theorem kl_cmpT : ∀ a b, kl a b = decide (cmpT a b < 0)
  | [], [] => rfl
  | [], _ :: _ => rfl
  | _ :: _, [] => rfl
  | a :: l, b :: m => by
    have ih := kl_cmpT l m
    rw [cmpT]
    simp only [kl, Op.bytesLess] at ih ⊢
    rw [ih]
    rcases u8_tri a b with ⟨h1, h2, h3⟩ | ⟨h1, h2, h3⟩ | ⟨rfl, h1, -⟩
    · simp [h1]
    · simp [h1, h2, h3]
    · simp [h1]

abbrev vcs (k n : Int) (t : List UInt8) (Al : Option Addr) (nl cl : Nat) (Ak : Option Addr) (nk ck : Nat) : Array Value :=
  #[.int .i64 k, .int .i64 n, .string (strOf t), .slice Al nl cl, .slice Ak nk ck]
def strs (ks : List (List UInt8)) : List Value := ks.map fun s => .string (strOf s)
theorem strs_len (ks : List (List UInt8)) : (strs ks).length = ks.length := by simp [strs]
theorem strs_get (ks : List (List UInt8)) (i : Nat) (h : i < ks.length) : (strs ks)[i]? = some (.string (strOf ks[i])) := by simp [strs, h]
theorem strs_one (ks : List (List UInt8)) : ∀ u ∈ strs ks, u.oneCell' = true := by
  intro u hu
  obtain ⟨_, _, rfl⟩ := List.mem_map.1 hu
  rfl
theorem strs_append (a b : List (List UInt8)) : strs (a ++ b) = strs a ++ strs b := by simp [strs]
def flat (css : List (Array Value)) : List Value := css.flatMap Array.toList
theorem flat_append (a b : List (Array Value)) : flat (a ++ b) = flat a ++ flat b := by simp [flat]
theorem flat_one (C : Array Value) : flat [C] = C.toList := by simp [flat]
theorem flat_get : ∀ (css : List (Array Value)) (hc : ∀ C ∈ css, C.size = 5) (i : Nat) (C : Array Value), css[i]? = some C → ∀ j, j < 5 → (flat css)[i * 5 + j]? = C[j]?
  | [], _, i, C, h, _, _ => by simp at h
  | A :: css, hc, 0, C, h, j, hj => by
    have e : A = C := by simpa using h
    subst e
    have := hc A List.mem_cons_self
    rw [flat, List.flatMap_cons, Nat.zero_mul, Nat.zero_add, List.getElem?_append_left (by rw [Array.length_toList]; omega)]
    simp
  | A :: css, hc, i + 1, C, h, j, hj => by
    have h5 := hc A List.mem_cons_self
    rw [flat, List.flatMap_cons, List.getElem?_append_right (by rw [Array.length_toList, h5, Nat.add_mul]; omega), Array.length_toList, h5, show (i + 1) * 5 + j - 5 = i * 5 + j by rw [Nat.add_mul]; omega]
    exact flat_get css (fun C hC => hc C (List.mem_cons_of_mem _ hC)) i C (by simpa using h) j hj
theorem flat_len : ∀ (css : List (Array Value)), (∀ C ∈ css, C.size = 5) → (flat css).length = css.length * 5
  | [], _ => rfl
  | A :: css, h => by
    rw [flat, List.flatMap_cons, List.length_append, Array.length_toList, h A List.mem_cons_self, List.length_cons, Nat.add_mul]
    have := flat_len css (fun C hC => h C (List.mem_cons_of_mem _ hC))
    unfold flat at this
    omega

/-- What a value's own numbers and lengths are. -/
structure VB (k n : Int) (t : List UInt8) (nl : Nat) (ks : List (List UInt8)) : Prop where
  k0 : -9223372036854775808 ≤ k
  k1 : k ≤ 9223372036854775807
  n0 : -9223372036854775808 ≤ n
  n1 : n ≤ 9223372036854775807
  tl : t.length ≤ 140737488355328
  ll : nl ≤ 140737488355328
  kl : ks.length ≤ 140737488355328
  ks : ∀ s ∈ ks, s.length ≤ 140737488355328
/-- These cells read as this value; what it leads to lies in D. -/
inductive RdV (D : Nat → Prop) (w : World) : Array Value → V → Prop
  | mk {k n : Int} {t : List UInt8} {l : List V} {ks : List (List UInt8)} {Al : Option Addr} {cl : Nat} {Ak : Option Addr} {ck : Nat} (css : List (Array Value)) : VB k n t l.length ks →
      Rd w Ak ks.length (strs ks) → (0 < ks.length → ∀ b, inA Ak b → D b) → ks.length ≤ ck →
      css.length = l.length → (∀ C ∈ css, C.size = 5) → Rd w Al (l.length * 5) (flat css) → (0 < l.length → ∀ b, inA Al b → D b) → l.length ≤ cl →
      (∀ (i : Nat) (C : Array Value) (x : V), css[i]? = some C → l[i]? = some x → RdV D w C x) → RdV D w (vcs k n t Al l.length cl Ak ks.length ck) (.mk k n t l ks)
/-- Its parts. -/
structure VP (D : Nat → Prop) (w : World) (k n : Int) (t : List UInt8) (l : List V) (ks : List (List UInt8)) (Al : Option Addr) (cl : Nat) (Ak : Option Addr) (ck : Nat) (css : List (Array Value)) : Prop where
  b : VB k n t l.length ks
  kr : Rd w Ak ks.length (strs ks)
  kd : 0 < ks.length → ∀ b, inA Ak b → D b
  kc : ks.length ≤ ck
  cn : css.length = l.length
  c5 : ∀ C ∈ css, C.size = 5
  lr : Rd w Al (l.length * 5) (flat css)
  ld : 0 < l.length → ∀ b, inA Al b → D b
  lc : l.length ≤ cl
  el : ∀ (i : Nat) (C : Array Value) (x : V), css[i]? = some C → l[i]? = some x → RdV D w C x
section
variable {D : Nat → Prop} {w w' : World} {C : Array Value} {v : V}
theorem RdV.inv (h : RdV D w C v) : ∃ k n t l ks Al cl Ak ck css, v = .mk k n t l ks ∧ C = vcs k n t Al l.length cl Ak ks.length ck ∧ VP D w k n t l ks Al cl Ak ck css := by
  cases h with
  | mk css a b c d e f g i j m => exact ⟨_, _, _, _, _, _, _, _, _, css, rfl, rfl, ⟨a, b, c, d, e, f, g, i, j, m⟩⟩
theorem VP.rd {k n t l ks Al cl Ak ck css} (h : VP D w k n t l ks Al cl Ak ck css) : RdV D w (vcs k n t Al l.length cl Ak ks.length ck) (.mk k n t l ks) :=
  .mk css h.b h.kr h.kd h.kc h.cn h.c5 h.lr h.ld h.lc h.el
theorem RdV.size (h : RdV D w C v) : C.size = 5 := by
  obtain ⟨_, _, _, _, _, _, _, _, _, _, -, rfl, -⟩ := h.inv
  rfl
theorem RdV.one (h : RdV D w C v) : ∀ u ∈ C.toList, u.oneCell' = true := by
  obtain ⟨_, _, _, _, _, _, _, _, _, _, -, rfl, -⟩ := h.inv
  simp [vcs, Value.oneCell']
theorem Rd.fr0 {A : Option Addr} {n : Nat} {xs : List Value} {fp : Nat → Prop} (h : Rd w A n xs) (hf : Fr fp w w') (hd : 0 < n → ∀ k, inA A k → ¬ fp k) : Rd w' A n xs := by
  rcases Nat.eq_zero_or_pos n with rfl | hn
  · exact ⟨h.1, fun h => absurd h (by omega)⟩
  · exact h.fr hf (hd hn)
theorem RdV.fr {fp : Nat → Prop} (h : RdV D w C v) (hf : Fr fp w w') (hd : ∀ b, D b → ¬ fp b) : RdV D w' C v := by
  induction h with
  | mk css a b c d e f g i j m ih =>
    exact .mk css a (b.fr0 hf fun hn k hk => hd k (c hn k hk)) c d e f (g.fr0 hf fun hn k hk => hd k (i (by omega) k hk)) i j ih
theorem RdV.far (h : RdV D w C v) (hf : Fr (fun _ => False) w w') : RdV D w' C v := h.fr hf (fun _ _ h => h)
theorem RdV.mono {E : Nat → Prop} (h : RdV D w C v) (hd : ∀ b, D b → E b) : RdV E w C v := by
  induction h with
  | mk css a b c d e f g i j m ih => exact .mk css a b (fun hn k hk => hd k (c hn k hk)) d e f g (fun hn k hk => hd k (i hn k hk)) j ih
theorem RdV.lts (h : RdV D w C v) : RdV (fun b => D b ∧ b < w.heap.size) w C v := by
  induction h with
  | mk css a b c d e f g i j m ih => exact .mk css a b (fun hn k hk => ⟨c hn k hk, b.lt hn hk⟩) d e f g (fun hn k hk => ⟨i hn k hk, g.lt (by omega) hk⟩) j ih
theorem VP.fr {fp : Nat → Prop} {k n t l ks Al cl Ak ck css} (h : VP D w k n t l ks Al cl Ak ck css) (hf : Fr fp w w') (hd : ∀ b, D b → ¬ fp b) : VP D w' k n t l ks Al cl Ak ck css :=
  ⟨h.b, h.kr.fr0 hf fun hn k hk => hd k (h.kd hn k hk), h.kd, h.kc, h.cn, h.c5, h.lr.fr0 hf fun hn k hk => hd k (h.ld (by omega) k hk), h.ld, h.lc, fun i C x h1 h2 => (h.el i C x h1 h2).fr hf hd⟩
theorem VP.far {k n t l ks Al cl Ak ck css} (h : VP D w k n t l ks Al cl Ak ck css) (hf : Fr (fun _ => False) w w') : VP D w' k n t l ks Al cl Ak ck css := h.fr hf (fun _ _ h => h)
/-- An element's cells. -/
theorem VP.at_ {k n t l ks Al cl Ak ck css} (h : VP D w k n t l ks Al cl Ak ck css) {i : Nat} (hi : i < l.length) :
    ∃ b off C, Al = some ⟨b, off, none⟩ ∧ css[i]? = some C ∧ RdV D w C l[i] ∧ w.rangeAt b (off + i * 5) C.toList ∧ C.size = 5 := by
  obtain ⟨b, off, rfl, hc⟩ := h.lr.lit (by omega)
  have hci : i < css.length := by rw [h.cn]; exact hi
  refine ⟨b, off, css[i], rfl, List.getElem?_eq_getElem hci, h.el i _ _ (List.getElem?_eq_getElem hci) (List.getElem?_eq_getElem hi), fun j u hu => ?_, h.c5 _ (List.getElem_mem hci)⟩
  have h5 := h.c5 _ (List.getElem_mem hci)
  have hj : j < 5 := by
    have := (List.getElem?_eq_some_iff.1 hu).1
    rw [Array.length_toList, h5] at this
    exact this
  have hn : i * 5 + j < l.length * 5 := by omega
  rw [Nat.add_assoc, hc _ hn, flat_get css h.c5 i css[i] (List.getElem?_eq_getElem hci) j hj]
  simpa using hu
theorem VP.key {k n t l ks Al cl Ak ck css} (h : VP D w k n t l ks Al cl Ak ck css) {i : Nat} (hi : i < ks.length) :
    ∃ b off, Ak = some ⟨b, off, none⟩ ∧ w.cell? ⟨b, off + i, none⟩ = some (.string (strOf ks[i])) := by
  obtain ⟨b, off, rfl, hc⟩ := h.kr.lit (by omega)
  exact ⟨b, off, rfl, by rw [hc i hi, strs_get ks i hi]⟩
end
theorem abs_world {P : Program} {c : Code} {Q : Exit → Act → World → Prop} {a : Act} {w : World} (Φ : World → Prop) (h : Φ w) (k : ∀ W, Φ W → Code.wp P c Q a W) : Code.wp P c Q a w := k w h
theorem abs_exit {K : Act → World → Prop} {Q : Exit → Act → World → Prop} {e : Exit} {a : Act} {w : World} (Φ : World → Prop) (h : Φ w) (k : ∀ W, Φ W → Exit.then K Q e a W) : Exit.then K Q e a w := k w h
theorem fr_below {w w' : World} (h : Below w.heap.size w w') : Fr (fun _ => False) w w' := (Fr.of_below h).mono (fun i hi hh => by omega)
section
variable {P : Program}
theorem wpList_load_val {ops : Array Oper} {rest : List Oper} {op : Oper} {a : Act} {w : World} {Q : Exit → Act → World → Prop} (hgd : op.guard = none) (ty : TypeId) (x : Operand) (ho : op.op = .load ty x)
    (g off : Nat) (hx : a.eval x = .pointer (some ⟨g, off, none⟩)) (C : Array Value) (hr : w.rangeAt g off C.toList) (d : TypeDesc) (hu : P.underlying ty = some d) (hd : d.isRow = true) (hi : (P.info? ty).map (·.size) = some C.size)
    (h : wpList P ops Q rest (a.put op.dst (.agg C)) w) : wpList P ops Q (op :: rest) a w :=
  wpList_load_mid hgd ty x ho g off hx C.toList d hr hu hd (by rw [Array.length_toList]; exact hi) (by rw [Array.toArray_toList]; exact h)
end
theorem rng_fr {fp : Nat → Prop} {w w' : World} {g off : Nat} {l : List Value} (h : w.rangeAt g off l) (hf : Fr fp w w') (hn : ¬ fp g) : w'.rangeAt g off l := fun j v hv => by
  have hc := h j v hv
  rw [hf.cell (World.block_lt_of_cell? w _ hc) hn]
  exact hc
theorem rng_far {w w' : World} {g off : Nat} {l : List Value} (h : w.rangeAt g off l) (hf : Fr (fun _ => False) w w') : w'.rangeAt g off l := rng_fr h hf (fun h => h)
theorem blk_all {w : World} {g : Nat} {t : TypeId} {C : Array Value} (h : Blk w g t C) : w.rangeAt g 0 C.toList := h.rng
theorem ret_int {k : IntKind} {a b : Int} (h : a = b) : Ending.returned (.int k a) = .returned (.int k b) := by rw [h]
theorem ret_bool {a b : Bool} (h : a = b) : Ending.returned (.bool a) = .returned (.bool b) := by rw [h]
/-- The zero value. -/
theorem RdV.zero (D : Nat → Prop) (w : World) : RdV D w (vcs 0 0 [] none 0 0 none 0 0) V.zero :=
  .mk (l := []) (ks := []) [] ⟨by decide, by decide, by decide, by decide, Nat.zero_le _, Nat.zero_le _, Nat.zero_le _, fun _ h => by cases h⟩ (Rd.none_ _ _) (fun h => absurd h (by decide)) (Nat.le_refl _) rfl (fun _ h => by cases h) (Rd.none_ _ _) (fun h => absurd h (by decide)) (Nat.le_refl _) (fun i C x h => by simp at h)
end Go.Proofs.YtnkfkicabgajmaaDoor
