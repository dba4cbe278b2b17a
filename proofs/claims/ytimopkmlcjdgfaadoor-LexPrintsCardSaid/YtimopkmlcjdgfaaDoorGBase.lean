/-
  Mem, App, St, Par, Par2, Par3, Par4, Stp, Cnd, in one text (merge.py).
-/
import Derived.WalkKit
import Derived.WalkSpells
import Derived.WalkLawsBesides
import Derived.Deep.Draws
import Derived.Deep.AppendLies
import Derived.Deep.AppendSrc
import Derived.Lib.Hide
import Derived.Deep.Upon
import Derived.Deep.MidRow
import Derived.OrdersIn
import Derived.OwnWalkIn
import Derived.WalkMore

/-
  MEMORY WORDS, over whatever program: a frame by the blocks that may have turned; a block known whole; a slice that reads as a list of bytes; a row of bytes of the call's own. No statement is proved here.
-/
namespace Go.Proofs.YtimopkmlcjdgfaaDoor
set_option linter.unusedSimpArgs false
set_option linter.unusedVariables false
open Go Go.RowKit

/-- Between w and w' no block of w outside fp has turned; the streams are as they were; no block has gone. -/
structure Fr (fp : Nat → Prop) (w w' : World) : Prop where
  os : w'.os = w.os
  tape : w'.tape = w.tape
  output : w'.output = w.output
  size : w.heap.size ≤ w'.heap.size
  block : ∀ k, k < w.heap.size → ¬ fp k → w'.heap[k]? = w.heap[k]?

section
variable {fp fq : Nat → Prop} {a w w' : World}
theorem Fr.refl (fp : Nat → Prop) (w : World) : Fr fp w w := ⟨rfl, rfl, rfl, Nat.le_refl _, fun _ _ _ => rfl⟩
theorem Fr.trans (h : Fr fp a w) (k : Fr fq w w') (hq : ∀ i, i < a.heap.size → fq i → fp i) : Fr fp a w' :=
  ⟨k.os.trans h.os, k.tape.trans h.tape, k.output.trans h.output, Nat.le_trans h.size k.size,
    fun i hi hn => (k.block i (Nat.lt_of_lt_of_le hi h.size) (fun e => hn (hq i hi e))).trans (h.block i hi hn)⟩
theorem Fr.mono (h : Fr fq w w') (hq : ∀ i, i < w.heap.size → fq i → fp i) : Fr fp w w' :=
  ⟨h.os, h.tape, h.output, h.size, fun i hi hn => h.block i hi (fun e => hn (hq i hi e))⟩
theorem Fr.drew (h : Fr fp a w) : Fr fp a w.drew := ⟨h.os, h.tape, h.output, h.size, h.block⟩
theorem Fr.drewN (h : Fr fp a w) (n : Nat) : Fr fp a (w.drewN n) := ⟨h.os, h.tape, h.output, h.size, h.block⟩
theorem Fr.alloc (h : Fr fp a w) (o : Obj) : Fr fp a (w.alloc o) :=
  ⟨h.os, h.tape, h.output, Nat.le_trans h.size (by simp), fun i hi hn => (Below.heap_alloc w o i (Nat.lt_of_lt_of_le hi h.size)).trans (h.block i hi hn)⟩
theorem Fr.setCell (h : Fr fp a w) {p : Addr} (hp : p.block < a.heap.size → fp p.block) (u : Value) : Fr fp a (w.setCell p u) :=
  ⟨h.os, h.tape, h.output, by simpa [World.setCell] using h.size, fun i hi hn => (Below.heap_setCell w p u i (by rintro rfl; exact hn (hp hi))).trans (h.block i hi hn)⟩
theorem Fr.grown (h : Fr fp a w) {row : Option Nat} (hg : w.grownBy w' row) (hr : ∀ k, row = some k → k < a.heap.size → fp k) : Fr fp a w' :=
  ⟨hg.os.trans h.os, hg.tape.trans h.tape, hg.output.trans h.output, Nat.le_trans h.size hg.size,
    fun i hi hn => (hg.block i (Nat.lt_of_lt_of_le hi h.size) (fun e => hn (hr i e.symm hi))).trans (h.block i hi hn)⟩
theorem Fr.below (h : Fr fp w w') {B : Nat} (hB : B ≤ w.heap.size) (hf : ∀ i, i < B → ¬ fp i) : Below B w w' :=
  ⟨h.os, h.tape, h.output, h.size, fun i hi => h.block i (by omega) (hf i hi)⟩
theorem Fr.of_below {B : Nat} (h : Below B w w') : Fr (fun i => B ≤ i) w w' :=
  ⟨h.os, h.tape, h.output, h.size, fun i _ hn => h.block i (by omega)⟩
theorem Fr.cell (h : Fr fp w w') {p : Addr} (hp : p.block < w.heap.size) (hn : ¬ fp p.block) : w'.cell? p = w.cell? p := World.cell?_of_block (h.block _ hp hn)
theorem Fr.frozen (h : Fr fp w w') {p : Addr} (hp : p.block < w.heap.size) (hn : ¬ fp p.block) : w'.frozen? p = w.frozen? p := World.frozen?_of_block (h.block _ hp hn)
end

theorem block_of_add (a : Addr) (n : Nat) : (a.add n).block = a.block := by unfold Addr.add; split <;> rfl
theorem add_of_add (a : Addr) (i j : Nat) : (a.add i).add j = a.add (i + j) := by
  unfold Addr.add
  by_cases hi : i = 0 <;> by_cases hj : j = 0 <;> simp [hi, hj, Nat.add_assoc]

/-- Block g is just these cells, none frozen. -/
def Blk (w : World) (g : Nat) (t : TypeId) (cs : Array Value) : Prop := w.heap[g]? = some (.cells cs t (0, 0))

section
variable {w w' : World} {g : Nat} {t : TypeId} {cs : Array Value}
theorem Blk.lt (h : Blk w g t cs) : g < w.heap.size := by
  rcases Nat.lt_or_ge g w.heap.size with hlt | hge
  · exact hlt
  · unfold Blk at h; rw [Array.getElem?_eq_none hge] at h; cases h
theorem Blk.cell (h : Blk w g t cs) (i : Nat) : w.cell? ⟨g, i, none⟩ = cs[i]? := cell_of_row w g i cs t (0, 0) h
theorem Blk.frozen (h : Blk w g t cs) (i : Nat) : w.frozen? ⟨g, i, none⟩ = false := by
  unfold Blk at h
  simp [World.frozen?, h]
theorem Blk.new (w : World) (t : TypeId) (cs : Array Value) : Blk (w.alloc (.cells cs t)) w.heap.size t cs := heap_alloc_new w _
theorem Blk.drew (h : Blk w g t cs) : Blk w.drew g t cs := h
theorem Blk.drewN (h : Blk w g t cs) (n : Nat) : Blk (w.drewN n) g t cs := h
theorem Blk.alloc (h : Blk w g t cs) (o : Obj) : Blk (w.alloc o) g t cs := (Below.heap_alloc w o g h.lt).trans h
theorem Blk.set_ (h : Blk w g t cs) (i : Nat) (u : Value) : Blk (w.setCell ⟨g, i, none⟩ u) g t (cs.setIfInBounds i u) := by
  unfold Blk at h ⊢
  simp [World.setCell, Array.getElem?_modify, h]
theorem Blk.far (h : Blk w g t cs) {p : Addr} (hp : g ≠ p.block) (u : Value) : Blk (w.setCell p u) g t cs := (Below.heap_setCell w p u g hp).trans h
theorem Blk.fr {fp : Nat → Prop} (h : Blk w g t cs) (hf : Fr fp w w') (hg : ¬ fp g) : Blk w' g t cs := (hf.block g h.lt hg).trans h
theorem Blk.below {B : Nat} (h : Blk w g t cs) (hb : Below B w w') (hg : g < B) : Blk w' g t cs := (hb.block g hg).trans h
theorem Blk.grown {row : Option Nat} (h : Blk w g t cs) (hb : w.grownBy w' row) (hg : some g ≠ row) : Blk w' g t cs := (hb.block g h.lt hg).trans h
theorem Blk.ne_ {g' : Nat} {t' : TypeId} {cs' : Array Value} (h : Blk w g t cs) (h' : Blk w g' t' cs') (hne : t ≠ t') : g ≠ g' := by
  rintro rfl
  unfold Blk at h h'
  rw [h] at h'
  injection h' with h'
  injection h' with _ ht
  exact hne ht
end

/-- Bytes, as cells. -/
def bv (l : List UInt8) : List Value := l.map fun b => Value.int .u8 b.toNat
theorem bv_length (l : List UInt8) : (bv l).length = l.length := by simp [bv]
theorem bv_append (l m : List UInt8) : bv (l ++ m) = bv l ++ bv m := by simp [bv]
theorem bv_nil : bv [] = [] := rfl
theorem bv_take (l : List UInt8) (n : Nat) : bv (l.take n) = (bv l).take n := by simp [bv, List.map_take]
theorem bv_drop (l : List UInt8) (n : Nat) : bv (l.drop n) = (bv l).drop n := by simp [bv, List.map_drop]
theorem bv_get (l : List UInt8) (i : Nat) (h : i < l.length) : (bv l)[i]? = some (.int .u8 (l[i]).toNat) := by simp [bv, h]
theorem bv_one (l : List UInt8) : ∀ u ∈ bv l, u.oneCell' = true := by
  intro u hu
  obtain ⟨_, _, rfl⟩ := List.mem_map.1 hu
  rfl
theorem bv_inj {l m : List UInt8} (h : bv l = bv m) : l = m := by
  induction l generalizing m with
  | nil => cases m with
    | nil => rfl
    | cons _ _ => simp [bv] at h
  | cons a l ih => cases m with
    | nil => simp [bv] at h
    | cons b m =>
      simp only [bv, List.map_cons, List.cons.injEq, Value.int.injEq, true_and] at h
      obtain ⟨h1, h2⟩ := h
      have : a = b := UInt8.toNat_inj.1 (by omega)
      rw [this, ih h2]

/-- The slice value .slice A n c holds the cells xs (of one-cell elements), behind an address or none. -/
def Rd (w : World) (A : Option Addr) (n : Nat) (xs : List Value) : Prop :=
  xs.length = n ∧ (0 < n → ∃ ad, A = some ad ∧ ∀ j u, xs[j]? = some u → w.cell? (ad.add j) = some u)

/-- The blocks that a slice value leads to. -/
def inA (A : Option Addr) (k : Nat) : Prop := ∃ ad, A = some ad ∧ ad.block = k

section
variable {w w' : World} {n : Nat} {A : Option Addr} {xs : List Value}
theorem Rd.none_ (w : World) (A : Option Addr) : Rd w A 0 [] := ⟨rfl, fun h => absurd h (by omega)⟩
theorem Rd.at_ {k : Nat} (h : Rd w A n xs) (hk : k < n) : ∃ ad u, A = some ad ∧ xs[k]? = some u ∧ w.cell? (ad.add k) = some u := by
  obtain ⟨ad, e, hc⟩ := h.2 (by omega)
  have hl : k < xs.length := by have := h.1; omega
  exact ⟨ad, xs[k], e, List.getElem?_eq_getElem hl, hc k _ (List.getElem?_eq_getElem hl)⟩
theorem Rd.keep (h : Rd w A n xs) (hk : ∀ p : Addr, inA A p.block → w'.cell? p = w.cell? p ∨ w.cell? p = none) : Rd w' A n xs :=
  ⟨h.1, fun hn => by
    obtain ⟨ad, e, hc⟩ := h.2 hn
    refine ⟨ad, e, fun j u hu => ?_⟩
    rcases hk (ad.add j) ⟨ad, e, (block_of_add _ _).symm⟩ with h1 | h1
    · rw [h1]; exact hc j u hu
    · rw [hc j u hu] at h1; cases h1⟩
theorem Rd.fr {fp : Nat → Prop} (h : Rd w A n xs) (hf : Fr fp w w') (hd : ∀ k, inA A k → ¬ fp k) : Rd w' A n xs :=
  h.keep fun p hp => by
    rcases Nat.lt_or_ge p.block w.heap.size with hlt | hge
    · exact .inl (hf.cell hlt (hd _ hp))
    · refine .inr ?_
      cases hc : w.cell? p with
      | none => rfl
      | some v => exact absurd (World.block_lt_of_cell? w p hc) (by omega)
theorem Rd.drew (h : Rd w A n xs) : Rd w.drew A n xs := h
theorem Rd.drewN (h : Rd w A n xs) (k : Nat) : Rd (w.drewN k) A n xs := h
theorem Rd.alloc (h : Rd w A n xs) (o : Obj) : Rd (w.alloc o) A n xs := h.fr ((Fr.refl (fun _ => False) w).alloc o) (fun _ _ h => h)
theorem Rd.cut (h : Rd w A n xs) {k cap : Nat} (hk : k ≤ n) (hc : n ≤ cap) :
    Rd w (if cap = k then A else A.map (·.add k)) (n - k) (xs.drop k) := by
  refine ⟨by rw [List.length_drop, h.1], fun hn => ?_⟩
  obtain ⟨ad, rfl, hcell⟩ := h.2 (by omega)
  rw [if_neg (by omega)]
  refine ⟨ad.add k, rfl, fun j u hu => ?_⟩
  rw [add_of_add]
  exact hcell _ u (by rw [← hu, List.getElem?_drop])
theorem Rd.take (h : Rd w A n xs) {k : Nat} (hk : k ≤ n) : Rd w A k (xs.take k) := by
  refine ⟨by rw [List.length_take, h.1]; omega, fun hn => ?_⟩
  obtain ⟨ad, rfl, hcell⟩ := h.2 (by omega)
  refine ⟨ad, rfl, fun j u hu => hcell j u ?_⟩
  rw [List.getElem?_take] at hu
  split at hu
  · exact hu
  · cases hu
/-- Where there is an element: the address written out. -/
theorem Rd.lit (h : Rd w A n xs) (hn : 0 < n) : ∃ b off, A = some ⟨b, off, none⟩ ∧ ∀ k, k < n → w.cell? ⟨b, off + k, none⟩ = xs[k]? := by
  obtain ⟨ad, rfl, hc⟩ := h.2 hn
  obtain ⟨b, off, spot⟩ := ad
  have hl := h.1
  have h0 := hc 0 _ (List.getElem?_eq_getElem (by omega))
  have hspot : spot = none := by simpa [Addr.add] using World.cell?_spot h0
  subst hspot
  refine ⟨b, off, rfl, fun k hk => ?_⟩
  have := hc k _ (List.getElem?_eq_getElem (by omega))
  rw [Addr.add_lit] at this
  rw [this, List.getElem?_eq_getElem]
theorem Rd.cell {b off : Nat} (h : Rd w (some ⟨b, off, none⟩) n xs) {k : Nat} (hk : k < n) : w.cell? ⟨b, off + k, none⟩ = xs[k]? := by
  obtain ⟨b', off', he, hc⟩ := h.lit (by omega)
  injection he with he
  injection he with h1 h2
  subst h1 h2
  exact hc k hk
theorem Rd.lt (h : Rd w A n xs) (hn : 0 < n) {k : Nat} (hk : inA A k) : k < w.heap.size := by
  obtain ⟨ad, u, rfl, _, hc⟩ := h.at_ hn
  obtain ⟨ad', he, rfl⟩ := hk
  injection he with he
  subst he
  have := World.block_lt_of_cell? w _ hc
  rwa [block_of_add] at this
theorem Rd.far (h : Rd w A n xs) (hf : Fr (fun _ => False) w w') : Rd w' A n xs := h.fr hf (fun _ _ h => h)
theorem Rd.of_own {base : Nat} {e : TypeId} {c : Nat} (h : w.ownsRow base e 1 (.slice A n c) n xs) : Rd w A n xs := by
  refine ⟨by simpa using h.1, fun hn => ?_⟩
  obtain ⟨g, cap, hv, _, hlt⟩ := h.form hn
  have hA : A = some ⟨g, 0, none⟩ := by injection hv
  subst hA
  exact ⟨_, rfl, h.cells (g := g) rfl⟩
theorem Rd.of_blk {t : TypeId} {g : Nat} {cs : Array Value} (h : Blk w g t cs) (hn : n ≤ cs.size) : Rd w (some ⟨g, 0, none⟩) n (cs.toList.take n) := by
  refine ⟨by simp; omega, fun _ => ⟨_, rfl, fun j u hu => ?_⟩⟩
  rw [Addr.add_lit, Nat.zero_add, h.cell]
  rw [List.getElem?_take] at hu
  split at hu
  · simpa using hu
  · cases hu
end

/-- A row of the call's own goes on over a frame that lets its block alone. -/
theorem own_fr {w w' : World} {fp : Nat → Prop} {base : Nat} {e : TypeId} {size : Nat} {v : Value} {n : Nat} {xs : List Value} (h : w.ownsRow base e size v n xs) (hf : Fr fp w w') (hd : ∀ k, v.ownBlock = some k → ¬ fp k) : w'.ownsRow base e size v n xs := by
  obtain ⟨h1, h2⟩ := h
  refine ⟨h1, ?_⟩
  rcases h2 with h2 | ⟨g, cap, cur, rfl, hg, hh, r⟩
  · exact Or.inl h2
  · refine Or.inr ⟨g, cap, cur, rfl, hg, ?_, r⟩
    have hlt : g < w.heap.size := by
      rcases Nat.lt_or_ge g w.heap.size with hlt | hge
      · exact hlt
      · rw [Array.getElem?_eq_none hge] at hh; cases hh
    rw [hf.block g hlt (hd g rfl)]; exact hh
theorem own_base {w : World} {base base' : Nat} {e : TypeId} {size : Nat} {v : Value} {n : Nat} {xs : List Value} (h : w.ownsRow base e size v n xs) (hd : ∀ k, v.ownBlock = some k → base' ≤ k) : w.ownsRow base' e size v n xs := by
  obtain ⟨h1, h2⟩ := h
  refine ⟨h1, ?_⟩
  rcases h2 with h2 | ⟨g, cap, cur, rfl, hg, hh, r⟩
  · exact Or.inl h2
  · exact Or.inr ⟨g, cap, cur, rfl, hd g rfl, hh, r⟩
theorem own_blk_ne {w : World} {g : Nat} {t : TypeId} {cs : Array Value} {base : Nat} {e : TypeId} {size n : Nat} {v : Value} {xs : List Value} (h : w.ownsRow base e size v n xs) (hg : Blk w g t cs) (hne : e ≠ t) : v.ownBlock ≠ some g := by
  rcases h.2 with ⟨rfl, _⟩ | ⟨g', cap, cur, rfl, _, hh, _⟩
  · simp [Value.ownBlock]
  · intro he
    have : g' = g := by simpa [Value.ownBlock] using he
    subst this
    exact Blk.ne_ (t := e) hh hg hne rfl
theorem own_slice {w : World} {base : Nat} {e : TypeId} {size n : Nat} {v : Value} {xs : List Value} (h : w.ownsRow base e size v n xs) : ∃ A c, v = .slice A n c ∧ n ≤ c ∧ c ≤ maxLen := by
  rcases h.2 with ⟨rfl, rfl⟩ | ⟨g', cap, cur, rfl, _, _, h1, h2, _⟩
  · exact ⟨_, _, rfl, Nat.le_refl _, by unfold maxLen; omega⟩
  · exact ⟨_, _, rfl, h1, h2⟩

end Go.Proofs.YtimopkmlcjdgfaaDoor

/-
  APPEND onto a row of the call's own, the source a slice (nil let in) or a string. No program is named here.
-/
namespace Go.Proofs.YtimopkmlcjdgfaaDoor
set_option linter.unusedSimpArgs false
set_option linter.unusedVariables false
open Go Go.RowKit

theorem heap_setCells (b : Nat) : ∀ (vs : List Value) (o : Nat) (w : World) (cur : Array Value) (t : TypeId) (fr : Nat × Nat), w.heap[b]? = some (.cells cur t fr) → o + vs.length ≤ cur.size →
    ∃ c : Array Value, (w.setCells b o vs).heap[b]? = some (.cells c t fr) ∧ c.toList = cur.toList.take o ++ vs ++ cur.toList.drop (o + vs.length)
  | [], o, w, cur, t, fr, h, _ => ⟨cur, h, by simp⟩
  | v :: r, o, w, cur, t, fr, h, hl => by
    have h1 : (w.setCell ⟨b, o, none⟩ v).heap[b]? = some (.cells (cur.setIfInBounds o v) t fr) := by
      simp [World.setCell, Array.getElem?_modify, h]
    obtain ⟨c, hc, hcl⟩ := heap_setCells b r (o + 1) _ _ t fr h1 (by simp at hl ⊢; omega)
    refine ⟨c, hc, ?_⟩
    rw [hcl]
    simp only [List.length_cons] at hl
    apply List.ext_getElem?
    intro i
    simp only [Array.toList_setIfInBounds, List.getElem?_append, List.length_append, List.length_take, List.length_set, List.length_cons, Array.length_toList, List.getElem?_take, List.getElem?_drop, List.getElem?_set]
    rw [show min (o + 1) cur.size = o + 1 by omega, show min o cur.size = o by omega]
    by_cases h1 : i < o
    · simp [h1, show i < o + 1 + r.length by omega, show i < o + 1 by omega, show i < o + (r.length + 1) by omega, show ¬ o = i by omega]
    · by_cases h2 : i = o
      · subst h2
        simp [show i < i + 1 + r.length by omega, show i < i + (r.length + 1) by omega, show i < cur.size by omega]
      · by_cases h3 : i < o + 1 + r.length
        · simp [h1, h3, show ¬ i < o + 1 by omega, show i < o + (r.length + 1) by omega]
          rw [show i - o = (i - (o + 1)) + 1 by omega]
          simp
        · simp [h1, h3, show ¬ i < o + 1 by omega, show ¬ i < o + (r.length + 1) by omega]
          rw [if_neg (by omega)]
          congr 1
          omega

theorem World.grownBy_setCells_aux (g : Nat) : ∀ (vs : List Value) (o : Nat) (w : World), (w.setCells g o vs).tape = w.tape ∧ (w.setCells g o vs).heap.size = w.heap.size
  | [], _, _ => ⟨rfl, rfl⟩
  | v :: r, o, w => by
    have h := World.grownBy_setCells_aux g r (o + 1) (w.setCell ⟨g, o, none⟩ v)
    exact ⟨h.1, h.2.trans (by simp [World.setCell])⟩

section
variable {P : Program}
/-- append(v, x) onto a row of the call's own, out of whatever source. -/
theorem run_app (w : World) (base : Nat) (t tx ty e : TypeId) (i : TypeInfo) (z : Value) (size bytes : Nat) (ht : P.underlying t = some (.slice e)) (hi : P.info? e = some i) (hz : i.zero = some z)
    (hsize : i.size = size) (hby : i.bytes = bytes) (hzs : z.cells.size = size)
    (v : Value) (n : Nat) (xs : List Value) (hown : w.ownsRow base e size v n xs)
    (x : Value) (m : Nat) (news : List Value) (hs : Src P size tx x m news w)
    (hbytes : (n + m) * bytes ≤ 140737488355328) (h63 : n + m ≤ maxLen) (hbase : base ≤ w.heap.size) :
    ∃ v' w', (Builtin.append_ #[t, tx] ty #[v, x]).run P w = .ok v' w' ∧ w'.ownsRow base e size v' (n + m) (xs ++ news) ∧ Fr (fun k => v.ownBlock = some k) w w' ∧ (v'.ownBlock = v.ownBlock ∨ v'.ownBlock = some w.heap.size) := by
  subst hsize
  subst hby
  have hsmall : n + m ≤ 9223372036854775807 := by simp only [maxLen] at h63; omega
  have hnl := hs.newsLen
  have hlen : (xs ++ news).length = (n + m) * i.size := by rw [List.length_append, hown.1, hnl, Nat.add_mul]
  have grown : ∀ (old : Nat), old < n + m →
      (w.drew.alloc (.cells ((xs ++ news).toArray ++ Builtin.zeroCells z.cells (grownCap w (n + m) old e - (n + m))) e)).ownsRow base e i.size
        (.slice (some ⟨w.heap.size, 0, none⟩) (n + m) (grownCap w (n + m) old e)) (n + m) (xs ++ news) := by
    intro old ho
    have hge := grownCap_ge w (n + m) old e
    have hcm : grownCap w (n + m) old e ≤ maxLen := grownCap_le_maxLen w (n + m) old e h63
    refine ⟨hlen, .inr ⟨w.heap.size, _, _, rfl, hbase, heap_alloc_new w.drew _, hge, hcm, ?_, ?_⟩⟩
    · simp only [Array.size_append, List.size_toArray, size_zeroCells, hzs, hlen, ← Nat.add_mul]
      congr 1
      omega
    · simp only [Array.toList_append]
      rw [← hlen]
      exact List.take_left
  rcases hown.2 with ⟨rfl, rfl⟩ | ⟨g, cap, cur, rfl, hbg, hg, hnc, hcm, hcs, htake⟩
  · have hx : xs = [] := List.eq_nil_of_length_eq_zero (by simpa using hown.1)
    subst hx
    by_cases hm : m = 0
    · subst hm
      have hn : news = [] := List.eq_nil_of_length_eq_zero (by simpa using hnl)
      subst hn
      exact ⟨.slice none 0 0, w, run_append_nothing w t tx ty e i ht hi none 0 0 (Nat.le_refl _) x hs, World.ownsRow_nil w base e i.size, Fr.refl _ w, .inl rfl⟩
    · have hr := run_append_grow_src (P := P) w t tx ty e i z ht hi hz none 0 0 [] (by simp [Builtin.firstCells]) x m news hs (by omega) (by omega) (growslice_fits (by omega) hbytes)
      exact ⟨_, _, hr, grown 0 (by omega), ((Fr.refl _ w).drew).alloc _, .inr rfl⟩
  · by_cases hroom : n + m ≤ cap
    · have hfit : n * i.size + news.length ≤ cur.size := by rw [hnl, hcs, ← Nat.add_mul]; exact Nat.mul_le_mul_right _ hroom
      have hcell : ∀ j (_hj : j < news.length), w.cell? ⟨g, 0 + n * i.size + j, none⟩ = some (cur[n * i.size + j]'(by omega)) := by
        intro j hj
        rw [Nat.zero_add, cell_of_row w g _ cur e (0, 0) hg]
        simp [show n * i.size + j < cur.size by omega]
      have hr := run_append_room_src (P := P) w t tx ty e i ht hi g 0 n cap x m news hs hroom (fun j hj => by rw [hcell j hj]; rfl) (fun j _ => by simp [World.frozen?, hg])
      rw [Nat.zero_add] at hr
      obtain ⟨c, hc, hcl⟩ := heap_setCells g news (n * i.size) w cur e (0, 0) hg hfit
      have hcsz : c.size = cur.size := by
        rw [← Array.length_toList, hcl]
        simp
        omega
      refine ⟨_, _, hr, ⟨hlen, .inr ⟨g, cap, c, rfl, hbg, hc, hroom, hcm, by rw [hcsz, hcs], ?_⟩⟩, ⟨World.os_setCells _ _ _ _, ?_, World.output_setCells _ _ _ _, ?_, ?_⟩, .inl rfl⟩
      · rw [hcl, htake, ← hlen]
        exact List.take_left
      · exact (World.grownBy_setCells_aux g news (n * i.size) w).1
      · exact Nat.le_of_eq (World.grownBy_setCells_aux g news (n * i.size) w).2.symm
      · intro k hk hne
        exact World.heap_setCells_other w g _ news hk (fun e => hne (by simp [Value.ownBlock, e]))
    · have hr := run_append_grow_src (P := P) w t tx ty e i z ht hi hz (some ⟨g, 0, none⟩) n cap xs (run_firstCells_some w.drew i.size n ⟨g, 0, none⟩ n cap xs hown.1 (hown.cells (g := g) rfl)) x m news hs (by omega) (by omega) (growslice_fits (by omega) hbytes)
      exact ⟨_, _, hr, grown cap (by omega), ((Fr.refl _ w).drew).alloc _, .inr rfl⟩

/-- The same at the operation, for the walk. -/
theorem wpList_app {w : World} {ops : Array Oper} {rest : List Oper} {o : Oper} {a : Act} {Q : Exit → Act → World → Prop} (hgd : o.guard = none) (s x : Operand) (t tx : TypeId)
    (ho : o.op = .call { callee := .builtin .append, args := #[s, x], argTypes := #[t, tx] })
    (base : Nat) (e : TypeId) (i : TypeInfo) (z : Value) (size bytes : Nat) (ht : P.underlying t = some (.slice e)) (hi : P.info? e = some i) (hz : i.zero = some z)
    (hsize : i.size = size) (hby : i.bytes = bytes) (hzs : z.cells.size = size)
    (v : Value) (n : Nat) (xs : List Value) (hv : a.eval s = v) (hown : w.ownsRow base e size v n xs)
    (xv : Value) (m : Nat) (news : List Value) (hx : a.eval x = xv) (hs : Src P size tx xv m news w)
    (hbytes : (n + m) * bytes ≤ 140737488355328) (h63 : n + m ≤ maxLen) (hbase : base ≤ w.heap.size)
    (h : ∀ v' w', w'.ownsRow base e size v' (n + m) (xs ++ news) → Fr (fun k => v.ownBlock = some k) w w' → (v'.ownBlock = v.ownBlock ∨ v'.ownBlock = some w.heap.size) → wpList P ops Q rest (a.put o.dst v') w') :
    wpList P ops Q (o :: rest) a w := by
  refine wpList_plain hgd fun K hK => ?_
  obtain ⟨v', w', hr, h2, h3, h4⟩ := run_app (P := P) w base t tx o.type e i z size bytes ht hi hz hsize hby hzs v n xs hown xv m news hs hbytes h63 hbase
  unfold Oper.wp execOp
  simp only [ho, resolve, invoke, builtin, Sem.run_bind, Sem.run_pure, Result.andThen_ok, List.map_toArray, List.map_cons, List.map_nil, hv, hx, hr]
  exact hK _ _ (h v' w' h2 h3 h4)

/-- What a slice yields as a source. -/
theorem Src.rd {w : World} {tx e' : TypeId} (hk : P.underlying tx = some (.slice e')) {A : Option Addr} {n : Nat} (c : Nat) {xs : List Value} (h : Rd w A n xs) (h1 : ∀ u ∈ xs, u.oneCell' = true) : Src P 1 tx (.slice A n c) n xs w := by
  cases A with
  | none =>
    have hn : n = 0 := by
      rcases Nat.eq_zero_or_pos n with h0 | h0
      · exact h0
      · obtain ⟨ad, he, _⟩ := h.2 h0
        cases he
    subst hn
    have hx : xs = [] := List.eq_nil_of_length_eq_zero h.1
    subst hx
    have := Src.ofNil (P := P) w (size := 1) hk c
    exact this
  | some ad =>
    refine Src.ofSlice w hk ad n c xs (by rw [h.1, Nat.mul_one]) (fun j u hu => ?_) h1
    have hn : 0 < n := by
      rcases Nat.eq_zero_or_pos n with h0 | h0
      · subst h0
        have hx : xs = [] := List.eq_nil_of_length_eq_zero h.1
        subst hx
        simp at hu
      · exact h0
    obtain ⟨ad', he, hc⟩ := h.2 hn
    injection he with he
    subst he
    exact hc j u hu
end
end Go.Proofs.YtimopkmlcjdgfaaDoor

/-
  STORES AND LOADS OF WHOLE BLOCKS, over whatever program.
-/
namespace Go.Proofs.YtimopkmlcjdgfaaDoor
set_option linter.unusedSimpArgs false
set_option linter.unusedVariables false
open Go Go.RowKit

theorem Fr.setCells {fp : Nat → Prop} {a : World} {g : Nat} (hg : g < a.heap.size → fp g) : ∀ (vs : List Value) (o : Nat) (w : World), Fr fp a w → Fr fp a (w.setCells g o vs)
  | [], _, _, h => h
  | v :: r, o, w, h => Fr.setCells hg r (o + 1) _ (h.setCell (p := ⟨g, o, none⟩) hg v)
theorem Blk.setAll {w : World} {g : Nat} {t : TypeId} {cs ds : Array Value} (h : Blk w g t cs) (hl : ds.size = cs.size) : Blk (w.setCells g 0 ds.toList) g t ds := by
  obtain ⟨c, h1, h2⟩ := heap_setCells g ds.toList 0 w cs t (0, 0) h (by simp; omega)
  have e : c = ds := by
    apply Array.toList_inj.1
    rw [h2]
    simp
    omega
  rw [e] at h1
  exact h1
theorem Blk.there {w : World} {g : Nat} {t : TypeId} {cs : Array Value} (h : Blk w g t cs) : w.there g 0 cs.size := fun j hj => by
  rw [Nat.zero_add]
  exact ⟨by rw [h.cell j, Array.getElem?_eq_getElem hj]; rfl, h.frozen j⟩
theorem Blk.rng {w : World} {g : Nat} {t : TypeId} {cs : Array Value} (h : Blk w g t cs) : w.rangeAt g 0 cs.toList := fun j v hv => by
  have := h.cell j
  rw [Nat.zero_add, this]
  simpa using hv
/-- A part of a block. -/
theorem Blk.part {w : World} {g : Nat} {t : TypeId} {cs : Array Value} (h : Blk w g t cs) (o n : Nat) : w.rangeAt g o ((cs.toList.drop o).take n) := fun j v hv => by
  rw [h.cell]
  rw [List.getElem?_take] at hv
  split at hv
  · rw [List.getElem?_drop] at hv
    simpa using hv
  · cases hv
theorem Blk.new1 (w : World) (o : Obj) (t : TypeId) (cs : Array Value) : Blk ((w.alloc o).alloc (.cells cs t)) (w.heap.size + 1) t cs := by
  have := Blk.new (w.alloc o) t cs
  rwa [World.size_alloc] at this
theorem Blk.new2 (w : World) (o p : Obj) (t : TypeId) (cs : Array Value) : Blk (((w.alloc o).alloc p).alloc (.cells cs t)) (w.heap.size + 2) t cs := by
  have := Blk.new1 (w.alloc o) p t cs
  rwa [World.size_alloc] at this
theorem Blk.new3 (w : World) (o p q : Obj) (t : TypeId) (cs : Array Value) : Blk ((((w.alloc o).alloc p).alloc q).alloc (.cells cs t)) (w.heap.size + 1 + 1 + 1) t cs := by
  have := Blk.new2 (w.alloc o) p q t cs
  rw [World.size_alloc] at this
  exact this
section
variable {P : Program}
theorem wpList_store_blk {ops : Array Oper} {rest : List Oper} {op : Oper} {a : Act} {w : World} {Q : Exit → Act → World → Prop} (hgd : op.guard = none) (ty : TypeId) (x y : Operand) (ho : op.op = .store ty x y)
    (g : Nat) (ds : Array Value) (hx : a.eval x = .pointer (some ⟨g, 0, none⟩)) (hy : a.eval y = .agg ds) {t : TypeId} {cs : Array Value} (hB : Blk w g t cs) (hs : ds.size = cs.size)
    (hi : (P.info? ty).map (·.size) = some ds.size) (h1 : ds.all (·.oneCell') = true)
    (k : ∀ W, Blk W g t ds → Fr (fun k => k = g) w W → wpList P ops Q rest (a.put op.dst undef) W) : wpList P ops Q (op :: rest) a w :=
  wpList_store_mid hgd ty x y ho g 0 ds hx hy (by rw [hs]; exact hB.there) hi h1 (k _ (hB.setAll hs) (Fr.setCells (fp := fun k => k = g) (g := g) (fun _ => rfl) _ _ _ (Fr.refl _ w)))
theorem oper_store_blk {w : World} {ops : Array Oper} {o : Oper} {a : Act} {K : Act → World → Prop} {Q : Exit → Act → World → Prop} {X : Prop} (hgd : o.guard = none) (ty : TypeId) (x y : Operand) (ho : o.op = .store ty x y)
    (g : Nat) (ds : Array Value) (hx : a.eval x = .pointer (some ⟨g, 0, none⟩)) (hy : a.eval y = .agg ds) {t : TypeId} {cs : Array Value} (hB : Blk w g t cs) (hs : ds.size = cs.size)
    (hi : (P.info? ty).map (·.size) = some ds.size) (h1 : ds.all (·.oneCell') = true)
    (k : ∀ W, Blk W g t ds → Fr (fun k => k = g) w W → K (a.put o.dst undef) W) : if Region.wanted o (yielded ops a.tmps) = true then Oper.wp P o a w K Q else X := by
  simp only [Region.wanted, hgd, if_true]
  exact wp_store_mid ty x y ho g 0 ds hx hy (by rw [hs]; exact hB.there) hi h1 (k _ (hB.setAll hs) (Fr.setCells (fp := fun k => k = g) (g := g) (fun _ => rfl) _ _ _ (Fr.refl _ w)))
theorem wpList_load_all {ops : Array Oper} {rest : List Oper} {op : Oper} {a : Act} {w : World} {Q : Exit → Act → World → Prop} (hgd : op.guard = none) (ty : TypeId) (x : Operand) (ho : op.op = .load ty x)
    (g : Nat) (hx : a.eval x = .pointer (some ⟨g, 0, none⟩)) {t : TypeId} {cs : Array Value} (hB : Blk w g t cs) (d : TypeDesc) (hu : P.underlying ty = some d) (hd : d.isRow = true) (hi : (P.info? ty).map (·.size) = some cs.size)
    (h : wpList P ops Q rest (a.put op.dst (.agg cs)) w) : wpList P ops Q (op :: rest) a w :=
  wpList_load_mid hgd ty x ho g 0 hx cs.toList d hB.rng hu hd (by rw [Array.length_toList]; exact hi) (by rw [Array.toArray_toList]; exact h)
theorem wpList_load_blk {ops : Array Oper} {rest : List Oper} {op : Oper} {a : Act} {w : World} {Q : Exit → Act → World → Prop} (hgd : op.guard = none) (ty : TypeId) (x : Operand) (ho : op.op = .load ty x)
    (g : Nat) (hx : a.eval x = .pointer (some ⟨g, 0, none⟩)) {t : TypeId} {cs : Array Value} (hB : Blk w g t cs) (d : TypeDesc) (hu : P.underlying ty = some d) (hd : d.isRow = true) (n : Nat) (hi : (P.info? ty).map (·.size) = some n) (hn : ((cs.toList.drop 0).take n).length = n)
    (h : wpList P ops Q rest (a.put op.dst (.agg ((cs.toList.drop 0).take n).toArray)) w) : wpList P ops Q (op :: rest) a w :=
  wpList_load_mid hgd ty x ho g 0 hx ((cs.toList.drop 0).take n) d (hB.part 0 n) hu hd (by rw [hn]; exact hi) h
end
theorem results_two {P : Program} {fn : Func} {p q : Tmp} {ty : TypeId} (h : fn.results = #[.cell p ty, .tmp q]) (tmps : Array Value) (w : World) (g : Nat) (t : TypeId) (cs : Array Value) (d : TypeDesc)
    (hp : tmps.getD p undef = .pointer (some ⟨g, 0, none⟩)) (hg : Blk w g t cs)
    (hu : P.underlying ty = some d) (hd : (match d with | .struct _ | .array _ _ => true | _ => false) = true) (hi : (P.info? ty).map (·.size) = some cs.size) :
    (results fn tmps).run P w = .ok (.tuple #[.agg cs, tmps.getD q undef]) w := by
  have hp' : tmps[p]?.getD undef = .pointer (some ⟨g, 0, none⟩) := by simpa using hp
  simp [results, h, hp', asAddr, run_loadVar_row w g t ty cs (0, 0) d hg hu hd hi]
theorem results_three {P : Program} {fn : Func} {p q r : Tmp} {ty : TypeId} (h : fn.results = #[.cell p ty, .tmp q, .tmp r]) (tmps : Array Value) (w : World) (g : Nat) (t : TypeId) (cs : Array Value) (d : TypeDesc)
    (hp : tmps.getD p undef = .pointer (some ⟨g, 0, none⟩)) (hg : Blk w g t cs)
    (hu : P.underlying ty = some d) (hd : (match d with | .struct _ | .array _ _ => true | _ => false) = true) (hi : (P.info? ty).map (·.size) = some cs.size) :
    (results fn tmps).run P w = .ok (.tuple #[.agg cs, tmps.getD q undef, tmps.getD r undef]) w := by
  have hp' : tmps[p]?.getD undef = .pointer (some ⟨g, 0, none⟩) := by simpa using hp
  simp [results, h, hp', asAddr, run_loadVar_row w g t ty cs (0, 0) d hg hu hd hi]
theorem results_one {P : Program} {fn : Func} {p : Tmp} {ty : TypeId} (h : fn.results = #[.cell p ty]) (tmps : Array Value) (w : World) (g : Nat) (t : TypeId) (cs : Array Value) (d : TypeDesc)
    (hp : tmps.getD p undef = .pointer (some ⟨g, 0, none⟩)) (hg : Blk w g t cs)
    (hu : P.underlying ty = some d) (hd : (match d with | .struct _ | .array _ _ => true | _ => false) = true) (hi : (P.info? ty).map (·.size) = some cs.size) :
    (results fn tmps).run P w = .ok (.agg cs) w := by
  have hp' : tmps[p]?.getD undef = .pointer (some ⟨g, 0, none⟩) := by simpa using hp
  simp [results, h, hp', asAddr, run_loadVar_row w g t ty cs (0, 0) d hg hu hd hi]
theorem abs_wp {P : Program} {c : Code} {Q : Exit → Act → World → Prop} {a : Act} {w : World} (Φ : World → Prop) (h : Φ w) (k : ∀ W, Φ W → Code.wp P c Q a W) : Code.wp P c Q a w := k w h
theorem keepB {W W' : World} {g : Nat} {t : TypeId} {C : Array Value} (h : Blk W g t C) (f : Fr (fun _ => False) W W') : Blk W' g t C := h.fr f (fun h => h)
theorem Calls.mono' {P : Program} {f : FuncId} {args : Array Value} {w : World} {R S : Ending → World → Prop} (h : Calls P f args w R) (k : ∀ e w', R e w' → S e w') : Calls P f args w S := h.mono k
theorem cells3 {W W' : World} {x : Nat} {t : TypeId} {C : Array Value} (h : Blk W x t C) (f : Fr (fun _ => False) W W') (i j k : Nat) {a b c : Value} (hi : C[i]? = some a) (hj : C[j]? = some b) (hk : C[k]? = some c) :
    W'.cell? ⟨x, i, none⟩ = some a ∧ W'.cell? ⟨x, j, none⟩ = some b ∧ W'.cell? ⟨x, k, none⟩ = some c :=
  ⟨by rw [(keepB h f).cell, hi], by rw [(keepB h f).cell, hj], by rw [(keepB h f).cell, hk]⟩
theorem abs_list {P : Program} {ops : Array Oper} {Q : Exit → Act → World → Prop} {l : List Oper} {a : Act} {w : World} (Φ : World → Prop) (h : Φ w) (k : ∀ W, Φ W → wpList P ops Q l a W) : wpList P ops Q l a w := k w h
theorem abs_calls {P : Program} {f : FuncId} {args : Array Value} {R : Ending → World → Prop} {w : World} (Φ : World → Prop) (h : Φ w) (k : ∀ W, Φ W → Calls P f args W R) : Calls P f args w R := k w h
end Go.Proofs.YtimopkmlcjdgfaaDoor

/-
  A REGION THAT DRAWS ITS ORDER, AS IF IN THE ORDER OF THE TEXT, over whatever program: each operation's fact holds on whatever has only grown; no program is named here.
-/
namespace Go.Proofs.YtimopkmlcjdgfaaDoor
set_option linter.unusedSimpArgs false
set_option linter.unusedVariables false
open Go Go.RowKit

/-- Operation i waits for operation j, at once or by others. -/
def waits (md : Region.Mode) (ops : Array Oper) : Nat → Nat → Nat → Bool
  | 0, _, _ => false
  | f + 1, i, j => match ops[i]? with
    | none => false
    | some o => o.after.any fun e => Region.binds md e && (e.on == j || waits md ops f e.on j)
/-- Is 'listed' closed towards what is waited for? -/
def Closed (md : Region.Mode) (ops : Array Oper) (listed : Array Bool) : Prop :=
  ∀ i o, listed.getD i false = true → ops[i]? = some o → ∀ e ∈ o.after, Region.binds md e = true → listed.getD e.on false = true
theorem closed_waits {md : Region.Mode} {ops : Array Oper} {listed : Array Bool} (hc : Closed md ops listed) {o : Oper} :
    ∀ (f i j : Nat), ops[i]? = some o → (∀ e ∈ o.after, Region.binds md e = true → listed.getD e.on false = true) → waits md ops f i j = true → listed.getD j false = true := by
  intro f
  induction f generalizing o with
  | zero => intro i j _ _ h; simp [waits] at h
  | succ f ih =>
    intro i j ho ha h
    simp only [waits, ho] at h
    rw [Array.any_eq_true] at h
    obtain ⟨x, hx, he⟩ := h
    simp only [Bool.and_eq_true, Bool.or_eq_true, beq_iff_eq] at he
    have hm : o.after[x] ∈ o.after := Array.getElem_mem hx
    have hl := ha _ hm he.1
    rcases he.2 with h1 | h1
    · rw [← h1]; exact hl
    · cases ho2 : ops[o.after[x].on]? with
      | none =>
        cases f with
        | zero => simp [waits] at h1
        | succ f => simp [waits, ho2] at h1
      | some o2 => exact ih _ _ ho2 (fun e he2 hb => hc _ o2 hl ho2 e he2 hb) h1
/-- The values of the operations whose numbers are below k, each in its temporary. -/
def putAll (ops : Array Oper) (val : Nat → Value) (a : Act) : Nat → Act
  | 0 => a
  | k + 1 => (putAll ops val a k).put ((ops[k]?).bind (·.dst)) (val k)
/-- What is asked of the region, once: its first k operations have temporaries of their own; who looks at one of these waits for it; the others wait for all of these. -/
def parOk (md : Region.Mode) (ops : Array Oper) (k size : Nat) : Bool :=
  decide (k ≤ ops.size) &&
  ((List.range k).all fun i => match ops[i]? with
    | none => false
    | some o => (o.guard == none) && (match o.op with | .select .. => false | .defer .. => false | _ => true) &&
      (match o.dst with
        | none => false
        | some d => decide (d < size) && (List.range k).all fun j => j == i || (match ops[j]? with
          | none => true
          | some o2 => o2.dst != some d && ((!o2.op.operands.any fun | .tmp t => t == d | _ => false) || (decide (i < j) && waits md ops ops.size j i) || (decide (j < i) && waits md ops ops.size i j)))) &&
      (o.op.operands.all fun | .tmp t => o.dst != some t | _ => true) &&
      o.after.all fun e => !Region.binds md e || decide (e.on < i)) &&
  ((List.range ops.size).all fun j => decide (j < k) || (List.range k).all fun i => waits md ops ops.size j i)

theorem parOk_op {md : Region.Mode} {ops : Array Oper} {k size : Nat} (h : parOk md ops k size = true) {i : Nat} (hi : i < k) :
    ∃ o d, ops[i]? = some o ∧ o.guard = none ∧ (∀ cs b, o.op ≠ .select cs b) ∧ (∀ c, o.op ≠ .defer c) ∧ o.dst = some d ∧ d < size ∧
      (∀ j o2, j < k → j ≠ i → ops[j]? = some o2 → o2.dst ≠ some d ∧ ((.tmp d) ∈ o2.op.operands → (i < j ∧ waits md ops ops.size j i = true) ∨ (j < i ∧ waits md ops ops.size i j = true))) ∧
      (.tmp d) ∉ o.op.operands ∧ ∀ e ∈ o.after, Region.binds md e = true → e.on < i := by
  unfold parOk at h
  simp only [Bool.and_eq_true] at h
  have h1 := List.all_eq_true.1 h.1.2 i (List.mem_range.2 hi)
  cases ho : ops[i]? with
  | none => simp [ho] at h1
  | some o =>
    simp only [ho, Bool.and_eq_true] at h1
    obtain ⟨⟨⟨⟨hg, hs⟩, hd⟩, hown⟩, haft⟩ := h1
    cases hdst : o.dst with
    | none => simp [hdst] at hd
    | some d =>
      simp only [hdst, Bool.and_eq_true] at hd
      refine ⟨o, d, rfl, by simpa using hg, ?_, ?_, hdst, of_decide_eq_true hd.1, ?_, ?_, ?_⟩
      · intro cs b e; simp [e] at hs
      · intro c e; simp [e] at hs
      · intro j o2 hj hne ho2
        have h2 := List.all_eq_true.1 hd.2 j (List.mem_range.2 hj)
        simp only [ho2, Bool.or_eq_true, beq_iff_eq, hne, false_or, Bool.and_eq_true, bne_iff_ne, ne_eq, decide_eq_true_eq, Bool.not_eq_true'] at h2
        refine ⟨h2.1, fun hm => ?_⟩
        rcases h2.2 with (h3 | h3) | h3
        · rw [Array.any_eq_false] at h3
          obtain ⟨n, hn, he⟩ := Array.mem_iff_getElem.1 hm
          have := h3 n hn
          rw [he] at this
          simp at this
        · exact .inl h3
        · exact .inr h3
      · intro hm
        rw [Array.all_eq_true] at hown
        obtain ⟨n, hn, he⟩ := Array.mem_iff_getElem.1 hm
        have := hown n hn
        rw [he] at this
        simp [hdst] at this
      · intro e he hb
        rw [Array.all_eq_true] at haft
        obtain ⟨n, hn, hee⟩ := Array.mem_iff_getElem.1 he
        have := haft n hn
        rw [hee] at this
        simpa [hb] using this
theorem parOk_tail {md : Region.Mode} {ops : Array Oper} {k size : Nat} (h : parOk md ops k size = true) {i j : Nat} (hi : i < k) (hj : j < ops.size) (hk : k ≤ j) : waits md ops ops.size j i = true := by
  unfold parOk at h
  simp only [Bool.and_eq_true] at h
  have h1 := List.all_eq_true.1 h.2 j (List.mem_range.2 hj)
  simp only [Bool.or_eq_true, decide_eq_true_eq] at h1
  rcases h1 with h1 | h1
  · omega
  · exact List.all_eq_true.1 h1 i (List.mem_range.2 hi)
theorem parOk_le {md : Region.Mode} {ops : Array Oper} {k size : Nat} (h : parOk md ops k size = true) : k ≤ ops.size := by
  unfold parOk at h
  simp only [Bool.and_eq_true] at h
  exact of_decide_eq_true h.1.1

/-- The frame where just the listed operations have come up. -/
structure Like (ops : Array Oper) (k : Nat) (val : Nat → Value) (l : Nat → Bool) (a0 a : Act) : Prop where
  d : a.defers = a0.defers
  s : a.tmps.size = a0.tmps.size
  o : ∀ i o d, i < k → ops[i]? = some o → o.dst = some d → a.tmps[d]? = if l i then some (val i) else a0.tmps[d]?
  r : ∀ t, (∀ i o, i < k → ops[i]? = some o → o.dst ≠ some t) → a.tmps[t]? = a0.tmps[t]?
section
variable {md : Region.Mode} {ops : Array Oper} {k : Nat} {a0 : Act}
theorem Like.put {val : Nat → Value} {l : Nat → Bool} {a : Act} (hp : parOk md ops k a0.tmps.size = true) (h : Like ops k val l a0 a) {i : Nat} (hi : i < k) {o : Oper} (ho : ops[i]? = some o) (v : Value) :
    Like ops k (fun j => if j = i then v else val j) (fun j => j == i || l j) a0 (a.put o.dst v) := by
  obtain ⟨o', d, ho', _, _, _, hd, hds, hall, _, _⟩ := parOk_op hp hi
  rw [ho] at ho'
  cases ho'
  rw [hd]
  refine ⟨h.d, by simp [Act.put, h.s], fun j o2 d2 hj ho2 hd2 => ?_, fun t ht => ?_⟩
  · by_cases hji : j = i
    · subst hji
      rw [ho] at ho2
      cases ho2
      rw [hd] at hd2
      cases hd2
      simp [Act.put, h.s, hds]
    · have hne := (hall j o2 hj hji ho2).1
      have hdd : d ≠ d2 := fun e => hne (by rw [hd2, e])
      have := h.o j o2 d2 hj ho2 hd2
      simp only [Act.put, Array.getElem?_setIfInBounds_ne hdd, this]
      simp [hji]
  · have hdt : d ≠ t := fun e => ht i o hi ho (by rw [hd, e])
    simp only [Act.put, Array.getElem?_setIfInBounds_ne hdt]
    exact h.r t ht
theorem like_putAll (hp : parOk md ops k a0.tmps.size = true) (val : Nat → Value) : ∀ m, m ≤ k → Like ops k val (fun j => decide (j < m)) a0 (putAll ops val a0 m)
  | 0, _ => ⟨rfl, rfl, fun _ _ _ _ _ _ => by simp [putAll], fun _ _ => rfl⟩
  | m + 1, hm => by
    obtain ⟨o, d, ho, _, _, _, hd, hds, _, _, _⟩ := parOk_op hp (show m < k by omega)
    have h := (like_putAll hp val m (by omega)).put hp (show m < k by omega) ho (val m)
    have e1 : (fun j => if j = m then val m else val j) = val := by
      funext j
      by_cases hj : j = m
      · rw [if_pos hj, hj]
      · rw [if_neg hj]
    have e2 : (fun j => j == m || decide (j < m)) = fun j => decide (j < m + 1) := by
      funext j
      rw [Bool.eq_iff_iff]
      simp
      omega
    rw [e1, e2] at h
    simpa [putAll, ho] using h
theorem Like.ext {val val' : Nat → Value} {l l' : Nat → Bool} {a a' : Act} (h : Like ops k val l a0 a) (h' : Like ops k val' l' a0 a') (he : ∀ i, i < k → l i = l' i ∧ (l i = true → val i = val' i)) : a = a' := by
  obtain ⟨T, D⟩ := a
  obtain ⟨T', D'⟩ := a'
  have hd : D = D' := h.d.trans h'.d.symm
  subst hd
  have ht : T = T' := by
    apply Array.ext_getElem?
    intro t
    by_cases hx : ∃ i o, i < k ∧ ops[i]? = some o ∧ o.dst = some t
    · obtain ⟨i, o, hi, ho, hd⟩ := hx
      have h1 := h.o i o t hi ho hd
      have h2 := h'.o i o t hi ho hd
      obtain ⟨e1, e2⟩ := he i hi
      rw [← e1] at h2
      cases hl : l i with
      | true => rw [hl] at h1 h2; simp only [if_true] at h1 h2; rw [e2 hl] at h1; exact h1.trans h2.symm
      | false => rw [hl] at h1 h2; simp only [Bool.false_eq_true, if_false] at h1 h2; exact h1.trans h2.symm
    · have hx' : ∀ i o, i < k → ops[i]? = some o → o.dst ≠ some t := fun i o hi ho hd => hx ⟨i, o, hi, ho, hd⟩
      exact (h.r t hx').trans (h'.r t hx').symm
  subst ht
  rfl
/-- What an operation that is ready looks at is as it is in the order of the text. -/
theorem Like.looks {val : Nat → Value} {listed : Array Bool} {a : Act} (hp : parOk md ops k a0.tmps.size = true) (hc : Closed md ops listed) (h : Like ops k val (fun j => listed.getD j false) a0 a) {i : Nat} (hi : i < k) {o : Oper} (ho : ops[i]? = some o)
    (hr : ∀ e ∈ o.after, Region.binds md e = true → listed.getD e.on false = true) (hn : listed.getD i false = false) : ∀ x ∈ o.op.operands, a.eval x = (putAll ops val a0 i).eval x := by
  intro x hx
  cases x with
  | tmp t =>
    have hb := like_putAll hp val i (by omega)
    show a.tmps.getD t undef = (putAll ops val a0 i).tmps.getD t undef
    rw [Array.getD_eq_getD_getElem?, Array.getD_eq_getD_getElem?]
    congr 1
    by_cases hx2 : ∃ j o2, j < k ∧ ops[j]? = some o2 ∧ o2.dst = some t
    · obtain ⟨j, o2, hj, ho2, hd⟩ := hx2
      have h1 := h.o j o2 t hj ho2 hd
      have h2 := hb.o j o2 t hj ho2 hd
      obtain ⟨o3, d3, ho3, _, _, _, hd3, _, hall, hself, _⟩ := parOk_op hp hj
      rw [ho2] at ho3
      cases ho3
      rw [hd] at hd3
      cases hd3
      by_cases hij : i = j
      · subst hij
        rw [ho] at ho2
        cases ho2
        exact absurd hx hself
      · rcases (hall i o hi hij ho).2 hx with ⟨h3, h4⟩ | ⟨h3, h4⟩
        · have hl := closed_waits hc _ _ _ ho hr h4
          rw [h1, h2, hl]
          simp [h3]
        · have hl : listed.getD j false = false := by
            cases hl : listed.getD j false with
            | false => rfl
            | true =>
              have := closed_waits hc _ _ _ ho2 (fun e he hb => hc j o2 hl ho2 e he hb) h4
              rw [hn] at this
              cases this
          rw [h1, h2, hl]
          simp [show ¬ j < i by omega]
    · have hx' : ∀ j o2, j < k → ops[j]? = some o2 → o2.dst ≠ some t := fun j o2 hj ho2 hd => hx2 ⟨j, o2, hj, ho2, hd⟩
      exact (h.r t hx').trans (hb.r t hx').symm
  | _ => rfl
end

section
variable {F : Fence} {n : Nat} {P : Program} {md : Region.Mode} {ops : Array Oper} {Q : Exit → Act → World → Prop}
/-- An operation that runs to its end in one frame does so in another one that it can't tell from that. -/
theorem op_moves {i : Nat} {o : Oper} {d : Tmp} {a b : Act} {w : World} {X : Value → World → Prop} {K : Act → World → Prop} (ho : ops[i]? = some o) (hg : o.guard = none) (hs : ∀ cs b, o.op ≠ .select cs b) (hdf : ∀ c, o.op ≠ .defer c)
    (hd : o.dst = some d) (hds : d < b.tmps.size) (he : ∀ x ∈ o.op.operands, a.eval x = b.eval x)
    (h : ∀ K : Act → World → Prop, (∀ v w', X v w' → K (b.put o.dst v) w') → wpOpIn F n P ops (fun _ _ _ => False) i K b w) (hk : ∀ v w', X v w' → K (a.put o.dst v) w') : wpOpIn F n P ops Q i K a w := by
  have h1 := h (fun a' w' => a'.defers = b.defers ∧ ∃ v, a'.tmps[d]? = some v ∧ X v w') (fun v w' hx => ⟨by rw [hd]; rfl, v, by rw [hd]; simp [Act.put, hds], hx⟩)
  have hv : ∀ v v' : Value, (b.put o.dst v).tmps[d]? = some v' → v = v' := fun v v' e => by
    rw [hd] at e
    simpa [Act.put, hds] using e
  unfold wpOpIn at *
  simp only [ho, Region.wanted, hg, if_true] at *
  unfold Oper.wpIn at *
  obtain ⟨ha, h1⟩ := h1
  refine ⟨by rw [about_congr o w he]; exact ha, ?_⟩
  rw [Oper.semAt_plain F _ _ hdf] at *
  rw [execOp_congr o hs he]
  have hx : ∀ (v : Value) (w' : World), (∃ v', (b.put o.dst v).tmps[d]? = some v' ∧ X v' w') → K (a.put o.dst v) w' := fun v w' ⟨v', e, x⟩ => by
    have := hv v v' e
    subst this
    exact hk _ _ x
  generalize (execOp b.eval o).run P w = r at *
  cases r with
  | ok x w' =>
    cases x with
    | value v => exact hx v w' h1.2
    | skip => exact hx undef w' h1.2
    | defer d2 =>
      exfalso
      have h2 := h1.1
      rw [hd] at h2
      have := congrArg List.length h2
      simp [Act.put] at this
    | enter f args =>
      refine ⟨h1.1, CallsIn.mono h1.2 (fun e w'' hh => ?_)⟩
      cases e with
      | returned v => exact hx v w'' hh.2
      | panicked c => exact hh.elim
      | outgrown => exact absurd hh (by unfold LetsOut; simp)
    | row r args => exact ⟨h1.1, RowsIn.mono h1.2 (fun v w'' hh => hx v w'' hh.2)⟩
    | round l f tmps assign body =>
      refine ⟨h1.1, RoundIn.mono h1.2 (fun e w'' hh => ?_)⟩
      cases e with
      | returned v => exact hx v w'' hh.2
      | panicked c => exact hh.elim
      | outgrown => exact absurd hh (by unfold LetsOut; simp)
    | _ => exact h1.elim
  | halt x w' => cases x <;> exact h1.elim

/-- How many of the first k have not come up. -/
def left (k : Nat) (listed : Array Bool) : Nat := (List.range k).countP fun i => !listed.getD i false
theorem countP_less {p q : Nat → Bool} {i : Nat} (hp : p i = true) (hq : q i = false) (he : ∀ j, j ≠ i → p j = q j) : ∀ l : List Nat, i ∈ l → l.Nodup → l.countP p = l.countP q + 1
  | [], h, _ => by cases h
  | x :: r, h, hn => by
    rw [List.nodup_cons] at hn
    by_cases hx : x = i
    · subst hx
      have hr : r.countP p = r.countP q := List.countP_congr fun j hj => by rw [he j (fun e => hn.1 (e ▸ hj))]
      rw [List.countP_cons_of_pos hp, List.countP_cons_of_neg (by simp [hq]), hr]
    · have hm : i ∈ r := by rcases List.mem_cons.1 h with h1 | h1; exact absurd h1.symm hx; exact h1
      have := countP_less hp hq he r hm hn.2
      rw [List.countP_cons, List.countP_cons, this, he x hx]
      omega
theorem left_set {k i : Nat} {listed : Array Bool} (hi : i < k) (hs : i < listed.size) (hl : listed.getD i false = false) : left k listed = left k (listed.setIfInBounds i true) + 1 := by
  unfold left
  refine countP_less (i := i) (by simp [hl]) ?_ ?_ _ (List.mem_range.2 hi) List.nodup_range
  · simp [Array.getD_eq_getD_getElem?, hs]
  · intro j hj
    simp [Array.getD_eq_getD_getElem?, Array.getElem?_setIfInBounds_ne (Ne.symm hj)]
theorem getD_set {i j : Nat} {listed : Array Bool} (hs : i < listed.size) : (listed.setIfInBounds i true).getD j false = (j == i || listed.getD j false) := by
  by_cases h : j = i
  · subst h; simp [Array.getD_eq_getD_getElem?, hs]
  · simp [Array.getD_eq_getD_getElem?, Array.getElem?_setIfInBounds_ne (Ne.symm h), h]
theorem left_zero {k : Nat} {listed : Array Bool} (h : left k listed = 0) : ∀ i, i < k → listed.getD i false = true := fun i hi => by
  have := List.countP_eq_zero.1 h i (List.mem_range.2 hi)
  simpa using this
theorem left_some {k : Nat} {listed : Array Bool} (h : left k listed ≠ 0) : ∃ i, i < k ∧ listed.getD i false = false ∧ ∀ j, j < i → listed.getD j false = true := by
  have hex : ∃ i, i < k ∧ listed.getD i false = false := by
    obtain ⟨i, hi, hp⟩ := List.countP_pos_iff.1 (Nat.pos_of_ne_zero h)
    exact ⟨i, List.mem_range.1 hi, by simpa using hp⟩
  obtain ⟨i0, hi0, hl0⟩ := hex
  have key : ∀ m, m < k → listed.getD m false = false → ∃ i, i < k ∧ listed.getD i false = false ∧ ∀ j, j < i → listed.getD j false = true := by
    intro m
    induction m using Nat.strongRecOn with
    | _ m ih =>
      intro hm hl
      by_cases hall : ∀ j, j < m → listed.getD j false = true
      · exact ⟨m, hm, hl, hall⟩
      · obtain ⟨j, hj⟩ := Classical.not_forall.1 hall
        obtain ⟨h1, h2⟩ := Classical.not_imp.1 hj
        exact ih j h1 (by omega) (by simpa using h2)
  exact key i0 hi0 hl0

/-- **The region, walked in the order of the text.** G: what may happen to the world between two operations; R i: what holds behind operation i, of the values and the world, and stays. -/
theorem wpAnyIn_par {k : Nat} {a0 : Act} {w0 : World} (G : World → World → Prop) (R : Nat → (Nat → Value) → World → Prop) (hp : parOk md ops k a0.tmps.size = true)
    (hG : ∀ a b c, G a b → G b c → G a c)
    (hR : ∀ i, i < k → ∀ val val' w w', (∀ j, j = i ∨ waits md ops ops.size i j = true → val j = val' j) → G w w' → R i val w → R i val' w')
    (hop : ∀ i, i < k → ∀ val w, G w0 w → (∀ j, j < k → waits md ops ops.size i j = true → R j val w) → ∀ K : Act → World → Prop, (∀ v w', G w w' → R i (fun j => if j = i then v else val j) w' → K ((putAll ops val a0 i).put ((ops[i]?).bind (·.dst)) v) w') → wpOpIn F n P ops (fun _ _ _ => False) i K (putAll ops val a0 i) w)
    (hend : ∀ val w listed, G w0 w → (∀ i, i < k → R i val w) → listed.size = ops.size → (∀ i, listed.getD i false = decide (i < k)) → wpAnyIn F n P md ops Q (ops.size - k) listed (putAll ops val a0 k) w) :
    ∀ (m : Nat) (listed : Array Bool) (val : Nat → Value) (a : Act) (w : World), left k listed + (ops.size - k) = m → G w0 w → listed.size = ops.size → (∀ i, k ≤ i → listed.getD i false = false) → Closed md ops listed →
      Like ops k val (fun j => listed.getD j false) a0 a → (∀ i, i < k → listed.getD i false = true → R i val w) → wpAnyIn F n P md ops Q m listed a w := by
  intro m
  have hkle := parOk_le hp
  induction m with
  | zero =>
    intro listed val a w hm hg hsz hhi hc hl hr
    have hall := left_zero (k := k) (listed := listed) (by omega)
    have hlist : ∀ i, listed.getD i false = decide (i < k) := fun i => by
      by_cases h : i < k
      · rw [hall i h]; simp [h]
      · rw [hhi i (by omega)]; simp [h]
    have ha : a = putAll ops val a0 k := hl.ext (like_putAll hp val k (Nat.le_refl _)) (fun i hi => ⟨hlist i, fun _ => rfl⟩)
    have := hend val w listed hg (fun i hi => hr i hi (hall i hi)) hsz hlist
    rw [show ops.size - k = 0 by omega] at this
    rw [ha]
    exact this
  | succ m ih =>
    intro listed val a w hm hg hsz hhi hc hl hr
    by_cases h0 : left k listed = 0
    · have hall := left_zero h0
      have hlist : ∀ i, listed.getD i false = decide (i < k) := fun i => by
        by_cases h : i < k
        · rw [hall i h]; simp [h]
        · rw [hhi i (by omega)]; simp [h]
      have ha : a = putAll ops val a0 k := hl.ext (like_putAll hp val k (Nat.le_refl _)) (fun i hi => ⟨hlist i, fun _ => rfl⟩)
      have := hend val w listed hg (fun i hi => hr i hi (hall i hi)) hsz hlist
      rw [show ops.size - k = m + 1 by omega] at this
      rw [ha]
      exact this
    · have hready : ∀ i, i ∈ Region.ready md ops listed ↔ listed.getD i true = false ∧ ∃ o, ops[i]? = some o ∧ ∀ e ∈ o.after, Region.binds md e = true → listed.getD e.on false = true := fun i => mem_ready
      refine ⟨fun hnil => ?_, fun i hi => ?_⟩
      · exfalso
        obtain ⟨i, hik, hlf, hlow⟩ := left_some h0
        obtain ⟨o, d, ho, _, _, _, _, _, _, _, haft⟩ := parOk_op hp hik
        have hm : i ∈ Region.ready md ops listed := (hready i).2 ⟨by
          rw [Array.getD_eq_getD_getElem?, Array.getElem?_eq_getElem (by omega)] at hlf ⊢
          exact hlf, o, ho, fun e he hb => hlow _ (haft e he hb)⟩
        rw [hnil] at hm
        cases hm
      · obtain ⟨hun, o, ho, hdeps⟩ := (hready i).1 hi
        have hisz : i < listed.size := by
          rcases Nat.lt_or_ge i listed.size with h | h
          · exact h
          · rw [Array.getD_eq_getD_getElem?, Array.getElem?_eq_none h] at hun
            cases hun
        have hlf : listed.getD i false = false := by
          rw [Array.getD_eq_getD_getElem?, Array.getElem?_eq_getElem hisz] at hun ⊢
          exact hun
        have hik : i < k := by
          rcases Nat.lt_or_ge i k with h | h
          · exact h
          · exfalso
            obtain ⟨j, hj, hjl, _⟩ := left_some h0
            have := closed_waits hc _ _ _ ho hdeps (parOk_tail hp hj (by omega) h)
            rw [hjl] at this
            cases this
        obtain ⟨o', d, ho', hgd, hs, hdf, hd, hds, hall, _, haft⟩ := parOk_op hp hik
        rw [ho] at ho'
        cases ho'
        have hb := like_putAll hp val i (by omega)
        refine op_moves (X := fun v w' => G w w' ∧ R i (fun j => if j = i then v else val j) w') ho hgd hs hdf hd (by rw [hb.s]; exact hds) (hl.looks hp hc hik ho hdeps hlf) (fun K hK => ?_) (fun v w' hx => ?_)
        · refine hop i hik val w hg (fun j hj hw => hr j hj (closed_waits hc _ _ _ ho hdeps hw)) K (fun v w' h1 h2 => ?_)
          have := hK v w' ⟨h1, h2⟩
          simpa [ho] using this
        · obtain ⟨hgw, hRi⟩ := hx
          have hl' := hl.put hp hik ho v
          refine ih (listed.setIfInBounds i true) (fun j => if j = i then v else val j) _ w' ?_ (hG _ _ _ hg hgw) (by simp [hsz]) ?_ ?_ ?_ ?_
          · have := left_set hik hisz hlf
            omega
          · intro j hj
            rw [getD_set hisz, hhi j hj]
            simp
            omega
          · intro j o2 hjl ho2 e he hbd
            rw [getD_set hisz] at hjl ⊢
            simp only [Bool.or_eq_true, beq_iff_eq] at hjl ⊢
            rcases hjl with rfl | hjl
            · rw [ho] at ho2
              cases ho2
              exact .inr (hdeps e he hbd)
            · exact .inr (hc j o2 hjl ho2 e he hbd)
          · have e : (fun j => (listed.setIfInBounds i true).getD j false) = fun j => j == i || listed.getD j false := funext fun j => getD_set hisz
            rw [e]
            exact hl'
          · intro j hj hjl
            rw [getD_set hisz] at hjl
            simp only [Bool.or_eq_true, beq_iff_eq] at hjl
            by_cases hji : j = i
            · subst hji
              exact hRi
            · have hjl2 : listed.getD j false = true := by rcases hjl with h | h; exact absurd h hji; exact h
              refine hR j hj val _ w w' (fun q hq => ?_) hgw (hr j hj hjl2)
              have hqi : q ≠ i := by
                rintro rfl
                rcases hq with h | h
                · exact hji h.symm
                · obtain ⟨o2, _, ho2, _⟩ := parOk_op hp hj
                  have := closed_waits hc _ _ _ ho2 (fun e he hbd => hc j o2 hjl2 ho2 e he hbd) h
                  rw [hlf] at this
                  cases this
              rw [if_neg hqi]

/-- The first k have come up. -/
def maskOf (k size : Nat) : Array Bool := ((List.range size).map fun i => decide (i < k)).toArray
theorem mask_eq {k size : Nat} {listed : Array Bool} (hk : k ≤ size) (hs : listed.size = size) (h : ∀ i, listed.getD i false = decide (i < k)) : listed = maskOf k size := by
  apply Array.ext
  · simp [maskOf, hs]
  · intro i h1 h2
    have := h i
    rw [Array.getD_eq_getD_getElem?, Array.getElem?_eq_getElem h1] at this
    simp only [Option.getD_some] at this
    rw [this]
    simp [maskOf]
theorem wpIn_region_par {k id : Nat} {a0 : Act} {w0 : World} (hm : P.follows .mixedOrders = true) (G : World → World → Prop) (R : Nat → (Nat → Value) → World → Prop) (hp : parOk .any ops k a0.tmps.size = true)
    (hrefl : G w0.drew w0.drew) (hG : ∀ a b c, G a b → G b c → G a c)
    (hR : ∀ i, i < k → ∀ val val' w w', (∀ j, j = i ∨ waits .any ops ops.size i j = true → val j = val' j) → G w w' → R i val w → R i val' w')
    (hop : ∀ i, i < k → ∀ val w, G w0.drew w → (∀ j, j < k → waits .any ops ops.size i j = true → R j val w) → ∀ K : Act → World → Prop, (∀ v w', G w w' → R i (fun j => if j = i then v else val j) w' → K ((putAll ops val a0 i).put ((ops[i]?).bind (·.dst)) v) w') → wpOpIn F n P ops (fun _ _ _ => False) i K (putAll ops val a0 i) w)
    (hend : ∀ val w, G w0.drew w → (∀ i, i < k → R i val w) → wpAnyIn F n P .any ops Q (ops.size - k) (maskOf k ops.size) (putAll ops val a0 k) w) :
    (Code.region id ops true).wpIn F n P Q a0 w0 := by
  have hkle := parOk_le hp
  refine wpIn_region_any hm ?_
  change wpAnyIn _ _ _ _ _ _ _ _ _ (World.drew _)
  have hgd : ∀ j, (Array.replicate ops.size false).getD j false = false := fun j => by
    rw [Array.getD_eq_getD_getElem?, Array.getElem?_replicate]
    split <;> rfl
  refine wpAnyIn_par G R hp hG hR hop (fun val w listed h1 h2 h3 h4 => ?_) ops.size (Array.replicate ops.size false) (fun _ => undef) a0 w0.drew ?_ hrefl (by simp) (fun i _ => hgd i) ?_ ?_ ?_
  · rw [mask_eq hkle h3 h4]
    exact hend val w h1 h2
  · have : left k (Array.replicate ops.size false) = k := by
      unfold left
      rw [List.countP_eq_length.2 (fun i _ => by rw [hgd i]; rfl), List.length_range]
    omega
  · intro i o hl
    rw [hgd i] at hl
    cases hl
  · exact ⟨rfl, rfl, fun i o d _ _ _ => by rw [hgd i]; rfl, fun _ _ => rfl⟩
  · intro i _ hl
    rw [hgd i] at hl
    cases hl

/-- The operations in the order of the text, each of which leaves the world as it is. -/
def quietWalk (F : Fence) (n : Nat) (P : Program) (w : World) : List Oper → Act → (Act → Prop) → Prop
  | [], a, K => K a
  | o :: rest, a, K => ∃ a', (∀ K : Act → World → Prop, K a' w → o.wpIn F n P a w K (fun _ _ _ => False)) ∧ (∃ v, a' = a.put o.dst v) ∧ quietWalk F n P w rest a' K
theorem quietWalk_nil {w : World} {a : Act} {K : Act → Prop} (h : K a) : quietWalk F n P w [] a K := h
theorem quietWalk_cons {w : World} {o : Oper} {rest : List Oper} {a a' : Act} {v : Value} {K : Act → Prop} (h1 : ∀ K : Act → World → Prop, K a' w → o.wpIn F n P a w K (fun _ _ _ => False)) (h2 : a' = a.put o.dst v) (h3 : quietWalk F n P w rest a' K) : quietWalk F n P w (o :: rest) a K := ⟨a', h1, ⟨v, h2⟩, h3⟩
theorem quiet_vals {w : World} {a0 : Act} {K : Act → Prop} : ∀ (m k : Nat) (val : Nat → Value), m + k ≤ ops.size → quietWalk F n P w ((ops.toList.drop k).take m) (putAll ops val a0 k) K →
    ∃ val' : Nat → Value, (∀ j, j < k → val' j = val j) ∧ (∀ i, k ≤ i → i < m + k → ∃ o, ops[i]? = some o ∧ ∀ K : Act → World → Prop, K ((putAll ops val' a0 i).put o.dst (val' i)) w → o.wpIn F n P (putAll ops val' a0 i) w K (fun _ _ _ => False)) ∧ K (putAll ops val' a0 (m + k))
  | 0, k, val, _, h => ⟨val, fun _ _ => rfl, fun i h1 h2 => absurd h2 (by omega), by simpa [quietWalk] using h⟩
  | m + 1, k, val, hk, h => by
    have hlt : k < ops.toList.length := by simp; omega
    rw [List.drop_eq_getElem_cons hlt, List.take_succ_cons] at h
    obtain ⟨a', hx, ⟨v, rfl⟩, hrest⟩ := h
    have hko : ops[k]? = some ops.toList[k] := by simp
    have hput : ∀ (q : Nat) (f g : Nat → Value), (∀ j, j < q → f j = g j) → putAll ops f a0 q = putAll ops g a0 q := by
      intro q
      induction q with
      | zero => intro f g _; rfl
      | succ q ih => intro f g hfg; rw [putAll, putAll, ih f g (fun j hj => hfg j (by omega)), hfg q (by omega)]
    have e1 : putAll ops (fun j => if j = k then v else val j) a0 (k + 1) = (putAll ops val a0 k).put ops.toList[k].dst v := by
      rw [putAll, hput k (fun j => if j = k then v else val j) val (fun j hj => if_neg (by omega)), hko]
      simp
    rw [← e1] at hrest
    obtain ⟨val', h1, h2, h3⟩ := quiet_vals m (k + 1) _ (by omega) hrest
    have hk1 : val' k = v := by rw [h1 k (by omega), if_pos rfl]
    have hlow : ∀ j, j < k → val' j = val j := fun j hj => by rw [h1 j (by omega), if_neg (by omega)]
    refine ⟨val', hlow, fun i hi hi2 => ?_, by rw [show m + 1 + k = m + (k + 1) by omega]; exact h3⟩
    by_cases hik : i = k
    · subst hik
      exact ⟨_, hko, by rw [hput i val' val hlow, hk1]; exact hx⟩
    · exact h2 i (by omega) (by omega)
/-- **A region whose first k operations leave the world as it is, in the order of the text.** -/
theorem wpIn_region_quietHead {k id : Nat} {a0 : Act} {w0 : World} (hm : P.follows .mixedOrders = true) (hp : parOk .any ops k a0.tmps.size = true)
    (h : quietWalk F n P w0.drew (ops.toList.take k) a0 fun aF => wpAnyIn F n P .any ops Q (ops.size - k) (maskOf k ops.size) aF w0.drew) : (Code.region id ops true).wpIn F n P Q a0 w0 := by
  obtain ⟨val, -, hval, hfin⟩ := quiet_vals (F := F) (n := n) (P := P) (ops := ops) (w := w0.drew) (a0 := a0) k 0 (fun _ => undef) (by have := parOk_le hp; omega) h
  refine wpIn_region_par hm (fun x y => y = x) (fun i v w => v i = val i) hp rfl (fun a b c h1 h2 => by rw [h2, h1]) (fun i hi v v' w w' he _ hr => by rw [← he i (.inl rfl)]; exact hr) (fun i hi v w hw hr K hK => ?_) (fun v w hw hr => ?_)
  · subst hw
    obtain ⟨o, ho, hx⟩ := hval i (by omega) (by omega)
    obtain ⟨o', d, ho', hgd, hs, hdf, hd, hds, hall, hself, haft⟩ := parOk_op hp hi
    rw [ho] at ho'
    cases ho'
    have hev : ∀ x ∈ o.op.operands, (putAll ops v a0 i).eval x = (putAll ops val a0 i).eval x := by
      intro x hxm
      cases x with
      | tmp t =>
        have hb1 := like_putAll hp v i (by omega)
        have hb2 := like_putAll hp val i (by omega)
        show (putAll ops v a0 i).tmps.getD t undef = (putAll ops val a0 i).tmps.getD t undef
        rw [Array.getD_eq_getD_getElem?, Array.getD_eq_getD_getElem?]
        congr 1
        by_cases hx2 : ∃ j o2, j < k ∧ ops[j]? = some o2 ∧ o2.dst = some t
        · obtain ⟨j, o2, hj, ho2, hd2⟩ := hx2
          have h1 := hb1.o j o2 t hj ho2 hd2
          have h2 := hb2.o j o2 t hj ho2 hd2
          obtain ⟨o3, d3, ho3, _, _, _, hd3, _, hall3, hself3, _⟩ := parOk_op hp hj
          rw [ho2] at ho3
          cases ho3
          rw [hd2] at hd3
          cases hd3
          by_cases hij : i = j
          · subst hij
            rw [ho] at ho2
            cases ho2
            exact absurd hxm hself3
          · rcases (hall3 i o hi hij ho).2 hxm with ⟨h3, h4⟩ | ⟨h3, h4⟩
            · rw [h1, h2]
              simp only [h3, decide_true, if_true]
              rw [hr j hj h4]
            · rw [h1, h2]
              simp [show ¬ j < i by omega]
        · have hx' : ∀ j o2, j < k → ops[j]? = some o2 → o2.dst ≠ some t := fun j o2 hj ho2 hd2 => hx2 ⟨j, o2, hj, ho2, hd2⟩
          exact (hb1.r t hx').trans (hb2.r t hx').symm
      | _ => rfl
    have hb2 := like_putAll hp val i (by omega)
    refine op_moves (X := fun v' w' => v' = val i ∧ w' = w0.drew) ho hgd hs hdf hd (by rw [hb2.s]; exact hds) hev (fun K' hK' => ?_) (fun v' w' hx' => ?_)
    · unfold wpOpIn
      simp only [ho, Region.wanted, hgd, if_true]
      exact hx K' (hK' _ _ ⟨rfl, rfl⟩)
    · obtain ⟨rfl, rfl⟩ := hx'
      have := hK (val i) w0.drew rfl (by simp)
      simpa [ho] using this
  · subst hw
    have hput : ∀ q, q ≤ k → putAll ops v a0 q = putAll ops val a0 q := by
      intro q
      induction q with
      | zero => intro _; rfl
      | succ q ih => intro hq; rw [putAll, putAll, ih (by omega), hr q (by omega)]
    rw [hput k (Nat.le_refl _)]
    exact hfin

/-- The operations in the order of the text: each yields one value, in whatever world that has only grown since the start, and lets it grow. -/
def growWalk (F : Fence) (n : Nat) (P : Program) (G : World → World → Prop) (w0 : World) : List Oper → Act → (Act → Prop) → Prop
  | [], a, K => K a
  | o :: rest, a, K => ∃ a', (∀ w, G w0 w → ∀ K : Act → World → Prop, (∀ w', G w w' → K a' w') → o.wpIn F n P a w K (fun _ _ _ => False)) ∧ (∃ v, a' = a.put o.dst v) ∧ growWalk F n P G w0 rest a' K
theorem growWalk_nil {G : World → World → Prop} {w : World} {a : Act} {K : Act → Prop} (h : K a) : growWalk F n P G w [] a K := h
theorem growWalk_cons {G : World → World → Prop} {w0 : World} {o : Oper} {rest : List Oper} {a a' : Act} {v : Value} {K : Act → Prop} (h1 : ∀ w, G w0 w → ∀ K : Act → World → Prop, (∀ w', G w w' → K a' w') → o.wpIn F n P a w K (fun _ _ _ => False)) (h2 : a' = a.put o.dst v) (h3 : growWalk F n P G w0 rest a' K) : growWalk F n P G w0 (o :: rest) a K := ⟨a', h1, ⟨v, h2⟩, h3⟩
theorem grow_vals {G : World → World → Prop} {w : World} {a0 : Act} {K : Act → Prop} : ∀ (m k : Nat) (val : Nat → Value), m + k ≤ ops.size → growWalk F n P G w ((ops.toList.drop k).take m) (putAll ops val a0 k) K →
    ∃ val' : Nat → Value, (∀ j, j < k → val' j = val j) ∧ (∀ i, k ≤ i → i < m + k → ∃ o, ops[i]? = some o ∧ ∀ w1, G w w1 → ∀ K : Act → World → Prop, (∀ w', G w1 w' → K ((putAll ops val' a0 i).put o.dst (val' i)) w') → o.wpIn F n P (putAll ops val' a0 i) w1 K (fun _ _ _ => False)) ∧ K (putAll ops val' a0 (m + k))
  | 0, k, val, _, h => ⟨val, fun _ _ => rfl, fun i h1 h2 => absurd h2 (by omega), by simpa [growWalk] using h⟩
  | m + 1, k, val, hk, h => by
    have hlt : k < ops.toList.length := by simp; omega
    rw [List.drop_eq_getElem_cons hlt, List.take_succ_cons] at h
    obtain ⟨a', hx, ⟨v, rfl⟩, hrest⟩ := h
    have hko : ops[k]? = some ops.toList[k] := by simp
    have hput : ∀ (q : Nat) (f g : Nat → Value), (∀ j, j < q → f j = g j) → putAll ops f a0 q = putAll ops g a0 q := by
      intro q
      induction q with
      | zero => intro f g _; rfl
      | succ q ih => intro f g hfg; rw [putAll, putAll, ih f g (fun j hj => hfg j (by omega)), hfg q (by omega)]
    have e1 : putAll ops (fun j => if j = k then v else val j) a0 (k + 1) = (putAll ops val a0 k).put ops.toList[k].dst v := by
      rw [putAll, hput k (fun j => if j = k then v else val j) val (fun j hj => if_neg (by omega)), hko]
      simp
    rw [← e1] at hrest
    obtain ⟨val', h1, h2, h3⟩ := grow_vals m (k + 1) _ (by omega) hrest
    have hk1 : val' k = v := by rw [h1 k (by omega), if_pos rfl]
    have hlow : ∀ j, j < k → val' j = val j := fun j hj => by rw [h1 j (by omega), if_neg (by omega)]
    refine ⟨val', hlow, fun i hi hi2 => ?_, by rw [show m + 1 + k = m + (k + 1) by omega]; exact h3⟩
    by_cases hik : i = k
    · subst hik
      exact ⟨_, hko, by rw [hput i val' val hlow, hk1]; exact hx⟩
    · exact h2 i (by omega) (by omega)
/-- **A region whose first k operations yield one value each, and let the world only grow, in the order of the text.** -/
theorem wpIn_region_growHead {k id : Nat} {a0 : Act} {w0 : World} (G : World → World → Prop) (hm : P.follows .mixedOrders = true) (hp : parOk .any ops k a0.tmps.size = true)
    (hrefl : G w0.drew w0.drew) (hG : ∀ a b c, G a b → G b c → G a c)
    (h : growWalk F n P G w0.drew (ops.toList.take k) a0 fun aF => ∀ w, G w0.drew w → wpAnyIn F n P .any ops Q (ops.size - k) (maskOf k ops.size) aF w) : (Code.region id ops true).wpIn F n P Q a0 w0 := by
  obtain ⟨val, -, hval, hfin⟩ := grow_vals (F := F) (n := n) (P := P) (ops := ops) (G := G) (w := w0.drew) (a0 := a0) k 0 (fun _ => undef) (by have := parOk_le hp; omega) h
  refine wpIn_region_par hm G (fun i v w => v i = val i) hp hrefl hG (fun i hi v v' w w' he _ hr => by rw [← he i (.inl rfl)]; exact hr) (fun i hi v w hw hr K hK => ?_) (fun v w hw hr => ?_)
  · obtain ⟨o, ho, hx⟩ := hval i (by omega) (by omega)
    obtain ⟨o', d, ho', hgd, hs, hdf, hd, hds, hall, hself, haft⟩ := parOk_op hp hi
    rw [ho] at ho'
    cases ho'
    have hev : ∀ x ∈ o.op.operands, (putAll ops v a0 i).eval x = (putAll ops val a0 i).eval x := by
      intro x hxm
      cases x with
      | tmp t =>
        have hb1 := like_putAll hp v i (by omega)
        have hb2 := like_putAll hp val i (by omega)
        show (putAll ops v a0 i).tmps.getD t undef = (putAll ops val a0 i).tmps.getD t undef
        rw [Array.getD_eq_getD_getElem?, Array.getD_eq_getD_getElem?]
        congr 1
        by_cases hx2 : ∃ j o2, j < k ∧ ops[j]? = some o2 ∧ o2.dst = some t
        · obtain ⟨j, o2, hj, ho2, hd2⟩ := hx2
          have h1 := hb1.o j o2 t hj ho2 hd2
          have h2 := hb2.o j o2 t hj ho2 hd2
          obtain ⟨o3, d3, ho3, _, _, _, hd3, _, hall3, hself3, _⟩ := parOk_op hp hj
          rw [ho2] at ho3
          cases ho3
          rw [hd2] at hd3
          cases hd3
          by_cases hij : i = j
          · subst hij
            rw [ho] at ho2
            cases ho2
            exact absurd hxm hself3
          · rcases (hall3 i o hi hij ho).2 hxm with ⟨h3, h4⟩ | ⟨h3, h4⟩
            · rw [h1, h2]
              simp only [h3, decide_true, if_true]
              rw [hr j hj h4]
            · rw [h1, h2]
              simp [show ¬ j < i by omega]
        · have hx' : ∀ j o2, j < k → ops[j]? = some o2 → o2.dst ≠ some t := fun j o2 hj ho2 hd2 => hx2 ⟨j, o2, hj, ho2, hd2⟩
          exact (hb1.r t hx').trans (hb2.r t hx').symm
      | _ => rfl
    have hb2 := like_putAll hp val i (by omega)
    refine op_moves (X := fun v' w' => v' = val i ∧ G w w') ho hgd hs hdf hd (by rw [hb2.s]; exact hds) hev (fun K' hK' => ?_) (fun v' w' hx' => ?_)
    · unfold wpOpIn
      simp only [ho, Region.wanted, hgd, if_true]
      exact hx w hw K' (fun w' hg => hK' _ _ ⟨rfl, hg⟩)
    · obtain ⟨rfl, hg⟩ := hx'
      have := hK (val i) w' hg (by simp)
      simpa [ho] using this
  · have hput : ∀ q, q ≤ k → putAll ops v a0 q = putAll ops val a0 q := by
      intro q
      induction q with
      | zero => intro _; rfl
      | succ q ih => intro hq; rw [putAll, putAll, ih (by omega), hr q (by omega)]
    rw [hput k (Nat.le_refl _)]
    exact hfin w hw

theorem putAll_congr {a0 : Act} : ∀ (q : Nat) (f g : Nat → Value), (∀ j, j < q → f j = g j) → putAll ops f a0 q = putAll ops g a0 q
  | 0, _, _, _ => rfl
  | q + 1, f, g, h => by rw [putAll, putAll, putAll_congr q f g (fun j hj => h j (by omega)), h q (by omega)]
/-- What an operation looks at hangs on the operations that it waits for alone. -/
theorem looks_same {k : Nat} {a0 : Act} (hp : parOk md ops k a0.tmps.size = true) {i : Nat} (hi : i < k) {o : Oper} (ho : ops[i]? = some o) {v val : Nat → Value} (hr : ∀ j, j < k → waits md ops ops.size i j = true → v j = val j) :
    ∀ x ∈ o.op.operands, (putAll ops v a0 i).eval x = (putAll ops val a0 i).eval x := by
  intro x hxm
  cases x with
  | tmp t =>
    have hb1 := like_putAll hp v i (by omega)
    have hb2 := like_putAll hp val i (by omega)
    show (putAll ops v a0 i).tmps.getD t undef = (putAll ops val a0 i).tmps.getD t undef
    rw [Array.getD_eq_getD_getElem?, Array.getD_eq_getD_getElem?]
    congr 1
    by_cases hx2 : ∃ j o2, j < k ∧ ops[j]? = some o2 ∧ o2.dst = some t
    · obtain ⟨j, o2, hj, ho2, hd2⟩ := hx2
      have h1 := hb1.o j o2 t hj ho2 hd2
      have h2 := hb2.o j o2 t hj ho2 hd2
      obtain ⟨o3, d3, ho3, _, _, _, hd3, _, hall3, hself3, _⟩ := parOk_op hp hj
      rw [ho2] at ho3
      cases ho3
      rw [hd2] at hd3
      cases hd3
      by_cases hij : i = j
      · subst hij
        rw [ho] at ho2
        cases ho2
        exact absurd hxm hself3
      · rcases (hall3 i o hi hij ho).2 hxm with ⟨h3, h4⟩ | ⟨h3, h4⟩
        · rw [h1, h2]
          simp only [h3, decide_true, if_true]
          rw [hr j hj h4]
        · rw [h1, h2]
          simp [show ¬ j < i by omega]
    · have hx' : ∀ j o2, j < k → ops[j]? = some o2 → o2.dst ≠ some t := fun j o2 hj ho2 hd2 => hx2 ⟨j, o2, hj, ho2, hd2⟩
      exact (hb1.r t hx').trans (hb2.r t hx').symm
  | _ => rfl
/-- **The same, and one operation behind them whose value hangs on the world (new memory): X says what holds of it, and stays.** -/
theorem wpIn_region_growMade {k id : Nat} {a0 : Act} {w0 : World} (G : World → World → Prop) (X : Value → World → Prop) {ok : Oper} (hk : ops[k]? = some ok) (hm : P.follows .mixedOrders = true) (hp : parOk .any ops (k + 1) a0.tmps.size = true)
    (hrefl : G w0.drew w0.drew) (hG : ∀ a b c, G a b → G b c → G a c) (hX : ∀ v w w', G w w' → X v w → X v w')
    (h : growWalk F n P G w0.drew (ops.toList.take k) a0 fun aF => (∀ w, G w0.drew w → ∀ K : Act → World → Prop, (∀ v w', G w w' → X v w' → K (aF.put ok.dst v) w') → ok.wpIn F n P aF w K (fun _ _ _ => False)) ∧
      ∀ v w, G w0.drew w → X v w → wpAnyIn F n P .any ops Q (ops.size - (k + 1)) (maskOf (k + 1) ops.size) (aF.put ok.dst v) w) : (Code.region id ops true).wpIn F n P Q a0 w0 := by
  obtain ⟨val, -, hval, hlast, hfin⟩ := grow_vals (F := F) (n := n) (P := P) (ops := ops) (G := G) (w := w0.drew) (a0 := a0) k 0 (fun _ => undef) (by have := parOk_le hp; omega) h
  rw [Nat.add_zero] at hlast hfin
  refine wpIn_region_par hm G (fun i v w => if i < k then v i = val i else X (v k) w) hp hrefl hG (fun i hi v v' w w' he hg hr => ?_) (fun i hi v w hw hr K hK => ?_) (fun v w hw hr => ?_)
  · split
    · rename_i h1
      rw [if_pos h1] at hr
      rw [← he i (.inl rfl)]; exact hr
    · rename_i h1
      rw [if_neg h1] at hr
      have : i = k := by omega
      rw [← he k (.inl this.symm)]
      exact hX _ _ _ hg hr
  · obtain ⟨o', d, ho', hgd, hs, hdf, hd, hds, hall, hself, haft⟩ := parOk_op hp hi
    have hb2 := like_putAll hp val i (by omega)
    have hrk : ∀ j, j < k + 1 → waits .any ops ops.size i j = true → j < k → v j = val j := fun j hj hw2 hjk => by
      have := hr j hj hw2
      rwa [if_pos hjk] at this
    by_cases hik : i < k
    · obtain ⟨o, ho, hx⟩ := hval i (by omega) (by omega)
      rw [ho'] at ho
      cases ho
      have hev : ∀ x ∈ o'.op.operands, (putAll ops v a0 i).eval x = (putAll ops (fun j => if j < k then val j else v j) a0 i).eval x := looks_same hp hi ho' (fun j hj hw2 => by
        split
        · rename_i hjk; exact hrk j hj hw2 hjk
        · rfl)
      have hpe : putAll ops (fun j => if j < k then val j else v j) a0 i = putAll ops val a0 i := putAll_congr i _ _ (fun j hj => by rw [if_pos (by omega)])
      rw [hpe] at hev
      refine op_moves (X := fun v' w' => v' = val i ∧ G w w') ho' hgd hs hdf hd (by rw [hb2.s]; exact hds) hev (fun K' hK' => ?_) (fun v' w' hx' => ?_)
      · unfold wpOpIn
        simp only [ho', Region.wanted, hgd, if_true]
        exact hx w hw K' (fun w' hg => hK' _ _ ⟨rfl, hg⟩)
      · obtain ⟨rfl, hg⟩ := hx'
        have := hK (val i) w' hg (by simp [hik])
        simpa [ho'] using this
    · have hike : i = k := by omega
      subst hike
      rw [hk] at ho'
      cases ho'
      have hev : ∀ x ∈ ok.op.operands, (putAll ops v a0 i).eval x = (putAll ops (fun j => if j < i then val j else v j) a0 i).eval x := looks_same hp hi hk (fun j hj hw2 => by
        split
        · rename_i hjk; exact hrk j hj hw2 hjk
        · rfl)
      have hpe : putAll ops (fun j => if j < i then val j else v j) a0 i = putAll ops val a0 i := putAll_congr i _ _ (fun j hj => by rw [if_pos (by omega)])
      rw [hpe] at hev
      refine op_moves (X := fun v' w' => G w w' ∧ X v' w') hk hgd hs hdf hd (by rw [hb2.s]; exact hds) hev (fun K' hK' => ?_) (fun v' w' hx' => ?_)
      · unfold wpOpIn
        simp only [hk, Region.wanted, hgd, if_true]
        exact hlast w hw K' (fun v' w' hg hx' => hK' _ _ ⟨hg, hx'⟩)
      · have := hK v' w' hx'.1 (by simp; exact hx'.2)
        simpa [hk] using this
  · have hpe : putAll ops v a0 (k + 1) = (putAll ops val a0 k).put ok.dst (v k) := by
      rw [putAll, putAll_congr k v val (fun j hj => by have := hr j (by omega); rwa [if_pos hj] at this), hk]
      rfl
    rw [hpe]
    have hxk := hr k (by omega)
    rw [if_neg (Nat.lt_irrefl k)] at hxk
    exact hfin (v k) w hw hxk

/-- The operations in the order of the text, each with a fact on its value that stays; an operation may use the facts of those that it waits for. -/
def factWalk (F : Fence) (n : Nat) (P : Program) (md : Region.Mode) (ops : Array Oper) (G : World → World → Prop) (w0 : World) (Xs : Nat → Value → World → Prop) : Nat → List Oper → (Nat → Value) → Act → ((Nat → Value) → Act → Prop) → Prop
  | _, [], val, a, K => K val a
  | i, o :: rest, val, a, K => (∀ w, G w0 w → (∀ j, j < i → waits md ops ops.size i j = true → Xs j (val j) w) → ∀ K' : Act → World → Prop, (∀ v w', G w w' → Xs i v w' → K' (a.put o.dst v) w') → o.wpIn F n P a w K' (fun _ _ _ => False)) ∧
      ∀ v, factWalk F n P md ops G w0 Xs (i + 1) rest (fun q => if q = i then v else val q) (a.put o.dst v) K
section
variable {G : World → World → Prop} {w0 : World} {Xs : Nat → Value → World → Prop}
theorem factWalk_nil {i : Nat} {val : Nat → Value} {a : Act} {K : (Nat → Value) → Act → Prop} (h : K val a) : factWalk F n P md ops G w0 Xs i [] val a K := h
theorem factWalk_cons {i : Nat} {o : Oper} {rest : List Oper} {val : Nat → Value} {a : Act} {K : (Nat → Value) → Act → Prop}
    (h1 : ∀ w, G w0 w → (∀ j, j < i → waits md ops ops.size i j = true → Xs j (val j) w) → ∀ K' : Act → World → Prop, (∀ v w', G w w' → Xs i v w' → K' (a.put o.dst v) w') → o.wpIn F n P a w K' (fun _ _ _ => False))
    (h3 : ∀ v, factWalk F n P md ops G w0 Xs (i + 1) rest (fun q => if q = i then v else val q) (a.put o.dst v) K) : factWalk F n P md ops G w0 Xs i (o :: rest) val a K := ⟨h1, h3⟩
theorem fact_vals {a0 : Act} {K : (Nat → Value) → Act → Prop} : ∀ (m k : Nat) (val val' : Nat → Value), m + k ≤ ops.size → (∀ j, j < k → val j = val' j) → factWalk F n P md ops G w0 Xs k ((ops.toList.drop k).take m) val (putAll ops val' a0 k) K →
    (∀ i, k ≤ i → i < m + k → ∃ o, ops[i]? = some o ∧ ∀ w, G w0 w → (∀ j, j < i → waits md ops ops.size i j = true → Xs j (val' j) w) → ∀ K' : Act → World → Prop, (∀ v w', G w w' → Xs i v w' → K' ((putAll ops val' a0 i).put o.dst v) w') → o.wpIn F n P (putAll ops val' a0 i) w K' (fun _ _ _ => False)) ∧
      ∃ valF, (∀ j, j < m + k → valF j = val' j) ∧ K valF (putAll ops val' a0 (m + k))
  | 0, k, val, val', _, he, h => ⟨fun i h1 h2 => absurd h2 (by omega), val, by simpa using he, by simpa [factWalk] using h⟩
  | m + 1, k, val, val', hk, he, h => by
    have hlt : k < ops.toList.length := by simp; omega
    rw [List.drop_eq_getElem_cons hlt, List.take_succ_cons] at h
    obtain ⟨hx, hrest⟩ := h
    have hko : ops[k]? = some ops.toList[k] := by simp
    have h2 := hrest (val' k)
    have e1 : putAll ops val' a0 (k + 1) = (putAll ops val' a0 k).put ops.toList[k].dst (val' k) := by
      rw [putAll, hko]
      rfl
    rw [← e1] at h2
    obtain ⟨h3, valF, h4, h5⟩ := fact_vals m (k + 1) _ val' (by omega) (fun j hj => by
      by_cases hjk : j = k
      · subst hjk; simp
      · rw [if_neg hjk]; exact he j (by omega)) h2
    refine ⟨fun i hi hi2 => ?_, valF, fun j hj => h4 j (by omega), by rw [show m + 1 + k = m + (k + 1) by omega]; exact h5⟩
    by_cases hik : i = k
    · subst hik
      exact ⟨_, hko, fun w hw hf K' hK' => hx w hw (fun j hj hwt => by rw [he j hj]; exact hf j hj hwt) K' hK'⟩
    · exact h3 i (by omega) (by omega)
end
/-- **A region in the order of the text, each operation with its fact.** -/
theorem wpIn_region_facts {k id : Nat} {a0 : Act} {w0 : World} (G : World → World → Prop) (Xs : Nat → Value → World → Prop) (hm : P.follows .mixedOrders = true) (hp : parOk .any ops k a0.tmps.size = true)
    (hrefl : G w0.drew w0.drew) (hG : ∀ a b c, G a b → G b c → G a c) (hX : ∀ i v w w', G w w' → Xs i v w → Xs i v w')
    (h : factWalk F n P .any ops G w0.drew Xs 0 (ops.toList.take k) (fun _ => undef) a0 fun val aF => ∀ w, G w0.drew w → (∀ i, i < k → Xs i (val i) w) → wpAnyIn F n P .any ops Q (ops.size - k) (maskOf k ops.size) aF w) : (Code.region id ops true).wpIn F n P Q a0 w0 := by
  have hle := parOk_le hp
  refine wpIn_region_par hm G (fun i v w => Xs i (v i) w) hp hrefl hG (fun i hi v v' w w' he hg hr => ?_) (fun i hi v w hw hr K hK => ?_) (fun v w hw hr => ?_)
  · rw [← he i (.inl rfl)]
    exact hX _ _ _ _ hg hr
  · obtain ⟨hs, -⟩ := fact_vals (a0 := a0) k 0 (fun _ => undef) v (by omega) (fun j hj => by omega) h
    obtain ⟨o, ho, hx⟩ := hs i (by omega) (by omega)
    obtain ⟨o', d, ho', hgd, hsl, hdf, hd, hds, hall, hself, haft⟩ := parOk_op hp hi
    rw [ho] at ho'
    cases ho'
    unfold wpOpIn
    simp only [ho, Region.wanted, hgd, if_true]
    refine hx w hw (fun j hj hwt => hr j (by omega) hwt) K (fun v' w' hg hx' => ?_)
    have := hK v' w' hg (by simpa using hx')
    simpa [ho] using this
  · obtain ⟨-, valF, hv, hK⟩ := fact_vals (a0 := a0) k 0 (fun _ => undef) v (by omega) (fun j hj => by omega) h
    exact hK w hw (fun i hi => by rw [hv i (by omega)]; exact hr i hi)
end
end Go.Proofs.YtimopkmlcjdgfaaDoor

/-
  A REGION IN THE ORDER OF THE TEXT, and what two of its operations know of each other, over whatever program. No program is named here.
-/
namespace Go.Proofs.YtimopkmlcjdgfaaDoor
set_option linter.unusedSimpArgs false
set_option linter.unusedVariables false
open Go Go.RowKit
section
variable {F : Fence} {n : Nat} {P : Program} {md : Region.Mode} {ops : Array Oper} {Q : Exit → Act → World → Prop}

/-- Of two operations the later one found the other one's fact. -/
def Met (G : World → World → Prop) (Xs Fp : Nat → Value → World → Prop) (w0 : World) (val : Nat → Value) (i j : Nat) : Prop :=
  (∃ W, G w0 W ∧ Fp i (val i) W ∧ Xs j (val j) W) ∨ (∃ W, G w0 W ∧ Fp j (val j) W ∧ Xs i (val i) W)
/-- **The same; Fp: what holds of a value in the world ahead of its operation.** -/
theorem wpAnyIn_par2 {k : Nat} {a0 : Act} {w0 : World} (G : World → World → Prop) (Xs Fp : Nat → Value → World → Prop) (hp : parOk md ops k a0.tmps.size = true)
    (hG : ∀ a b c, G a b → G b c → G a c)
    (hX : ∀ i v w w', G w w' → Xs i v w → Xs i v w')
    (hop : ∀ i, i < k → ∀ val w, G w0 w → (∀ j, j < k → waits md ops ops.size i j = true → Xs j (val j) w) → ∀ K : Act → World → Prop, (∀ v w', G w w' → Xs i v w' → Fp i v w → K ((putAll ops val a0 i).put ((ops[i]?).bind (·.dst)) v) w') → wpOpIn F n P ops (fun _ _ _ => False) i K (putAll ops val a0 i) w)
    (hend : ∀ val w listed, G w0 w → (∀ i, i < k → Xs i (val i) w) → (∀ i j, i < k → j < k → i ≠ j → Met G Xs Fp w0 val i j) → listed.size = ops.size → (∀ i, listed.getD i false = decide (i < k)) → wpAnyIn F n P md ops Q (ops.size - k) listed (putAll ops val a0 k) w) :
    ∀ (m : Nat) (listed : Array Bool) (val : Nat → Value) (a : Act) (w : World), left k listed + (ops.size - k) = m → G w0 w → listed.size = ops.size → (∀ i, k ≤ i → listed.getD i false = false) → Closed md ops listed →
      Like ops k val (fun j => listed.getD j false) a0 a → (∀ i, i < k → listed.getD i false = true → Xs i (val i) w) → (∀ i j, i < k → j < k → i ≠ j → listed.getD i false = true → listed.getD j false = true → Met G Xs Fp w0 val i j) → wpAnyIn F n P md ops Q m listed a w := by
  intro m
  have hkle := parOk_le hp
  induction m with
  | zero =>
    intro listed val a w hm hg hsz hhi hc hl hr hmt
    have hall := left_zero (k := k) (listed := listed) (by omega)
    have hlist : ∀ i, listed.getD i false = decide (i < k) := fun i => by
      by_cases h : i < k
      · rw [hall i h]; simp [h]
      · rw [hhi i (by omega)]; simp [h]
    have ha : a = putAll ops val a0 k := hl.ext (like_putAll hp val k (Nat.le_refl _)) (fun i hi => ⟨hlist i, fun _ => rfl⟩)
    have := hend val w listed hg (fun i hi => hr i hi (hall i hi)) (fun i j hi hj hij => hmt i j hi hj hij (hall i hi) (hall j hj)) hsz hlist
    rw [show ops.size - k = 0 by omega] at this
    rw [ha]
    exact this
  | succ m ih =>
    intro listed val a w hm hg hsz hhi hc hl hr hmt
    by_cases h0 : left k listed = 0
    · have hall := left_zero h0
      have hlist : ∀ i, listed.getD i false = decide (i < k) := fun i => by
        by_cases h : i < k
        · rw [hall i h]; simp [h]
        · rw [hhi i (by omega)]; simp [h]
      have ha : a = putAll ops val a0 k := hl.ext (like_putAll hp val k (Nat.le_refl _)) (fun i hi => ⟨hlist i, fun _ => rfl⟩)
      have := hend val w listed hg (fun i hi => hr i hi (hall i hi)) (fun i j hi hj hij => hmt i j hi hj hij (hall i hi) (hall j hj)) hsz hlist
      rw [show ops.size - k = m + 1 by omega] at this
      rw [ha]
      exact this
    · have hready : ∀ i, i ∈ Region.ready md ops listed ↔ listed.getD i true = false ∧ ∃ o, ops[i]? = some o ∧ ∀ e ∈ o.after, Region.binds md e = true → listed.getD e.on false = true := fun i => mem_ready
      refine ⟨fun hnil => ?_, fun i hi => ?_⟩
      · exfalso
        obtain ⟨i, hik, hlf, hlow⟩ := left_some h0
        obtain ⟨o, d, ho, _, _, _, _, _, _, _, haft⟩ := parOk_op hp hik
        have hm : i ∈ Region.ready md ops listed := (hready i).2 ⟨by
          rw [Array.getD_eq_getD_getElem?, Array.getElem?_eq_getElem (by omega)] at hlf ⊢
          exact hlf, o, ho, fun e he hb => hlow _ (haft e he hb)⟩
        rw [hnil] at hm
        cases hm
      · obtain ⟨hun, o, ho, hdeps⟩ := (hready i).1 hi
        have hisz : i < listed.size := by
          rcases Nat.lt_or_ge i listed.size with h | h
          · exact h
          · rw [Array.getD_eq_getD_getElem?, Array.getElem?_eq_none h] at hun
            cases hun
        have hlf : listed.getD i false = false := by
          rw [Array.getD_eq_getD_getElem?, Array.getElem?_eq_getElem hisz] at hun ⊢
          exact hun
        have hik : i < k := by
          rcases Nat.lt_or_ge i k with h | h
          · exact h
          · exfalso
            obtain ⟨j, hj, hjl, _⟩ := left_some h0
            have := closed_waits hc _ _ _ ho hdeps (parOk_tail hp hj (by omega) h)
            rw [hjl] at this
            cases this
        obtain ⟨o', d, ho', hgd, hs, hdf, hd, hds, hall, _, haft⟩ := parOk_op hp hik
        rw [ho] at ho'
        cases ho'
        have hb := like_putAll hp val i (by omega)
        refine op_moves (X := fun v w' => G w w' ∧ Xs i v w' ∧ Fp i v w) ho hgd hs hdf hd (by rw [hb.s]; exact hds) (hl.looks hp hc hik ho hdeps hlf) (fun K hK => ?_) (fun v w' hx => ?_)
        · refine hop i hik val w hg (fun j hj hw => hr j hj (closed_waits hc _ _ _ ho hdeps hw)) K (fun v w' h1 h2 h3 => ?_)
          have := hK v w' ⟨h1, h2, h3⟩
          simpa [ho] using this
        · obtain ⟨hgw, hRi, hFi⟩ := hx
          have hl' := hl.put hp hik ho v
          refine ih (listed.setIfInBounds i true) (fun j => if j = i then v else val j) _ w' ?_ (hG _ _ _ hg hgw) (by simp [hsz]) ?_ ?_ ?_ ?_ ?_
          · have := left_set hik hisz hlf
            omega
          · intro j hj
            rw [getD_set hisz, hhi j hj]
            simp
            omega
          · intro j o2 hjl ho2 e he hbd
            rw [getD_set hisz] at hjl ⊢
            simp only [Bool.or_eq_true, beq_iff_eq] at hjl ⊢
            rcases hjl with rfl | hjl
            · rw [ho] at ho2
              cases ho2
              exact .inr (hdeps e he hbd)
            · exact .inr (hc j o2 hjl ho2 e he hbd)
          · have e : (fun j => (listed.setIfInBounds i true).getD j false) = fun j => j == i || listed.getD j false := funext fun j => getD_set hisz
            rw [e]
            exact hl'
          · intro j hj hjl
            rw [getD_set hisz] at hjl
            simp only [Bool.or_eq_true, beq_iff_eq] at hjl
            by_cases hji : j = i
            · subst hji
              simpa using hRi
            · have hjl2 : listed.getD j false = true := by rcases hjl with h | h; exact absurd h hji; exact h
              simpa [hji] using hX j _ w w' hgw (hr j hj hjl2)
          · intro p q hp1 hq1 hpq hpl hql
            rw [getD_set hisz] at hpl hql
            simp only [Bool.or_eq_true, beq_iff_eq] at hpl hql
            by_cases hpi : p = i
            · subst hpi
              have hqi : q ≠ p := fun e => hpq e.symm
              have hql2 : listed.getD q false = true := by rcases hql with h | h; exact absurd h hqi; exact h
              exact .inl ⟨w, hg, by simpa using hFi, by simpa [hqi] using hr q hq1 hql2⟩
            · have hpl2 : listed.getD p false = true := by rcases hpl with h | h; exact absurd h hpi; exact h
              by_cases hqi : q = i
              · subst hqi
                exact .inr ⟨w, hg, by simpa using hFi, by simpa [hpi] using hr p hp1 hpl2⟩
              · have hql2 : listed.getD q false = true := by rcases hql with h | h; exact absurd h hqi; exact h
                have := hmt p q hp1 hq1 hpq hpl2 hql2
                simpa [Met, hpi, hqi] using this

/-- The operations in the order of the text, each with its fact, and what holds of its value in the world ahead of it. -/
def factWalk2 (F : Fence) (n : Nat) (P : Program) (md : Region.Mode) (ops : Array Oper) (G : World → World → Prop) (w0 : World) (Xs Fp : Nat → Value → World → Prop) : Nat → List Oper → (Nat → Value) → Act → ((Nat → Value) → Act → Prop) → Prop
  | _, [], val, a, K => K val a
  | i, o :: rest, val, a, K => (∀ w, G w0 w → (∀ j, j < i → waits md ops ops.size i j = true → Xs j (val j) w) → ∀ K' : Act → World → Prop, (∀ v w', G w w' → Xs i v w' → Fp i v w → K' (a.put o.dst v) w') → o.wpIn F n P a w K' (fun _ _ _ => False)) ∧
      ∀ v, factWalk2 F n P md ops G w0 Xs Fp (i + 1) rest (fun q => if q = i then v else val q) (a.put o.dst v) K
section
variable {G : World → World → Prop} {w0 : World} {Xs Fp : Nat → Value → World → Prop}
theorem factWalk2_nil {i : Nat} {val : Nat → Value} {a : Act} {K : (Nat → Value) → Act → Prop} (h : K val a) : factWalk2 F n P md ops G w0 Xs Fp i [] val a K := h
theorem factWalk2_cons {i : Nat} {o : Oper} {rest : List Oper} {val : Nat → Value} {a : Act} {K : (Nat → Value) → Act → Prop}
    (h1 : ∀ w, G w0 w → (∀ j, j < i → waits md ops ops.size i j = true → Xs j (val j) w) → ∀ K' : Act → World → Prop, (∀ v w', G w w' → Xs i v w' → Fp i v w → K' (a.put o.dst v) w') → o.wpIn F n P a w K' (fun _ _ _ => False))
    (h3 : ∀ v, factWalk2 F n P md ops G w0 Xs Fp (i + 1) rest (fun q => if q = i then v else val q) (a.put o.dst v) K) : factWalk2 F n P md ops G w0 Xs Fp i (o :: rest) val a K := ⟨h1, h3⟩
theorem fact_vals2 {a0 : Act} {K : (Nat → Value) → Act → Prop} : ∀ (m k : Nat) (val val' : Nat → Value), m + k ≤ ops.size → (∀ j, j < k → val j = val' j) → factWalk2 F n P md ops G w0 Xs Fp k ((ops.toList.drop k).take m) val (putAll ops val' a0 k) K →
    (∀ i, k ≤ i → i < m + k → ∃ o, ops[i]? = some o ∧ ∀ w, G w0 w → (∀ j, j < i → waits md ops ops.size i j = true → Xs j (val' j) w) → ∀ K' : Act → World → Prop, (∀ v w', G w w' → Xs i v w' → Fp i v w → K' ((putAll ops val' a0 i).put o.dst v) w') → o.wpIn F n P (putAll ops val' a0 i) w K' (fun _ _ _ => False)) ∧
      ∃ valF, (∀ j, j < m + k → valF j = val' j) ∧ K valF (putAll ops val' a0 (m + k))
  | 0, k, val, val', _, he, h => ⟨fun i h1 h2 => absurd h2 (by omega), val, by simpa using he, by simpa [factWalk2] using h⟩
  | m + 1, k, val, val', hk, he, h => by
    have hlt : k < ops.toList.length := by simp; omega
    rw [List.drop_eq_getElem_cons hlt, List.take_succ_cons] at h
    obtain ⟨hx, hrest⟩ := h
    have hko : ops[k]? = some ops.toList[k] := by simp
    have h2 := hrest (val' k)
    have e1 : putAll ops val' a0 (k + 1) = (putAll ops val' a0 k).put ops.toList[k].dst (val' k) := by
      rw [putAll, hko]
      rfl
    rw [← e1] at h2
    obtain ⟨h3, valF, h4, h5⟩ := fact_vals2 m (k + 1) _ val' (by omega) (fun j hj => by
      by_cases hjk : j = k
      · subst hjk; simp
      · rw [if_neg hjk]; exact he j (by omega)) h2
    refine ⟨fun i hi hi2 => ?_, valF, fun j hj => h4 j (by omega), by rw [show m + 1 + k = m + (k + 1) by omega]; exact h5⟩
    by_cases hik : i = k
    · subst hik
      exact ⟨_, hko, fun w hw hf K' hK' => hx w hw (fun j hj hwt => by rw [he j hj]; exact hf j hj hwt) K' hK'⟩
    · exact h3 i (by omega) (by omega)
end
/-- **A region in the order of the text, each operation with its fact; of two, the later one found the other one's.** -/
theorem wpIn_region_facts2 {k id : Nat} {a0 : Act} {w0 : World} (G : World → World → Prop) (Xs Fp : Nat → Value → World → Prop) (hm : P.follows .mixedOrders = true) (hp : parOk .any ops k a0.tmps.size = true)
    (hrefl : G w0.drew w0.drew) (hG : ∀ a b c, G a b → G b c → G a c) (hX : ∀ i v w w', G w w' → Xs i v w → Xs i v w')
    (h : factWalk2 F n P .any ops G w0.drew Xs Fp 0 (ops.toList.take k) (fun _ => undef) a0 fun val aF => ∀ w, G w0.drew w → (∀ i, i < k → Xs i (val i) w) → (∀ i j, i < k → j < k → i ≠ j → Met G Xs Fp w0.drew val i j) → wpAnyIn F n P .any ops Q (ops.size - k) (maskOf k ops.size) aF w) : (Code.region id ops true).wpIn F n P Q a0 w0 := by
  have hle := parOk_le hp
  refine wpIn_region_any hm ?_
  change wpAnyIn _ _ _ _ _ _ _ _ _ (World.drew _)
  have hgd : ∀ j, (Array.replicate ops.size false).getD j false = false := fun j => by
    rw [Array.getD_eq_getD_getElem?, Array.getElem?_replicate]
    split <;> rfl
  refine wpAnyIn_par2 G Xs Fp hp hG hX (fun i hi v w hw hr K hK => ?_) (fun v w listed hw hr hmt h3 h4 => ?_) ops.size (Array.replicate ops.size false) (fun _ => undef) a0 w0.drew ?_ hrefl (by simp) (fun i _ => hgd i) ?_ ?_ ?_ ?_
  · obtain ⟨hs, -⟩ := fact_vals2 (a0 := a0) k 0 (fun _ => undef) v (by omega) (fun j hj => by omega) h
    obtain ⟨o, ho, hx⟩ := hs i (by omega) (by omega)
    obtain ⟨o', d, ho', hgd, hsl, hdf, hd, hds, hall, hself, haft⟩ := parOk_op hp hi
    rw [ho] at ho'
    cases ho'
    unfold wpOpIn
    simp only [ho, Region.wanted, hgd, if_true]
    refine hx w hw (fun j hj hwt => hr j (by omega) hwt) K (fun v' w' hg hx' hf' => ?_)
    have := hK v' w' hg hx' hf'
    simpa [ho] using this
  · rw [mask_eq hle h3 h4]
    obtain ⟨-, valF, hv, hK⟩ := fact_vals2 (a0 := a0) k 0 (fun _ => undef) v (by omega) (fun j hj => by omega) h
    exact hK w hw (fun i hi => by rw [hv i (by omega)]; exact hr i hi) (fun i j hi hj hij => by
      have := hmt i j hi hj hij
      unfold Met at this ⊢
      rw [hv i (by omega), hv j (by omega)]
      exact this)
  · have : left k (Array.replicate ops.size false) = k := by
      unfold left
      rw [List.countP_eq_length.2 (fun i _ => by rw [hgd i]; rfl), List.length_range]
    omega
  · intro i o hl
    rw [hgd i] at hl
    cases hl
  · exact ⟨rfl, rfl, fun i o d _ _ _ => by rw [hgd i]; rfl, fun _ _ => rfl⟩
  · intro i _ hl
    rw [hgd i] at hl
    cases hl
  · intro i j _ _ _ hl
    rw [hgd i] at hl
    cases hl
end
end Go.Proofs.YtimopkmlcjdgfaaDoor

/-
  A REGION IN THE ORDER OF THE TEXT, GUARDED OPERATIONS TOO, over whatever program. No program is named here.
-/
namespace Go.Proofs.YtimopkmlcjdgfaaDoor
set_option linter.unusedSimpArgs false
set_option linter.unusedVariables false
open Go Go.RowKit
/-- The operations that each one waits for, at once or by others: a number's bits. -/
def msOk (md : Region.Mode) (ops : Array Oper) (ms : List Nat) : Bool :=
  (List.range ops.size).all fun i => match ops[i]? with
    | none => true
    | some o => (o.after.toList.all fun e => !Region.binds md e || decide (e.on < i)) && ms.getD i 0 == o.after.toList.foldl (fun m e => if Region.binds md e then (m ||| 2 ^ e.on) ||| ms.getD e.on 0 else m) 0
def Anc (ms : List Nat) (i j : Nat) : Bool := (ms.getD i 0).testBit j
theorem fold_bit {α : Type} (b : α → Bool) (f g : α → Nat) (j : Nat) : ∀ (l : List α) (m : Nat), (l.foldl (fun m e => if b e then (m ||| 2 ^ f e) ||| g e else m) m).testBit j = true → m.testBit j = true ∨ ∃ e ∈ l, b e = true ∧ (j = f e ∨ (g e).testBit j = true)
  | [], m, h => .inl h
  | x :: r, m, h => by
    rcases fold_bit b f g j r _ h with h1 | ⟨e, he, h2⟩
    · dsimp only at h1
      by_cases hb : b x = true
      · rw [if_pos hb, Nat.testBit_or, Nat.testBit_or, Nat.testBit_two_pow, Bool.or_eq_true, Bool.or_eq_true, decide_eq_true_eq] at h1
        rcases h1 with (h1 | h1) | h1
        · exact .inl h1
        · exact .inr ⟨x, by simp, hb, .inl h1.symm⟩
        · exact .inr ⟨x, by simp, hb, .inr h1⟩
      · rw [if_neg hb] at h1
        exact .inl h1
    · exact .inr ⟨e, by simp [he], h2⟩
theorem closed_anc {md : Region.Mode} {ops : Array Oper} {ms : List Nat} {listed : Array Bool} (hm : msOk md ops ms = true) (hc : Closed md ops listed) :
    ∀ {i j : Nat} {o : Oper}, ops[i]? = some o → (∀ e ∈ o.after, Region.binds md e = true → listed.getD e.on false = true) → Anc ms i j = true → listed.getD j false = true := by
  intro i
  induction i using Nat.strongRecOn with
  | _ i ih =>
    intro j o ho ha h
    have hi : i < ops.size := by
      rcases Nat.lt_or_ge i ops.size with h | h
      · exact h
      · rw [Array.getElem?_eq_none h] at ho
        cases ho
    have h1 := List.all_eq_true.1 hm i (List.mem_range.2 hi)
    simp only [ho, Bool.and_eq_true, beq_iff_eq] at h1
    obtain ⟨h2, h3⟩ := h1
    unfold Anc at h
    rw [h3] at h
    rcases fold_bit _ _ _ j _ _ h with h4 | ⟨e, he, hb, h5⟩
    · simp at h4
    · have hme : e ∈ o.after := by simpa using he
      have hl := ha e hme hb
      rcases h5 with h5 | h5
      · rw [h5]; exact hl
      · have hlt := List.all_eq_true.1 h2 e he
        simp only [hb, Bool.not_true, Bool.false_or, decide_eq_true_eq] at hlt
        cases ho2 : ops[e.on]? with
        | none =>
          rw [Array.getElem?_eq_none_iff] at ho2
          omega
        | some o2 => exact ih e.on hlt ho2 (fun e2 he2 hb2 => hc e.on o2 hl ho2 e2 he2 hb2) h5
/-- What is asked of the region, once: its first k operations have temporaries of their own; who looks at one of these waits for it; the others wait for all of these. -/
def parOg (md : Region.Mode) (ops : Array Oper) (ms : List Nat) (k size : Nat) : Bool :=
  (msOk md ops ms && decide (k ≤ ops.size)) &&
  ((List.range k).all fun i => match ops[i]? with
    | none => false
    | some o => (match o.guard with | none => true | some (j, _) => decide (j < i) && Anc ms i j) && (match o.op with | .select .. => false | .defer .. => false | _ => true) &&
      (match o.dst with
        | none => false
        | some d => decide (d < size) && (List.range k).all fun j => j == i || (match ops[j]? with
          | none => true
          | some o2 => o2.dst != some d && ((!o2.op.operands.any fun | .tmp t => t == d | _ => false) || (decide (i < j) && Anc ms j i) || (decide (j < i) && Anc ms i j)))) &&
      (o.op.operands.all fun | .tmp t => o.dst != some t | _ => true) &&
      o.after.all fun e => !Region.binds md e || decide (e.on < i)) &&
  ((List.range ops.size).all fun j => decide (j < k) || (List.range k).all fun i => Anc ms j i)

theorem parOg_op {md : Region.Mode} {ops : Array Oper} {ms : List Nat} {k size : Nat} (h : parOg md ops ms k size = true) {i : Nat} (hi : i < k) :
    ∃ o d, ops[i]? = some o ∧ (∀ j b, o.guard = some (j, b) → j < i ∧ Anc ms i j = true) ∧ (∀ cs b, o.op ≠ .select cs b) ∧ (∀ c, o.op ≠ .defer c) ∧ o.dst = some d ∧ d < size ∧
      (∀ j o2, j < k → j ≠ i → ops[j]? = some o2 → o2.dst ≠ some d ∧ ((.tmp d) ∈ o2.op.operands → (i < j ∧ Anc ms j i = true) ∨ (j < i ∧ Anc ms i j = true))) ∧
      (.tmp d) ∉ o.op.operands ∧ ∀ e ∈ o.after, Region.binds md e = true → e.on < i := by
  unfold parOg at h
  simp only [Bool.and_eq_true] at h
  have h1 := List.all_eq_true.1 h.1.2 i (List.mem_range.2 hi)
  cases ho : ops[i]? with
  | none => simp [ho] at h1
  | some o =>
    simp only [ho, Bool.and_eq_true] at h1
    obtain ⟨⟨⟨⟨hg, hs⟩, hd⟩, hown⟩, haft⟩ := h1
    cases hdst : o.dst with
    | none => simp [hdst] at hd
    | some d =>
      simp only [hdst, Bool.and_eq_true] at hd
      refine ⟨o, d, rfl, fun j b e => by simpa [e] using hg, ?_, ?_, hdst, of_decide_eq_true hd.1, ?_, ?_, ?_⟩
      · intro cs b e; simp [e] at hs
      · intro c e; simp [e] at hs
      · intro j o2 hj hne ho2
        have h2 := List.all_eq_true.1 hd.2 j (List.mem_range.2 hj)
        simp only [ho2, Bool.or_eq_true, beq_iff_eq, hne, false_or, Bool.and_eq_true, bne_iff_ne, ne_eq, decide_eq_true_eq, Bool.not_eq_true'] at h2
        refine ⟨h2.1, fun hm => ?_⟩
        rcases h2.2 with (h3 | h3) | h3
        · rw [Array.any_eq_false] at h3
          obtain ⟨n, hn, he⟩ := Array.mem_iff_getElem.1 hm
          have := h3 n hn
          rw [he] at this
          simp at this
        · exact .inl h3
        · exact .inr h3
      · intro hm
        rw [Array.all_eq_true] at hown
        obtain ⟨n, hn, he⟩ := Array.mem_iff_getElem.1 hm
        have := hown n hn
        rw [he] at this
        simp [hdst] at this
      · intro e he hb
        rw [Array.all_eq_true] at haft
        obtain ⟨n, hn, hee⟩ := Array.mem_iff_getElem.1 he
        have := haft n hn
        rw [hee] at this
        simpa [hb] using this
theorem parOg_ms {md : Region.Mode} {ops : Array Oper} {ms : List Nat} {k size : Nat} (h : parOg md ops ms k size = true) : msOk md ops ms = true := by
  unfold parOg at h
  simp only [Bool.and_eq_true] at h
  exact h.1.1.1
theorem parOg_tail {md : Region.Mode} {ops : Array Oper} {ms : List Nat} {k size : Nat} (h : parOg md ops ms k size = true) {i j : Nat} (hi : i < k) (hj : j < ops.size) (hk : k ≤ j) : Anc ms j i = true := by
  unfold parOg at h
  simp only [Bool.and_eq_true] at h
  have h1 := List.all_eq_true.1 h.2 j (List.mem_range.2 hj)
  simp only [Bool.or_eq_true, decide_eq_true_eq] at h1
  rcases h1 with h1 | h1
  · omega
  · exact List.all_eq_true.1 h1 i (List.mem_range.2 hi)
theorem parOg_le {md : Region.Mode} {ops : Array Oper} {ms : List Nat} {k size : Nat} (h : parOg md ops ms k size = true) : k ≤ ops.size := by
  unfold parOg at h
  simp only [Bool.and_eq_true] at h
  exact of_decide_eq_true h.1.1.2

/-- The frame where just the listed operations have come up. -/
structure Lyke (ops : Array Oper) (k : Nat) (val : Nat → Value) (l : Nat → Bool) (a0 a : Act) : Prop where
  d : a.defers = a0.defers
  s : a.tmps.size = a0.tmps.size
  o : ∀ i o d, i < k → ops[i]? = some o → o.dst = some d → a.tmps[d]? = if l i then some (val i) else a0.tmps[d]?
  r : ∀ t, (∀ i o, i < k → ops[i]? = some o → o.dst ≠ some t) → a.tmps[t]? = a0.tmps[t]?
section
variable {md : Region.Mode} {ops : Array Oper} {ms : List Nat} {k : Nat} {a0 : Act}
theorem Lyke.put {val : Nat → Value} {l : Nat → Bool} {a : Act} (hp : parOg md ops ms k a0.tmps.size = true) (h : Lyke ops k val l a0 a) {i : Nat} (hi : i < k) {o : Oper} (ho : ops[i]? = some o) (v : Value) :
    Lyke ops k (fun j => if j = i then v else val j) (fun j => j == i || l j) a0 (a.put o.dst v) := by
  obtain ⟨o', d, ho', _, _, _, hd, hds, hall, _, _⟩ := parOg_op hp hi
  rw [ho] at ho'
  cases ho'
  rw [hd]
  refine ⟨h.d, by simp [Act.put, h.s], fun j o2 d2 hj ho2 hd2 => ?_, fun t ht => ?_⟩
  · by_cases hji : j = i
    · subst hji
      rw [ho] at ho2
      cases ho2
      rw [hd] at hd2
      cases hd2
      simp [Act.put, h.s, hds]
    · have hne := (hall j o2 hj hji ho2).1
      have hdd : d ≠ d2 := fun e => hne (by rw [hd2, e])
      have := h.o j o2 d2 hj ho2 hd2
      simp only [Act.put, Array.getElem?_setIfInBounds_ne hdd, this]
      simp [hji]
  · have hdt : d ≠ t := fun e => ht i o hi ho (by rw [hd, e])
    simp only [Act.put, Array.getElem?_setIfInBounds_ne hdt]
    exact h.r t ht
theorem lyke_putAll (hp : parOg md ops ms k a0.tmps.size = true) (val : Nat → Value) : ∀ m, m ≤ k → Lyke ops k val (fun j => decide (j < m)) a0 (putAll ops val a0 m)
  | 0, _ => ⟨rfl, rfl, fun _ _ _ _ _ _ => by simp [putAll], fun _ _ => rfl⟩
  | m + 1, hm => by
    obtain ⟨o, d, ho, _, _, _, hd, hds, _, _, _⟩ := parOg_op hp (show m < k by omega)
    have h := (lyke_putAll hp val m (by omega)).put hp (show m < k by omega) ho (val m)
    have e1 : (fun j => if j = m then val m else val j) = val := by
      funext j
      by_cases hj : j = m
      · rw [if_pos hj, hj]
      · rw [if_neg hj]
    have e2 : (fun j => j == m || decide (j < m)) = fun j => decide (j < m + 1) := by
      funext j
      rw [Bool.eq_iff_iff]
      simp
      omega
    rw [e1, e2] at h
    simpa [putAll, ho] using h
theorem Lyke.ext {val val' : Nat → Value} {l l' : Nat → Bool} {a a' : Act} (h : Lyke ops k val l a0 a) (h' : Lyke ops k val' l' a0 a') (he : ∀ i, i < k → l i = l' i ∧ (l i = true → val i = val' i)) : a = a' := by
  obtain ⟨T, D⟩ := a
  obtain ⟨T', D'⟩ := a'
  have hd : D = D' := h.d.trans h'.d.symm
  subst hd
  have ht : T = T' := by
    apply Array.ext_getElem?
    intro t
    by_cases hx : ∃ i o, i < k ∧ ops[i]? = some o ∧ o.dst = some t
    · obtain ⟨i, o, hi, ho, hd⟩ := hx
      have h1 := h.o i o t hi ho hd
      have h2 := h'.o i o t hi ho hd
      obtain ⟨e1, e2⟩ := he i hi
      rw [← e1] at h2
      cases hl : l i with
      | true => rw [hl] at h1 h2; simp only [if_true] at h1 h2; rw [e2 hl] at h1; exact h1.trans h2.symm
      | false => rw [hl] at h1 h2; simp only [Bool.false_eq_true, if_false] at h1 h2; exact h1.trans h2.symm
    · have hx' : ∀ i o, i < k → ops[i]? = some o → o.dst ≠ some t := fun i o hi ho hd => hx ⟨i, o, hi, ho, hd⟩
      exact (h.r t hx').trans (h'.r t hx').symm
  subst ht
  rfl
/-- What an operation that is ready looks at is as it is in the order of the text. -/
theorem Lyke.looks {val : Nat → Value} {listed : Array Bool} {a : Act} (hp : parOg md ops ms k a0.tmps.size = true) (hc : Closed md ops listed) (h : Lyke ops k val (fun j => listed.getD j false) a0 a) {i : Nat} (hi : i < k) {o : Oper} (ho : ops[i]? = some o)
    (hr : ∀ e ∈ o.after, Region.binds md e = true → listed.getD e.on false = true) (hn : listed.getD i false = false) : ∀ x ∈ o.op.operands, a.eval x = (putAll ops val a0 i).eval x := by
  intro x hx
  cases x with
  | tmp t =>
    have hb := lyke_putAll hp val i (by omega)
    show a.tmps.getD t undef = (putAll ops val a0 i).tmps.getD t undef
    rw [Array.getD_eq_getD_getElem?, Array.getD_eq_getD_getElem?]
    congr 1
    by_cases hx2 : ∃ j o2, j < k ∧ ops[j]? = some o2 ∧ o2.dst = some t
    · obtain ⟨j, o2, hj, ho2, hd⟩ := hx2
      have h1 := h.o j o2 t hj ho2 hd
      have h2 := hb.o j o2 t hj ho2 hd
      obtain ⟨o3, d3, ho3, _, _, _, hd3, _, hall, hself, _⟩ := parOg_op hp hj
      rw [ho2] at ho3
      cases ho3
      rw [hd] at hd3
      cases hd3
      by_cases hij : i = j
      · subst hij
        rw [ho] at ho2
        cases ho2
        exact absurd hx hself
      · rcases (hall i o hi hij ho).2 hx with ⟨h3, h4⟩ | ⟨h3, h4⟩
        · have hl := closed_anc (parOg_ms hp) hc ho hr h4
          rw [h1, h2, hl]
          simp [h3]
        · have hl : listed.getD j false = false := by
            cases hl : listed.getD j false with
            | false => rfl
            | true =>
              have := closed_anc (parOg_ms hp) hc ho2 (fun e he hb => hc j o2 hl ho2 e he hb) h4
              rw [hn] at this
              cases this
          rw [h1, h2, hl]
          simp [show ¬ j < i by omega]
    · have hx' : ∀ j o2, j < k → ops[j]? = some o2 → o2.dst ≠ some t := fun j o2 hj ho2 hd => hx2 ⟨j, o2, hj, ho2, hd⟩
      exact (h.r t hx').trans (hb.r t hx').symm
  | _ => rfl
end

/-- Nor does it find its guard otherwise. -/
theorem Lyke.guards {md : Region.Mode} {ops : Array Oper} {ms : List Nat} {k : Nat} {a0 : Act} {val : Nat → Value} {listed : Array Bool} {a : Act} (hp : parOg md ops ms k a0.tmps.size = true) (hc : Closed md ops listed) (h : Lyke ops k val (fun j => listed.getD j false) a0 a) {i : Nat} (hi : i < k) {o : Oper} (ho : ops[i]? = some o)
    (hr : ∀ e ∈ o.after, Region.binds md e = true → listed.getD e.on false = true) (hg : ∀ j b, o.guard = some (j, b) → j < i ∧ Anc ms i j = true) : Region.wanted o (yielded ops a.tmps) = Region.wanted o (yielded ops (putAll ops val a0 i).tmps) := by
  unfold Region.wanted
  cases hgd : o.guard with
  | none => rfl
  | some x =>
    obtain ⟨j, b⟩ := x
    obtain ⟨h1, h2⟩ := hg j b hgd
    have hl := closed_anc (parOg_ms hp) hc ho hr h2
    obtain ⟨o2, d, ho2, _, _, _, hd, _⟩ := parOg_op hp (show j < k by omega)
    have e1 := h.o j o2 d (by omega) ho2 hd
    have e2 := (lyke_putAll hp val i (by omega)).o j o2 d (by omega) ho2 hd
    rw [hl] at e1
    have h1' : decide (j < i) = true := decide_eq_true h1
    rw [h1'] at e2
    simp only [yielded, ho2, Option.bind_some, hd, e1, e2]

section
variable {F : Fence} {n : Nat} {P : Program} {md : Region.Mode} {ops : Array Oper} {ms : List Nat} {Q : Exit → Act → World → Prop}
/-- An operation that runs to its end in one frame does so in another one that it can't tell from that. -/
theorem op_movesG {i : Nat} {o : Oper} {d : Tmp} {a b : Act} {w : World} {X : Value → World → Prop} {K : Act → World → Prop} (ho : ops[i]? = some o) (hg : Region.wanted o (yielded ops a.tmps) = Region.wanted o (yielded ops b.tmps)) (hs : ∀ cs b, o.op ≠ .select cs b) (hdf : ∀ c, o.op ≠ .defer c)
    (hd : o.dst = some d) (hds : d < b.tmps.size) (he : ∀ x ∈ o.op.operands, a.eval x = b.eval x)
    (h : ∀ K : Act → World → Prop, (∀ v w', X v w' → K (b.put o.dst v) w') → wpOpIn F n P ops (fun _ _ _ => False) i K b w) (hk : ∀ v w', X v w' → K (a.put o.dst v) w') : wpOpIn F n P ops Q i K a w := by
  have h1 := h (fun a' w' => a'.defers = b.defers ∧ ∃ v, a'.tmps[d]? = some v ∧ X v w') (fun v w' hx => ⟨by rw [hd]; rfl, v, by rw [hd]; simp [Act.put, hds], hx⟩)
  have hv : ∀ v v' : Value, (b.put o.dst v).tmps[d]? = some v' → v = v' := fun v v' e => by
    rw [hd] at e
    simpa [Act.put, hds] using e
  unfold wpOpIn at *
  simp only [ho, hg] at *
  by_cases hwt : Region.wanted o (yielded ops b.tmps) = true
  case neg =>
    rw [if_neg hwt] at h1 ⊢
    refine ⟨by rw [about_congr o w he]; exact h1.1, ?_⟩
    obtain ⟨_, v', e, x⟩ := h1.2
    have := hv undef v' e
    subst this
    exact hk _ _ x
  rw [if_pos hwt] at h1 ⊢
  unfold Oper.wpIn at *
  obtain ⟨ha, h1⟩ := h1
  refine ⟨by rw [about_congr o w he]; exact ha, ?_⟩
  rw [Oper.semAt_plain F _ _ hdf] at *
  rw [execOp_congr o hs he]
  have hx : ∀ (v : Value) (w' : World), (∃ v', (b.put o.dst v).tmps[d]? = some v' ∧ X v' w') → K (a.put o.dst v) w' := fun v w' ⟨v', e, x⟩ => by
    have := hv v v' e
    subst this
    exact hk _ _ x
  generalize (execOp b.eval o).run P w = r at *
  cases r with
  | ok x w' =>
    cases x with
    | value v => exact hx v w' h1.2
    | skip => exact hx undef w' h1.2
    | defer d2 =>
      exfalso
      have h2 := h1.1
      rw [hd] at h2
      have := congrArg List.length h2
      simp [Act.put] at this
    | enter f args =>
      refine ⟨h1.1, CallsIn.mono h1.2 (fun e w'' hh => ?_)⟩
      cases e with
      | returned v => exact hx v w'' hh.2
      | panicked c => exact hh.elim
      | outgrown => exact absurd hh (by unfold LetsOut; simp)
    | row r args => exact ⟨h1.1, RowsIn.mono h1.2 (fun v w'' hh => hx v w'' hh.2)⟩
    | round l f tmps assign body =>
      refine ⟨h1.1, RoundIn.mono h1.2 (fun e w'' hh => ?_)⟩
      cases e with
      | returned v => exact hx v w'' hh.2
      | panicked c => exact hh.elim
      | outgrown => exact absurd hh (by unfold LetsOut; simp)
    | _ => exact h1.elim
  | halt x w' => cases x <;> exact h1.elim

/-- **The same; Fp: what holds of a value in the world ahead of its operation.** -/
theorem wpAnyIn_parG {k : Nat} {a0 : Act} {w0 : World} (G : World → World → Prop) (Xs Fp : Nat → Value → World → Prop) (hp : parOg md ops ms k a0.tmps.size = true)
    (hG : ∀ a b c, G a b → G b c → G a c)
    (hX : ∀ i v w w', G w w' → Xs i v w → Xs i v w')
    (hop : ∀ i, i < k → ∀ val w, G w0 w → (∀ j, j < k → Anc ms i j = true → Xs j (val j) w) → ∀ K : Act → World → Prop, (∀ v w', G w w' → Xs i v w' → Fp i v w → K ((putAll ops val a0 i).put ((ops[i]?).bind (·.dst)) v) w') → wpOpIn F n P ops (fun _ _ _ => False) i K (putAll ops val a0 i) w)
    (hend : ∀ val w listed, G w0 w → (∀ i, i < k → Xs i (val i) w) → (∀ i j, i < k → j < k → i ≠ j → Met G Xs Fp w0 val i j) → listed.size = ops.size → (∀ i, listed.getD i false = decide (i < k)) → wpAnyIn F n P md ops Q (ops.size - k) listed (putAll ops val a0 k) w) :
    ∀ (m : Nat) (listed : Array Bool) (val : Nat → Value) (a : Act) (w : World), left k listed + (ops.size - k) = m → G w0 w → listed.size = ops.size → (∀ i, k ≤ i → listed.getD i false = false) → Closed md ops listed →
      Lyke ops k val (fun j => listed.getD j false) a0 a → (∀ i, i < k → listed.getD i false = true → Xs i (val i) w) → (∀ i j, i < k → j < k → i ≠ j → listed.getD i false = true → listed.getD j false = true → Met G Xs Fp w0 val i j) → wpAnyIn F n P md ops Q m listed a w := by
  intro m
  have hkle := parOg_le hp
  induction m with
  | zero =>
    intro listed val a w hm hg hsz hhi hc hl hr hmt
    have hall := left_zero (k := k) (listed := listed) (by omega)
    have hlist : ∀ i, listed.getD i false = decide (i < k) := fun i => by
      by_cases h : i < k
      · rw [hall i h]; simp [h]
      · rw [hhi i (by omega)]; simp [h]
    have ha : a = putAll ops val a0 k := hl.ext (lyke_putAll hp val k (Nat.le_refl _)) (fun i hi => ⟨hlist i, fun _ => rfl⟩)
    have := hend val w listed hg (fun i hi => hr i hi (hall i hi)) (fun i j hi hj hij => hmt i j hi hj hij (hall i hi) (hall j hj)) hsz hlist
    rw [show ops.size - k = 0 by omega] at this
    rw [ha]
    exact this
  | succ m ih =>
    intro listed val a w hm hg hsz hhi hc hl hr hmt
    by_cases h0 : left k listed = 0
    · have hall := left_zero h0
      have hlist : ∀ i, listed.getD i false = decide (i < k) := fun i => by
        by_cases h : i < k
        · rw [hall i h]; simp [h]
        · rw [hhi i (by omega)]; simp [h]
      have ha : a = putAll ops val a0 k := hl.ext (lyke_putAll hp val k (Nat.le_refl _)) (fun i hi => ⟨hlist i, fun _ => rfl⟩)
      have := hend val w listed hg (fun i hi => hr i hi (hall i hi)) (fun i j hi hj hij => hmt i j hi hj hij (hall i hi) (hall j hj)) hsz hlist
      rw [show ops.size - k = m + 1 by omega] at this
      rw [ha]
      exact this
    · have hready : ∀ i, i ∈ Region.ready md ops listed ↔ listed.getD i true = false ∧ ∃ o, ops[i]? = some o ∧ ∀ e ∈ o.after, Region.binds md e = true → listed.getD e.on false = true := fun i => mem_ready
      refine ⟨fun hnil => ?_, fun i hi => ?_⟩
      · exfalso
        obtain ⟨i, hik, hlf, hlow⟩ := left_some h0
        obtain ⟨o, d, ho, _, _, _, _, _, _, _, haft⟩ := parOg_op hp hik
        have hm : i ∈ Region.ready md ops listed := (hready i).2 ⟨by
          rw [Array.getD_eq_getD_getElem?, Array.getElem?_eq_getElem (by omega)] at hlf ⊢
          exact hlf, o, ho, fun e he hb => hlow _ (haft e he hb)⟩
        rw [hnil] at hm
        cases hm
      · obtain ⟨hun, o, ho, hdeps⟩ := (hready i).1 hi
        have hisz : i < listed.size := by
          rcases Nat.lt_or_ge i listed.size with h | h
          · exact h
          · rw [Array.getD_eq_getD_getElem?, Array.getElem?_eq_none h] at hun
            cases hun
        have hlf : listed.getD i false = false := by
          rw [Array.getD_eq_getD_getElem?, Array.getElem?_eq_getElem hisz] at hun ⊢
          exact hun
        have hik : i < k := by
          rcases Nat.lt_or_ge i k with h | h
          · exact h
          · exfalso
            obtain ⟨j, hj, hjl, _⟩ := left_some h0
            have := closed_anc (parOg_ms hp) hc ho hdeps (parOg_tail hp hj (by omega) h)
            rw [hjl] at this
            cases this
        obtain ⟨o', d, ho', hgd, hs, hdf, hd, hds, hall, _, haft⟩ := parOg_op hp hik
        rw [ho] at ho'
        cases ho'
        have hb := lyke_putAll hp val i (by omega)
        refine op_movesG (X := fun v w' => G w w' ∧ Xs i v w' ∧ Fp i v w) ho (hl.guards hp hc hik ho hdeps hgd) hs hdf hd (by rw [hb.s]; exact hds) (hl.looks hp hc hik ho hdeps hlf) (fun K hK => ?_) (fun v w' hx => ?_)
        · refine hop i hik val w hg (fun j hj hw => hr j hj (closed_anc (parOg_ms hp) hc ho hdeps hw)) K (fun v w' h1 h2 h3 => ?_)
          have := hK v w' ⟨h1, h2, h3⟩
          simpa [ho] using this
        · obtain ⟨hgw, hRi, hFi⟩ := hx
          have hl' := hl.put hp hik ho v
          refine ih (listed.setIfInBounds i true) (fun j => if j = i then v else val j) _ w' ?_ (hG _ _ _ hg hgw) (by simp [hsz]) ?_ ?_ ?_ ?_ ?_
          · have := left_set hik hisz hlf
            omega
          · intro j hj
            rw [getD_set hisz, hhi j hj]
            simp
            omega
          · intro j o2 hjl ho2 e he hbd
            rw [getD_set hisz] at hjl ⊢
            simp only [Bool.or_eq_true, beq_iff_eq] at hjl ⊢
            rcases hjl with rfl | hjl
            · rw [ho] at ho2
              cases ho2
              exact .inr (hdeps e he hbd)
            · exact .inr (hc j o2 hjl ho2 e he hbd)
          · have e : (fun j => (listed.setIfInBounds i true).getD j false) = fun j => j == i || listed.getD j false := funext fun j => getD_set hisz
            rw [e]
            exact hl'
          · intro j hj hjl
            rw [getD_set hisz] at hjl
            simp only [Bool.or_eq_true, beq_iff_eq] at hjl
            by_cases hji : j = i
            · subst hji
              simpa using hRi
            · have hjl2 : listed.getD j false = true := by rcases hjl with h | h; exact absurd h hji; exact h
              simpa [hji] using hX j _ w w' hgw (hr j hj hjl2)
          · intro p q hp1 hq1 hpq hpl hql
            rw [getD_set hisz] at hpl hql
            simp only [Bool.or_eq_true, beq_iff_eq] at hpl hql
            by_cases hpi : p = i
            · subst hpi
              have hqi : q ≠ p := fun e => hpq e.symm
              have hql2 : listed.getD q false = true := by rcases hql with h | h; exact absurd h hqi; exact h
              exact .inl ⟨w, hg, by simpa using hFi, by simpa [hqi] using hr q hq1 hql2⟩
            · have hpl2 : listed.getD p false = true := by rcases hpl with h | h; exact absurd h hpi; exact h
              by_cases hqi : q = i
              · subst hqi
                exact .inr ⟨w, hg, by simpa using hFi, by simpa [hpi] using hr p hp1 hpl2⟩
              · have hql2 : listed.getD q false = true := by rcases hql with h | h; exact absurd h hqi; exact h
                have := hmt p q hp1 hq1 hpq hpl2 hql2
                simpa [Met, hpi, hqi] using this

/-- The operations in the order of the text, each with its fact, and what holds of its value in the world ahead of it. -/
def factWalkG (F : Fence) (n : Nat) (P : Program) (ms : List Nat) (ops : Array Oper) (G : World → World → Prop) (w0 : World) (Xs Fp : Nat → Value → World → Prop) : Nat → List Oper → (Nat → Value) → Act → ((Nat → Value) → Act → Prop) → Prop
  | _, [], val, a, K => K val a
  | i, o :: rest, val, a, K => (∀ w, G w0 w → (∀ j, j < i → Anc ms i j = true → Xs j (val j) w) → ∀ K' : Act → World → Prop, (∀ v w', G w w' → Xs i v w' → Fp i v w → K' (a.put o.dst v) w') → if Region.wanted o (yielded ops a.tmps) then o.wpIn F n P a w K' (fun _ _ _ => False) else (∀ f, o.about P w a.eval = some f → F.fn f) ∧ K' (a.put o.dst undef) w) ∧
      ∀ v, factWalkG F n P ms ops G w0 Xs Fp (i + 1) rest (fun q => if q = i then v else val q) (a.put o.dst v) K
section
variable {G : World → World → Prop} {w0 : World} {Xs Fp : Nat → Value → World → Prop}
theorem factWalkG_nil {i : Nat} {val : Nat → Value} {a : Act} {K : (Nat → Value) → Act → Prop} (h : K val a) : factWalkG F n P ms ops G w0 Xs Fp i [] val a K := h
theorem factWalkG_cons {i : Nat} {o : Oper} {rest : List Oper} {val : Nat → Value} {a : Act} {K : (Nat → Value) → Act → Prop}
    (h1 : ∀ w, G w0 w → (∀ j, j < i → Anc ms i j = true → Xs j (val j) w) → ∀ K' : Act → World → Prop, (∀ v w', G w w' → Xs i v w' → Fp i v w → K' (a.put o.dst v) w') → Region.wanted o (yielded ops a.tmps) = true ∧ o.wpIn F n P a w K' (fun _ _ _ => False))
    (h3 : ∀ v, factWalkG F n P ms ops G w0 Xs Fp (i + 1) rest (fun q => if q = i then v else val q) (a.put o.dst v) K) : factWalkG F n P ms ops G w0 Xs Fp i (o :: rest) val a K := ⟨fun w hw hf K' hK' => by rw [if_pos (h1 w hw hf K' hK').1]; exact (h1 w hw hf K' hK').2, h3⟩
theorem fact_valsG {a0 : Act} {K : (Nat → Value) → Act → Prop} : ∀ (m k : Nat) (val val' : Nat → Value), m + k ≤ ops.size → (∀ j, j < k → val j = val' j) → factWalkG F n P ms ops G w0 Xs Fp k ((ops.toList.drop k).take m) val (putAll ops val' a0 k) K →
    (∀ i, k ≤ i → i < m + k → ∃ o, ops[i]? = some o ∧ ∀ w, G w0 w → (∀ j, j < i → Anc ms i j = true → Xs j (val' j) w) → ∀ K' : Act → World → Prop, (∀ v w', G w w' → Xs i v w' → Fp i v w → K' ((putAll ops val' a0 i).put o.dst v) w') → wpOpIn F n P ops (fun _ _ _ => False) i K' (putAll ops val' a0 i) w) ∧
      ∃ valF, (∀ j, j < m + k → valF j = val' j) ∧ K valF (putAll ops val' a0 (m + k))
  | 0, k, val, val', _, he, h => ⟨fun i h1 h2 => absurd h2 (by omega), val, by simpa using he, by simpa [factWalkG] using h⟩
  | m + 1, k, val, val', hk, he, h => by
    have hlt : k < ops.toList.length := by simp; omega
    rw [List.drop_eq_getElem_cons hlt, List.take_succ_cons] at h
    obtain ⟨hx, hrest⟩ := h
    have hko : ops[k]? = some ops.toList[k] := by simp
    have h2 := hrest (val' k)
    have e1 : putAll ops val' a0 (k + 1) = (putAll ops val' a0 k).put ops.toList[k].dst (val' k) := by
      rw [putAll, hko]
      rfl
    rw [← e1] at h2
    obtain ⟨h3, valF, h4, h5⟩ := fact_valsG m (k + 1) _ val' (by omega) (fun j hj => by
      by_cases hjk : j = k
      · subst hjk; simp
      · rw [if_neg hjk]; exact he j (by omega)) h2
    refine ⟨fun i hi hi2 => ?_, valF, fun j hj => h4 j (by omega), by rw [show m + 1 + k = m + (k + 1) by omega]; exact h5⟩
    by_cases hik : i = k
    · subst hik
      exact ⟨_, hko, fun w hw hf K' hK' => by unfold wpOpIn; simp only [hko]; exact hx w hw (fun j hj hwt => by rw [he j hj]; exact hf j hj hwt) K' hK'⟩
    · exact h3 i (by omega) (by omega)
end
/-- **A region in the order of the text, each operation with its fact; of two, the later one found the other one's.** -/
theorem wpIn_region_factsG {k id : Nat} {a0 : Act} {w0 : World} (G : World → World → Prop) (Xs Fp : Nat → Value → World → Prop) (hm : P.follows .mixedOrders = true) (hp : parOg .any ops ms k a0.tmps.size = true)
    (hrefl : G w0.drew w0.drew) (hG : ∀ a b c, G a b → G b c → G a c) (hX : ∀ i v w w', G w w' → Xs i v w → Xs i v w')
    (h : factWalkG F n P ms ops G w0.drew Xs Fp 0 (ops.toList.take k) (fun _ => undef) a0 fun val aF => ∀ w, G w0.drew w → (∀ i, i < k → Xs i (val i) w) → (∀ i j, i < k → j < k → i ≠ j → Met G Xs Fp w0.drew val i j) → wpAnyIn F n P .any ops Q (ops.size - k) (maskOf k ops.size) aF w) : (Code.region id ops true).wpIn F n P Q a0 w0 := by
  have hle := parOg_le hp
  refine wpIn_region_any hm ?_
  change wpAnyIn _ _ _ _ _ _ _ _ _ (World.drew _)
  have hgd : ∀ j, (Array.replicate ops.size false).getD j false = false := fun j => by
    rw [Array.getD_eq_getD_getElem?, Array.getElem?_replicate]
    split <;> rfl
  refine wpAnyIn_parG G Xs Fp hp hG hX (fun i hi v w hw hr K hK => ?_) (fun v w listed hw hr hmt h3 h4 => ?_) ops.size (Array.replicate ops.size false) (fun _ => undef) a0 w0.drew ?_ hrefl (by simp) (fun i _ => hgd i) ?_ ?_ ?_ ?_
  · obtain ⟨hs, -⟩ := fact_valsG (a0 := a0) k 0 (fun _ => undef) v (by omega) (fun j hj => by omega) h
    obtain ⟨o, ho, hx⟩ := hs i (by omega) (by omega)
    obtain ⟨o', d, ho', hgd, hsl, hdf, hd, hds, hall, hself, haft⟩ := parOg_op hp hi
    rw [ho] at ho'
    cases ho'
    refine hx w hw (fun j hj hwt => hr j (by omega) hwt) K (fun v' w' hg hx' hf' => ?_)
    have := hK v' w' hg hx' hf'
    simpa [ho] using this
  · rw [mask_eq hle h3 h4]
    obtain ⟨-, valF, hv, hK⟩ := fact_valsG (a0 := a0) k 0 (fun _ => undef) v (by omega) (fun j hj => by omega) h
    exact hK w hw (fun i hi => by rw [hv i (by omega)]; exact hr i hi) (fun i j hi hj hij => by
      have := hmt i j hi hj hij
      unfold Met at this ⊢
      rw [hv i (by omega), hv j (by omega)]
      exact this)
  · have : left k (Array.replicate ops.size false) = k := by
      unfold left
      rw [List.countP_eq_length.2 (fun i _ => by rw [hgd i]; rfl), List.length_range]
    omega
  · intro i o hl
    rw [hgd i] at hl
    cases hl
  · exact ⟨rfl, rfl, fun i o d _ _ _ => by rw [hgd i]; rfl, fun _ _ => rfl⟩
  · intro i _ hl
    rw [hgd i] at hl
    cases hl
  · intro i j _ _ _ hl
    rw [hgd i] at hl
    cases hl
end
end Go.Proofs.YtimopkmlcjdgfaaDoor

/-
  A REGION IN THE ORDER OF THE TEXT, stores too, over whatever program. No program is named here.
-/
namespace Go.Proofs.YtimopkmlcjdgfaaDoor
set_option linter.unusedSimpArgs false
set_option linter.unusedVariables false
open Go Go.RowKit
/-- What is asked of the region, once: its first k operations have temporaries of their own; who looks at one of these waits for it; the others wait for all of these. -/
def parOr (md : Region.Mode) (ops : Array Oper) (ms : List Nat) (k size : Nat) : Bool :=
  (msOk md ops ms && decide (k ≤ ops.size)) &&
  ((List.range k).all fun i => match ops[i]? with
    | none => false
    | some o => (match o.guard with | none => true | some (j, _) => decide (j < i) && Anc ms i j) && (match o.op with | .select .. => false | .defer .. => false | _ => true) &&
      (match o.dst with
        | none => true
        | some d => decide (d < size) && (List.range k).all fun j => j == i || (match ops[j]? with
          | none => true
          | some o2 => o2.dst != some d && ((!o2.op.operands.any fun | .tmp t => t == d | _ => false) || (decide (i < j) && Anc ms j i) || (decide (j < i) && Anc ms i j)))) &&
      (o.op.operands.all fun | .tmp t => o.dst != some t | _ => true) &&
      o.after.all fun e => !Region.binds md e || decide (e.on < i)) &&
  ((List.range ops.size).all fun j => decide (j < k) || (List.range k).all fun i => Anc ms j i)

theorem parOr_op {md : Region.Mode} {ops : Array Oper} {ms : List Nat} {k size : Nat} (h : parOr md ops ms k size = true) {i : Nat} (hi : i < k) :
    ∃ o, ops[i]? = some o ∧ (∀ j b, o.guard = some (j, b) → j < i ∧ Anc ms i j = true) ∧ (∀ cs b, o.op ≠ .select cs b) ∧ (∀ c, o.op ≠ .defer c) ∧ (∀ d, o.dst = some d → d < size ∧
      (∀ j o2, j < k → j ≠ i → ops[j]? = some o2 → o2.dst ≠ some d ∧ ((.tmp d) ∈ o2.op.operands → (i < j ∧ Anc ms j i = true) ∨ (j < i ∧ Anc ms i j = true))) ∧
      (.tmp d) ∉ o.op.operands) ∧ ∀ e ∈ o.after, Region.binds md e = true → e.on < i := by
  unfold parOr at h
  simp only [Bool.and_eq_true] at h
  have h1 := List.all_eq_true.1 h.1.2 i (List.mem_range.2 hi)
  cases ho : ops[i]? with
  | none => simp [ho] at h1
  | some o =>
    simp only [ho, Bool.and_eq_true] at h1
    obtain ⟨⟨⟨⟨hg, hs⟩, hd⟩, hown⟩, haft⟩ := h1
    refine ⟨o, rfl, fun j b e => by simpa [e] using hg, ?_, ?_, fun d hdst => ?_, ?_⟩
    · intro cs b e; simp [e] at hs
    · intro c e; simp [e] at hs
    · simp only [hdst, Bool.and_eq_true] at hd
      refine ⟨of_decide_eq_true hd.1, ?_, ?_⟩
      · intro j o2 hj hne ho2
        have h2 := List.all_eq_true.1 hd.2 j (List.mem_range.2 hj)
        simp only [ho2, Bool.or_eq_true, beq_iff_eq, hne, false_or, Bool.and_eq_true, bne_iff_ne, ne_eq, decide_eq_true_eq, Bool.not_eq_true'] at h2
        refine ⟨h2.1, fun hm => ?_⟩
        rcases h2.2 with (h3 | h3) | h3
        · rw [Array.any_eq_false] at h3
          obtain ⟨n, hn, he⟩ := Array.mem_iff_getElem.1 hm
          have := h3 n hn
          rw [he] at this
          simp at this
        · exact .inl h3
        · exact .inr h3
      · intro hm
        rw [Array.all_eq_true] at hown
        obtain ⟨n, hn, he⟩ := Array.mem_iff_getElem.1 hm
        have := hown n hn
        rw [he] at this
        simp [hdst] at this
    · intro e he hb
      rw [Array.all_eq_true] at haft
      obtain ⟨n, hn, hee⟩ := Array.mem_iff_getElem.1 he
      have := haft n hn
      rw [hee] at this
      simpa [hb] using this
theorem parOr_ms {md : Region.Mode} {ops : Array Oper} {ms : List Nat} {k size : Nat} (h : parOr md ops ms k size = true) : msOk md ops ms = true := by
  unfold parOr at h
  simp only [Bool.and_eq_true] at h
  exact h.1.1.1
theorem parOr_tail {md : Region.Mode} {ops : Array Oper} {ms : List Nat} {k size : Nat} (h : parOr md ops ms k size = true) {i j : Nat} (hi : i < k) (hj : j < ops.size) (hk : k ≤ j) : Anc ms j i = true := by
  unfold parOr at h
  simp only [Bool.and_eq_true] at h
  have h1 := List.all_eq_true.1 h.2 j (List.mem_range.2 hj)
  simp only [Bool.or_eq_true, decide_eq_true_eq] at h1
  rcases h1 with h1 | h1
  · omega
  · exact List.all_eq_true.1 h1 i (List.mem_range.2 hi)
theorem parOr_le {md : Region.Mode} {ops : Array Oper} {ms : List Nat} {k size : Nat} (h : parOr md ops ms k size = true) : k ≤ ops.size := by
  unfold parOr at h
  simp only [Bool.and_eq_true] at h
  exact of_decide_eq_true h.1.1.2

/-- The frame where just the listed operations have come up. -/
structure Lyko (ops : Array Oper) (k : Nat) (val : Nat → Value) (l : Nat → Bool) (a0 a : Act) : Prop where
  d : a.defers = a0.defers
  s : a.tmps.size = a0.tmps.size
  o : ∀ i o d, i < k → ops[i]? = some o → o.dst = some d → a.tmps[d]? = if l i then some (val i) else a0.tmps[d]?
  r : ∀ t, (∀ i o, i < k → ops[i]? = some o → o.dst ≠ some t) → a.tmps[t]? = a0.tmps[t]?
section
variable {md : Region.Mode} {ops : Array Oper} {ms : List Nat} {k : Nat} {a0 : Act}
theorem Lyko.put {val : Nat → Value} {l : Nat → Bool} {a : Act} (hp : parOr md ops ms k a0.tmps.size = true) (h : Lyko ops k val l a0 a) {i : Nat} (hi : i < k) {o : Oper} (ho : ops[i]? = some o) (v : Value) :
    Lyko ops k (fun j => if j = i then v else val j) (fun j => j == i || l j) a0 (a.put o.dst v) := by
  obtain ⟨o', ho', _, _, _, hdd, _⟩ := parOr_op hp hi
  rw [ho] at ho'
  cases ho'
  cases hd : o.dst with
  | none =>
    refine ⟨h.d, h.s, fun j o2 d2 hj ho2 hd2 => ?_, fun t ht => h.r t ht⟩
    have hji : j ≠ i := by
      rintro rfl
      rw [ho] at ho2
      cases ho2
      rw [hd] at hd2
      cases hd2
    have := h.o j o2 d2 hj ho2 hd2
    show a.tmps[d2]? = _
    rw [this]
    simp [hji]
  | some d =>
  obtain ⟨hds, hall, _⟩ := hdd d hd
  refine ⟨h.d, by simp [Act.put, h.s], fun j o2 d2 hj ho2 hd2 => ?_, fun t ht => ?_⟩
  · by_cases hji : j = i
    · subst hji
      rw [ho] at ho2
      cases ho2
      rw [hd] at hd2
      cases hd2
      simp [Act.put, h.s, hds]
    · have hne := (hall j o2 hj hji ho2).1
      have hdd : d ≠ d2 := fun e => hne (by rw [hd2, e])
      have := h.o j o2 d2 hj ho2 hd2
      simp only [Act.put, Array.getElem?_setIfInBounds_ne hdd, this]
      simp [hji]
  · have hdt : d ≠ t := fun e => ht i o hi ho (by rw [hd, e])
    simp only [Act.put, Array.getElem?_setIfInBounds_ne hdt]
    exact h.r t ht
theorem lyko_putAll (hp : parOr md ops ms k a0.tmps.size = true) (val : Nat → Value) : ∀ m, m ≤ k → Lyko ops k val (fun j => decide (j < m)) a0 (putAll ops val a0 m)
  | 0, _ => ⟨rfl, rfl, fun _ _ _ _ _ _ => by simp [putAll], fun _ _ => rfl⟩
  | m + 1, hm => by
    obtain ⟨o, ho, _⟩ := parOr_op hp (show m < k by omega)
    have h := (lyko_putAll hp val m (by omega)).put hp (show m < k by omega) ho (val m)
    have e1 : (fun j => if j = m then val m else val j) = val := by
      funext j
      by_cases hj : j = m
      · rw [if_pos hj, hj]
      · rw [if_neg hj]
    have e2 : (fun j => j == m || decide (j < m)) = fun j => decide (j < m + 1) := by
      funext j
      rw [Bool.eq_iff_iff]
      simp
      omega
    rw [e1, e2] at h
    simpa [putAll, ho] using h
theorem Lyko.ext {val val' : Nat → Value} {l l' : Nat → Bool} {a a' : Act} (h : Lyko ops k val l a0 a) (h' : Lyko ops k val' l' a0 a') (he : ∀ i, i < k → l i = l' i ∧ (l i = true → val i = val' i)) : a = a' := by
  obtain ⟨T, D⟩ := a
  obtain ⟨T', D'⟩ := a'
  have hd : D = D' := h.d.trans h'.d.symm
  subst hd
  have ht : T = T' := by
    apply Array.ext_getElem?
    intro t
    by_cases hx : ∃ i o, i < k ∧ ops[i]? = some o ∧ o.dst = some t
    · obtain ⟨i, o, hi, ho, hd⟩ := hx
      have h1 := h.o i o t hi ho hd
      have h2 := h'.o i o t hi ho hd
      obtain ⟨e1, e2⟩ := he i hi
      rw [← e1] at h2
      cases hl : l i with
      | true => rw [hl] at h1 h2; simp only [if_true] at h1 h2; rw [e2 hl] at h1; exact h1.trans h2.symm
      | false => rw [hl] at h1 h2; simp only [Bool.false_eq_true, if_false] at h1 h2; exact h1.trans h2.symm
    · have hx' : ∀ i o, i < k → ops[i]? = some o → o.dst ≠ some t := fun i o hi ho hd => hx ⟨i, o, hi, ho, hd⟩
      exact (h.r t hx').trans (h'.r t hx').symm
  subst ht
  rfl
/-- What an operation that is ready looks at is as it is in the order of the text. -/
theorem Lyko.looks {val : Nat → Value} {listed : Array Bool} {a : Act} (hp : parOr md ops ms k a0.tmps.size = true) (hc : Closed md ops listed) (h : Lyko ops k val (fun j => listed.getD j false) a0 a) {i : Nat} (hi : i < k) {o : Oper} (ho : ops[i]? = some o)
    (hr : ∀ e ∈ o.after, Region.binds md e = true → listed.getD e.on false = true) (hn : listed.getD i false = false) : ∀ x ∈ o.op.operands, a.eval x = (putAll ops val a0 i).eval x := by
  intro x hx
  cases x with
  | tmp t =>
    have hb := lyko_putAll hp val i (by omega)
    show a.tmps.getD t undef = (putAll ops val a0 i).tmps.getD t undef
    rw [Array.getD_eq_getD_getElem?, Array.getD_eq_getD_getElem?]
    congr 1
    by_cases hx2 : ∃ j o2, j < k ∧ ops[j]? = some o2 ∧ o2.dst = some t
    · obtain ⟨j, o2, hj, ho2, hd⟩ := hx2
      have h1 := h.o j o2 t hj ho2 hd
      have h2 := hb.o j o2 t hj ho2 hd
      obtain ⟨o3, ho3, _, _, _, hdd, _⟩ := parOr_op hp hj
      rw [ho2] at ho3
      cases ho3
      obtain ⟨_, hall, hself⟩ := hdd t hd
      by_cases hij : i = j
      · subst hij
        rw [ho] at ho2
        cases ho2
        exact absurd hx hself
      · rcases (hall i o hi hij ho).2 hx with ⟨h3, h4⟩ | ⟨h3, h4⟩
        · have hl := closed_anc (parOr_ms hp) hc ho hr h4
          rw [h1, h2, hl]
          simp [h3]
        · have hl : listed.getD j false = false := by
            cases hl : listed.getD j false with
            | false => rfl
            | true =>
              have := closed_anc (parOr_ms hp) hc ho2 (fun e he hb => hc j o2 hl ho2 e he hb) h4
              rw [hn] at this
              cases this
          rw [h1, h2, hl]
          simp [show ¬ j < i by omega]
    · have hx' : ∀ j o2, j < k → ops[j]? = some o2 → o2.dst ≠ some t := fun j o2 hj ho2 hd => hx2 ⟨j, o2, hj, ho2, hd⟩
      exact (h.r t hx').trans (hb.r t hx').symm
  | _ => rfl
end

/-- Nor does it find its guard otherwise. -/
theorem Lyko.guards {md : Region.Mode} {ops : Array Oper} {ms : List Nat} {k : Nat} {a0 : Act} {val : Nat → Value} {listed : Array Bool} {a : Act} (hp : parOr md ops ms k a0.tmps.size = true) (hc : Closed md ops listed) (h : Lyko ops k val (fun j => listed.getD j false) a0 a) {i : Nat} (hi : i < k) {o : Oper} (ho : ops[i]? = some o)
    (hr : ∀ e ∈ o.after, Region.binds md e = true → listed.getD e.on false = true) (hg : ∀ j b, o.guard = some (j, b) → j < i ∧ Anc ms i j = true) : Region.wanted o (yielded ops a.tmps) = Region.wanted o (yielded ops (putAll ops val a0 i).tmps) := by
  unfold Region.wanted
  cases hgd : o.guard with
  | none => rfl
  | some x =>
    obtain ⟨j, b⟩ := x
    obtain ⟨h1, h2⟩ := hg j b hgd
    have hl := closed_anc (parOr_ms hp) hc ho hr h2
    obtain ⟨o2, ho2, _⟩ := parOr_op hp (show j < k by omega)
    cases hd : o2.dst with
    | none => simp only [yielded, ho2, Option.bind_some, hd, Option.bind_none]
    | some d =>
    have e1 := h.o j o2 d (by omega) ho2 hd
    have e2 := (lyko_putAll hp val i (by omega)).o j o2 d (by omega) ho2 hd
    rw [hl] at e1
    have h1' : decide (j < i) = true := decide_eq_true h1
    rw [h1'] at e2
    simp only [yielded, ho2, Option.bind_some, hd, e1, e2]

section
variable {F : Fence} {n : Nat} {P : Program} {md : Region.Mode} {ops : Array Oper} {ms : List Nat} {Q : Exit → Act → World → Prop}
/-- An operation that runs to its end in one frame does so in another one that it can't tell from that. -/
theorem put_defers (a : Act) (d : Option Tmp) (v : Value) : (a.put d v).defers = a.defers := by cases d <;> rfl
theorem op_movesR {i : Nat} {o : Oper} {a b : Act} {w : World} {X : Value → World → Prop} {K : Act → World → Prop} (ho : ops[i]? = some o) (hg : Region.wanted o (yielded ops a.tmps) = Region.wanted o (yielded ops b.tmps)) (hs : ∀ cs b, o.op ≠ .select cs b) (hdf : ∀ c, o.op ≠ .defer c)
    (hd : ∀ d, o.dst = some d → d < b.tmps.size) (he : ∀ x ∈ o.op.operands, a.eval x = b.eval x)
    (h : ∀ K : Act → World → Prop, (∀ v w', X v w' → K (b.put o.dst v) w') → wpOpIn F n P ops (fun _ _ _ => False) i K b w) (hk : ∀ v w', X v w' → K (a.put o.dst v) w') : wpOpIn F n P ops Q i K a w := by
  obtain ⟨Y, hY1, hY2⟩ : ∃ Y : Act → World → Prop, (∀ v w', X v w' → Y (b.put o.dst v) w') ∧ ∀ v w', Y (b.put o.dst v) w' → K (a.put o.dst v) w' := by
    cases hdst : o.dst with
    | none =>
      rw [hdst] at hk
      exact ⟨fun _ w' => ∃ v, X v w', fun v w' hx => ⟨v, hx⟩, fun v w' ⟨v', hx⟩ => hk v' w' hx⟩
    | some d =>
      have hds := hd d hdst
      rw [hdst] at hk
      refine ⟨fun a' w' => ∃ v, a'.tmps[d]? = some v ∧ X v w', fun v w' hx => ⟨v, by simp [Act.put, hds], hx⟩, fun v w' ⟨v', e, hx⟩ => ?_⟩
      have : v = v' := by simpa [Act.put, hds] using e
      subst this
      exact hk _ _ hx
  have h1 := h (fun a' w' => a'.defers = b.defers ∧ Y a' w') (fun v w' hx => ⟨put_defers _ _ _, hY1 v w' hx⟩)
  unfold wpOpIn at *
  simp only [ho, hg] at *
  by_cases hwt : Region.wanted o (yielded ops b.tmps) = true
  case neg =>
    rw [if_neg hwt] at h1 ⊢
    exact ⟨by rw [about_congr o w he]; exact h1.1, hY2 _ _ h1.2.2⟩
  rw [if_pos hwt] at h1 ⊢
  unfold Oper.wpIn at *
  obtain ⟨ha, h1⟩ := h1
  refine ⟨by rw [about_congr o w he]; exact ha, ?_⟩
  rw [Oper.semAt_plain F _ _ hdf] at *
  rw [execOp_congr o hs he]
  have hx : ∀ (v : Value) (w' : World), Y (b.put o.dst v) w' → K (a.put o.dst v) w' := hY2
  generalize (execOp b.eval o).run P w = r at *
  cases r with
  | ok x w' =>
    cases x with
    | value v => exact hx v w' h1.2
    | skip => exact hx undef w' h1.2
    | defer d2 =>
      exfalso
      have h2 := h1.1
      rw [put_defers] at h2
      have := congrArg List.length h2
      simp at this
    | enter f args =>
      refine ⟨h1.1, CallsIn.mono h1.2 (fun e w'' hh => ?_)⟩
      cases e with
      | returned v => exact hx v w'' hh.2
      | panicked c => exact hh.elim
      | outgrown => exact absurd hh (by unfold LetsOut; simp)
    | row r args => exact ⟨h1.1, RowsIn.mono h1.2 (fun v w'' hh => hx v w'' hh.2)⟩
    | round l f tmps assign body =>
      refine ⟨h1.1, RoundIn.mono h1.2 (fun e w'' hh => ?_)⟩
      cases e with
      | returned v => exact hx v w'' hh.2
      | panicked c => exact hh.elim
      | outgrown => exact absurd hh (by unfold LetsOut; simp)
    | _ => exact h1.elim
  | halt x w' => cases x <;> exact h1.elim

theorem wpAnyIn_parR {k : Nat} {a0 : Act} {w0 : World} (G : World → World → Prop) (R : Nat → (Nat → Value) → World → Prop) (hp : parOr md ops ms k a0.tmps.size = true)
    (hG : ∀ a b c, G a b → G b c → G a c)
    (hR : ∀ i, i < k → ∀ val val' w w', (∀ j, j = i ∨ Anc ms i j = true → val j = val' j) → G w w' → R i val w → R i val' w')
    (hop : ∀ i, i < k → ∀ val w, G w0 w → (∀ j, j < k → Anc ms i j = true → R j val w) → ∀ K : Act → World → Prop, (∀ v w', G w w' → R i (fun j => if j = i then v else val j) w' → K ((putAll ops val a0 i).put ((ops[i]?).bind (·.dst)) v) w') → wpOpIn F n P ops (fun _ _ _ => False) i K (putAll ops val a0 i) w)
    (hend : ∀ val w listed, G w0 w → (∀ i, i < k → R i val w) → listed.size = ops.size → (∀ i, listed.getD i false = decide (i < k)) → wpAnyIn F n P md ops Q (ops.size - k) listed (putAll ops val a0 k) w) :
    ∀ (m : Nat) (listed : Array Bool) (val : Nat → Value) (a : Act) (w : World), left k listed + (ops.size - k) = m → G w0 w → listed.size = ops.size → (∀ i, k ≤ i → listed.getD i false = false) → Closed md ops listed →
      Lyko ops k val (fun j => listed.getD j false) a0 a → (∀ i, i < k → listed.getD i false = true → R i val w) → wpAnyIn F n P md ops Q m listed a w := by
  intro m
  have hkle := parOr_le hp
  induction m with
  | zero =>
    intro listed val a w hm hg hsz hhi hc hl hr
    have hall := left_zero (k := k) (listed := listed) (by omega)
    have hlist : ∀ i, listed.getD i false = decide (i < k) := fun i => by
      by_cases h : i < k
      · rw [hall i h]; simp [h]
      · rw [hhi i (by omega)]; simp [h]
    have ha : a = putAll ops val a0 k := hl.ext (lyko_putAll hp val k (Nat.le_refl _)) (fun i hi => ⟨hlist i, fun _ => rfl⟩)
    have := hend val w listed hg (fun i hi => hr i hi (hall i hi)) hsz hlist
    rw [show ops.size - k = 0 by omega] at this
    rw [ha]
    exact this
  | succ m ih =>
    intro listed val a w hm hg hsz hhi hc hl hr
    by_cases h0 : left k listed = 0
    · have hall := left_zero h0
      have hlist : ∀ i, listed.getD i false = decide (i < k) := fun i => by
        by_cases h : i < k
        · rw [hall i h]; simp [h]
        · rw [hhi i (by omega)]; simp [h]
      have ha : a = putAll ops val a0 k := hl.ext (lyko_putAll hp val k (Nat.le_refl _)) (fun i hi => ⟨hlist i, fun _ => rfl⟩)
      have := hend val w listed hg (fun i hi => hr i hi (hall i hi)) hsz hlist
      rw [show ops.size - k = m + 1 by omega] at this
      rw [ha]
      exact this
    · have hready : ∀ i, i ∈ Region.ready md ops listed ↔ listed.getD i true = false ∧ ∃ o, ops[i]? = some o ∧ ∀ e ∈ o.after, Region.binds md e = true → listed.getD e.on false = true := fun i => mem_ready
      refine ⟨fun hnil => ?_, fun i hi => ?_⟩
      · exfalso
        obtain ⟨i, hik, hlf, hlow⟩ := left_some h0
        obtain ⟨o, ho, _, _, _, _, haft⟩ := parOr_op hp hik
        have hm : i ∈ Region.ready md ops listed := (hready i).2 ⟨by
          rw [Array.getD_eq_getD_getElem?, Array.getElem?_eq_getElem (by omega)] at hlf ⊢
          exact hlf, o, ho, fun e he hb => hlow _ (haft e he hb)⟩
        rw [hnil] at hm
        cases hm
      · obtain ⟨hun, o, ho, hdeps⟩ := (hready i).1 hi
        have hisz : i < listed.size := by
          rcases Nat.lt_or_ge i listed.size with h | h
          · exact h
          · rw [Array.getD_eq_getD_getElem?, Array.getElem?_eq_none h] at hun
            cases hun
        have hlf : listed.getD i false = false := by
          rw [Array.getD_eq_getD_getElem?, Array.getElem?_eq_getElem hisz] at hun ⊢
          exact hun
        have hik : i < k := by
          rcases Nat.lt_or_ge i k with h | h
          · exact h
          · exfalso
            obtain ⟨j, hj, hjl, _⟩ := left_some h0
            have := closed_anc (parOr_ms hp) hc ho hdeps (parOr_tail hp hj (by omega) h)
            rw [hjl] at this
            cases this
        obtain ⟨o', ho', hgd, hs, hdf, hdd, haft⟩ := parOr_op hp hik
        rw [ho] at ho'
        cases ho'
        have hb := lyko_putAll hp val i (by omega)
        refine op_movesR (X := fun v w' => G w w' ∧ R i (fun j => if j = i then v else val j) w') ho (hl.guards hp hc hik ho hdeps hgd) hs hdf (fun d hd => by rw [hb.s]; exact (hdd d hd).1) (hl.looks hp hc hik ho hdeps hlf) (fun K hK => ?_) (fun v w' hx => ?_)
        · refine hop i hik val w hg (fun j hj hw => hr j hj (closed_anc (parOr_ms hp) hc ho hdeps hw)) K (fun v w' h1 h2 => ?_)
          have := hK v w' ⟨h1, h2⟩
          simpa [ho] using this
        · obtain ⟨hgw, hRi⟩ := hx
          have hl' := hl.put hp hik ho v
          refine ih (listed.setIfInBounds i true) (fun j => if j = i then v else val j) _ w' ?_ (hG _ _ _ hg hgw) (by simp [hsz]) ?_ ?_ ?_ ?_
          · have := left_set hik hisz hlf
            omega
          · intro j hj
            rw [getD_set hisz, hhi j hj]
            simp
            omega
          · intro j o2 hjl ho2 e he hbd
            rw [getD_set hisz] at hjl ⊢
            simp only [Bool.or_eq_true, beq_iff_eq] at hjl ⊢
            rcases hjl with rfl | hjl
            · rw [ho] at ho2
              cases ho2
              exact .inr (hdeps e he hbd)
            · exact .inr (hc j o2 hjl ho2 e he hbd)
          · have e : (fun j => (listed.setIfInBounds i true).getD j false) = fun j => j == i || listed.getD j false := funext fun j => getD_set hisz
            rw [e]
            exact hl'
          · intro j hj hjl
            rw [getD_set hisz] at hjl
            simp only [Bool.or_eq_true, beq_iff_eq] at hjl
            by_cases hji : j = i
            · subst hji
              exact hRi
            · have hjl2 : listed.getD j false = true := by rcases hjl with h | h; exact absurd h hji; exact h
              refine hR j hj val _ w w' (fun q hq => ?_) hgw (hr j hj hjl2)
              have hqi : q ≠ i := by
                rintro rfl
                rcases hq with h | h
                · exact hji h.symm
                · obtain ⟨o2, ho2, _⟩ := parOr_op hp hj
                  have := closed_anc (parOr_ms hp) hc ho2 (fun e he hbd => hc j o2 hjl2 ho2 e he hbd) h
                  rw [hlf] at this
                  cases this
              rw [if_neg hqi]

theorem wpIn_region_parR {k id : Nat} {a0 : Act} {w0 : World} (hm : P.follows .mixedOrders = true) (G : World → World → Prop) (R : Nat → (Nat → Value) → World → Prop) (hp : parOr .any ops ms k a0.tmps.size = true)
    (hrefl : G w0.drew w0.drew) (hG : ∀ a b c, G a b → G b c → G a c)
    (hR : ∀ i, i < k → ∀ val val' w w', (∀ j, j = i ∨ Anc ms i j = true → val j = val' j) → G w w' → R i val w → R i val' w')
    (hop : ∀ i, i < k → ∀ val w, G w0.drew w → (∀ j, j < k → Anc ms i j = true → R j val w) → ∀ K : Act → World → Prop, (∀ v w', G w w' → R i (fun j => if j = i then v else val j) w' → K ((putAll ops val a0 i).put ((ops[i]?).bind (·.dst)) v) w') → wpOpIn F n P ops (fun _ _ _ => False) i K (putAll ops val a0 i) w)
    (hend : ∀ val w, G w0.drew w → (∀ i, i < k → R i val w) → wpAnyIn F n P .any ops Q (ops.size - k) (maskOf k ops.size) (putAll ops val a0 k) w) :
    (Code.region id ops true).wpIn F n P Q a0 w0 := by
  have hkle := parOr_le hp
  refine wpIn_region_any hm ?_
  change wpAnyIn _ _ _ _ _ _ _ _ _ (World.drew _)
  have hgd : ∀ j, (Array.replicate ops.size false).getD j false = false := fun j => by
    rw [Array.getD_eq_getD_getElem?, Array.getElem?_replicate]
    split <;> rfl
  refine wpAnyIn_parR G R hp hG hR hop (fun val w listed h1 h2 h3 h4 => ?_) ops.size (Array.replicate ops.size false) (fun _ => undef) a0 w0.drew ?_ hrefl (by simp) (fun i _ => hgd i) ?_ ?_ ?_
  · rw [mask_eq hkle h3 h4]
    exact hend val w h1 h2
  · have : left k (Array.replicate ops.size false) = k := by
      unfold left
      rw [List.countP_eq_length.2 (fun i _ => by rw [hgd i]; rfl), List.length_range]
    omega
  · intro i o hl
    rw [hgd i] at hl
    cases hl
  · exact ⟨rfl, rfl, fun i o d _ _ _ => by rw [hgd i]; rfl, fun _ _ => rfl⟩
  · intro i _ hl
    rw [hgd i] at hl
    cases hl

/-- The operations in the order of the text, each with a fact that may name the values of those that it waits for. -/
def factWalkR (F : Fence) (n : Nat) (P : Program) (ms : List Nat) (ops : Array Oper) (G : World → World → Prop) (w0 : World) (R : Nat → (Nat → Value) → World → Prop) : Nat → List Oper → (Nat → Value) → Act → ((Nat → Value) → Act → Prop) → Prop
  | _, [], val, a, K => K val a
  | i, o :: rest, val, a, K => (∀ w, G w0 w → (∀ j, j < i → Anc ms i j = true → R j val w) → ∀ K' : Act → World → Prop, (∀ v w', G w w' → R i (fun q => if q = i then v else val q) w' → K' (a.put o.dst v) w') → if Region.wanted o (yielded ops a.tmps) then o.wpIn F n P a w K' (fun _ _ _ => False) else (∀ f, o.about P w a.eval = some f → F.fn f) ∧ K' (a.put o.dst undef) w) ∧
      ∀ v, factWalkR F n P ms ops G w0 R (i + 1) rest (fun q => if q = i then v else val q) (a.put o.dst v) K
section
variable {G : World → World → Prop} {w0 : World} {R : Nat → (Nat → Value) → World → Prop}
theorem factWalkR_nil {i : Nat} {val : Nat → Value} {a : Act} {K : (Nat → Value) → Act → Prop} (h : K val a) : factWalkR F n P ms ops G w0 R i [] val a K := h
theorem factWalkR_cons {i : Nat} {o : Oper} {rest : List Oper} {val : Nat → Value} {a : Act} {K : (Nat → Value) → Act → Prop}
    (h1 : ∀ w, G w0 w → (∀ j, j < i → Anc ms i j = true → R j val w) → ∀ K' : Act → World → Prop, (∀ v w', G w w' → R i (fun q => if q = i then v else val q) w' → K' (a.put o.dst v) w') → Region.wanted o (yielded ops a.tmps) = true ∧ o.wpIn F n P a w K' (fun _ _ _ => False))
    (h3 : ∀ v, factWalkR F n P ms ops G w0 R (i + 1) rest (fun q => if q = i then v else val q) (a.put o.dst v) K) : factWalkR F n P ms ops G w0 R i (o :: rest) val a K := ⟨fun w hw hf K' hK' => by rw [if_pos (h1 w hw hf K' hK').1]; exact (h1 w hw hf K' hK').2, h3⟩
theorem fact_valsR {a0 : Act} {K : (Nat → Value) → Act → Prop} (hc : ∀ i val val' w, (∀ j, j ≤ i → val j = val' j) → R i val w → R i val' w) : ∀ (m k : Nat) (val val' : Nat → Value), m + k ≤ ops.size → (∀ j, j < k → val j = val' j) → factWalkR F n P ms ops G w0 R k ((ops.toList.drop k).take m) val (putAll ops val' a0 k) K →
    (∀ i, k ≤ i → i < m + k → ∃ o, ops[i]? = some o ∧ ∀ w, G w0 w → (∀ j, j < i → Anc ms i j = true → R j val' w) → ∀ K' : Act → World → Prop, (∀ v w', G w w' → R i (fun q => if q = i then v else val' q) w' → K' ((putAll ops val' a0 i).put o.dst v) w') → wpOpIn F n P ops (fun _ _ _ => False) i K' (putAll ops val' a0 i) w) ∧
      ∃ valF, (∀ j, j < m + k → valF j = val' j) ∧ K valF (putAll ops val' a0 (m + k))
  | 0, k, val, val', _, he, h => ⟨fun i h1 h2 => absurd h2 (by omega), val, by simpa using he, by simpa [factWalkR] using h⟩
  | m + 1, k, val, val', hk, he, h => by
    have hlt : k < ops.toList.length := by simp; omega
    rw [List.drop_eq_getElem_cons hlt, List.take_succ_cons] at h
    obtain ⟨hx, hrest⟩ := h
    have hko : ops[k]? = some ops.toList[k] := by simp
    have h2 := hrest (val' k)
    have e1 : putAll ops val' a0 (k + 1) = (putAll ops val' a0 k).put ops.toList[k].dst (val' k) := by
      rw [putAll, hko]
      rfl
    rw [← e1] at h2
    obtain ⟨h3, valF, h4, h5⟩ := fact_valsR hc m (k + 1) _ val' (by omega) (fun j hj => by
      by_cases hjk : j = k
      · subst hjk; simp
      · rw [if_neg hjk]; exact he j (by omega)) h2
    refine ⟨fun i hi hi2 => ?_, valF, fun j hj => h4 j (by omega), by rw [show m + 1 + k = m + (k + 1) by omega]; exact h5⟩
    by_cases hik : i = k
    · subst hik
      exact ⟨_, hko, fun w hw hf K' hK' => by
        unfold wpOpIn
        simp only [hko]
        exact hx w hw (fun j hj hwt => hc j val' val w (fun q hq => (he q (by omega)).symm) (hf j hj hwt)) K' (fun v w' hg hr => hK' v w' hg (hc i _ _ w' (fun q hq => by
          by_cases hqi : q = i
          · rw [if_pos hqi, if_pos hqi]
          · rw [if_neg hqi, if_neg hqi]
            exact he q (by omega)) hr))⟩
    · exact h3 i (by omega) (by omega)
end
/-- **A region in the order of the text, stores and guarded operations too; each operation with its fact, which may name the values of those that it waits for.** -/
theorem wpIn_region_factsR {k id : Nat} {a0 : Act} {w0 : World} (G : World → World → Prop) (R : Nat → (Nat → Value) → World → Prop) (hm : P.follows .mixedOrders = true) (hp : parOr .any ops ms k a0.tmps.size = true)
    (hrefl : ∀ w, G w w) (hG : ∀ a b c, G a b → G b c → G a c)
    (hR : ∀ i, ∀ val val' w w', (∀ j, j = i ∨ Anc ms i j = true → val j = val' j) → G w w' → R i val w → R i val' w')
    (hlt : ∀ i j, Anc ms i j = true → j ≤ i)
    (h : factWalkR F n P ms ops G w0.drew R 0 (ops.toList.take k) (fun _ => undef) a0 fun val aF => ∀ w, G w0.drew w → (∀ i, i < k → R i val w) → wpAnyIn F n P .any ops Q (ops.size - k) (maskOf k ops.size) aF w) : (Code.region id ops true).wpIn F n P Q a0 w0 := by
  have hle := parOr_le hp
  have hc : ∀ i val val' w, (∀ j, j ≤ i → val j = val' j) → R i val w → R i val' w := fun i val val' w he hr => hR i val val' w w (fun j hj => he j (by rcases hj with h | h; omega; exact hlt i j h)) (hrefl w) hr
  refine wpIn_region_parR hm G R hp (hrefl _) hG (fun i _ => hR i) (fun i hi v w hw hr K hK => ?_) (fun v w hw hr => ?_)
  · obtain ⟨hs, -⟩ := fact_valsR (a0 := a0) hc k 0 (fun _ => undef) v (by omega) (fun j hj => by omega) h
    obtain ⟨o, ho, hx⟩ := hs i (by omega) (by omega)
    refine hx w hw (fun j hj hwt => hr j (by omega) hwt) K (fun v' w' hg hx' => ?_)
    have := hK v' w' hg hx'
    simpa [ho] using this
  · obtain ⟨-, valF, hv, hK⟩ := fact_valsR (a0 := a0) hc k 0 (fun _ => undef) v (by omega) (fun j hj => by omega) h
    exact hK w hw (fun i hi => hc i v valF w (fun j hj => (hv j (by omega)).symm) (hr i hi))
/-- Each number's bits are below its place. -/
def lowMs (ms : List Nat) : Bool := (List.range ms.length).all fun i => decide (ms.getD i 0 < 2 ^ i)
theorem lowMs_lt {ms : List Nat} (h : lowMs ms = true) (i j : Nat) (ha : Anc ms i j = true) : j ≤ i := by
  unfold Anc at ha
  rcases Nat.lt_or_ge i ms.length with hi | hi
  · have h1 := of_decide_eq_true (List.all_eq_true.1 h i (List.mem_range.2 hi))
    rcases Nat.lt_or_ge i j with h2 | h2
    · have := Nat.testBit_lt_two_pow (x := ms.getD i 0) (i := j) (Nat.lt_of_lt_of_le h1 (Nat.pow_le_pow_right (by omega) (by omega)))
      rw [this] at ha
      cases ha
    · exact h2
  · rw [List.getD_eq_getElem?_getD, List.getElem?_eq_none hi] at ha
    simp at ha
end
end Go.Proofs.YtimopkmlcjdgfaaDoor

/-
  THE ENDS OF A DRAWN REGION THAT WRITE, over whatever program.
-/
namespace Go.Proofs.YtimopkmlcjdgfaaDoor
set_option linter.unusedSimpArgs false
set_option linter.unusedVariables false
open Go Go.RowKit
section steps
variable {P : Program} {ops : Array Oper} {rest : List Oper} {o : Oper} {a : Act} {w : World} {Q : Exit → Act → World → Prop}
theorem stepIn_store {F : Fence} {n : Nat} {K : Act → World → Prop} {E : Prop} (hg : o.guard = none) (ty : TypeId) (d x : Operand) (hop : o.op = Op.store ty d x)
    (v u : Value) (hd : a.eval d = v) (hx : a.eval x = u) {w' : World} (hr : (Instr.storeAt ty v u).run P w = .ok () w') (hK : K (a.put o.dst undef) w') :
    if Region.wanted o (yielded ops a.tmps) = true then Oper.wpIn F n P o a w K Q else E := by
  have hw : Region.wanted o (yielded ops a.tmps) = true := by simp [Region.wanted, hg]
  rw [if_pos hw]
  refine ⟨fun f hf => ?_, ?_⟩
  · simp [Oper.about, hop] at hf
  · simp [Oper.semAt, execOp, hop, hd, hx, hr, Result.andThen, Oper.uponIn]
    exact hK
theorem stepIn_build {F : Fence} {n : Nat} {K : Act → World → Prop} {E : Prop} (hg : o.guard = none) (ty : TypeId) (i j : Nat) (x y : Operand) (hop : o.op = Op.build ty #[(i, x), (j, y)])
    (u v : Value) (hx : a.eval x = u) (hy : a.eval y = v) {z : Value} {w' : World} (hr : (Instr.build ty #[(i, u), (j, v)]).run P w = .ok z w') (hK : K (a.put o.dst z) w') :
    if Region.wanted o (yielded ops a.tmps) = true then Oper.wpIn F n P o a w K Q else E := by
  have hw : Region.wanted o (yielded ops a.tmps) = true := by simp [Region.wanted, hg]
  rw [if_pos hw]
  refine ⟨fun f hf => ?_, ?_⟩
  · simp [Oper.about, hop] at hf
  · simp [Oper.semAt, execOp, hop, hx, hy, hr, Result.andThen, Oper.uponIn]
    exact hK
theorem stepIn_append {F : Fence} {n : Nat} {K : Act → World → Prop} {E : Prop} (hg : o.guard = none) (d x : Operand) (dT sT : TypeId) (hop : o.op = Op.call { callee := Callee.builtin Builtin.append, args := #[d, x], argTypes := #[dT, sT] })
    (v u : Value) (hd : a.eval d = v) (hx : a.eval x = u) {v' : Value} {w' : World} (hr : (Builtin.append_ #[dT, sT] o.type #[v, u]).run P w = .ok v' w') (hK : K (a.put o.dst v') w') :
    if Region.wanted o (yielded ops a.tmps) = true then Oper.wpIn F n P o a w K Q else E := by
  have hw : Region.wanted o (yielded ops a.tmps) = true := by simp [Region.wanted, hg]
  rw [if_pos hw]
  refine ⟨fun f hf => ?_, ?_⟩
  · simp [Oper.about, hop, resolve, Target.leads] at hf
  · simp [Oper.semAt, execOp, hop, resolve, invoke, builtin, hd, hx, hr, Result.andThen, Oper.uponIn]
    exact hK
theorem operIn_load {F : Fence} {n : Nat} {K : Act → World → Prop} (ty : TypeId) (d : Operand) (hop : o.op = Op.load ty d)
    (v : Value) (hd : a.eval d = v) {z : Value} (hr : (Instr.loadAt ty v).run P w = .ok z w) (hK : K (a.put o.dst z) w) : Oper.wpIn F n P o a w K Q := by
  refine ⟨fun f hf => ?_, ?_⟩
  · simp [Oper.about, hop] at hf
  · simp [Oper.semAt, execOp, hop, hd, hr, Result.andThen, Oper.uponIn]
    exact hK
theorem operIn_bs1 {F : Fence} {n : Nat} {K : Act → World → Prop} (ty : TypeId) (k i : Nat) (x : Operand) (hop : o.op = Op.buildSlice ty k #[(i, x)])
    (u : Value) (hx : a.eval x = u) {z : Value} {w' : World} (hr : (Instr.buildSlice ty k #[(i, u)]).run P w = .ok z w') (hK : K (a.put o.dst z) w') : Oper.wpIn F n P o a w K Q := by
  refine ⟨fun f hf => ?_, ?_⟩
  · simp [Oper.about, hop] at hf
  · simp [Oper.semAt, execOp, hop, hx, hr, Result.andThen, Oper.uponIn]
    exact hK
theorem operIn_append {F : Fence} {n : Nat} {K : Act → World → Prop} (hg : o.guard = none) (d x : Operand) (dT sT : TypeId) (hop : o.op = Op.call { callee := Callee.builtin Builtin.append, args := #[d, x], argTypes := #[dT, sT] })
    (v u : Value) (hd : a.eval d = v) (hx : a.eval x = u) {v' : Value} {w' : World} (hr : (Builtin.append_ #[dT, sT] o.type #[v, u]).run P w = .ok v' w') (hK : K (a.put o.dst v') w') : Oper.wpIn F n P o a w K Q := by
  have h := stepIn_append (E := False) (ops := #[]) (F := F) (n := n) (Q := Q) hg d x dT sT hop v u hd hx hr hK
  have hw : Region.wanted o (yielded #[] a.tmps) = true := by simp [Region.wanted, hg]
  rwa [if_pos hw] at h
theorem operIn_store {F : Fence} {n : Nat} {K : Act → World → Prop} (hg : o.guard = none) (ty : TypeId) (d x : Operand) (hop : o.op = Op.store ty d x)
    (v u : Value) (hd : a.eval d = v) (hx : a.eval x = u) {w' : World} (hr : (Instr.storeAt ty v u).run P w = .ok () w') (hK : K (a.put o.dst undef) w') : Oper.wpIn F n P o a w K Q := by
  have h := stepIn_store (E := False) (ops := #[]) (F := F) (n := n) (Q := Q) hg ty d x hop v u hd hx hr hK
  have hw : Region.wanted o (yielded #[] a.tmps) = true := by simp [Region.wanted, hg]
  rwa [if_pos hw] at h
theorem operIn_mapUpdate {F : Fence} {n : Nat} {K : Act → World → Prop} (ty : TypeId) (m x y : Operand) (hop : o.op = Op.mapUpdate ty m x y)
    (vm vx vy : Value) (hm : a.eval m = vm) (hx : a.eval x = vx) (hy : a.eval y = vy) {w' : World} (hr : (Instr.mapUpdate ty vm vx vy).run P w = .ok () w') (hK : K (a.put o.dst undef) w') : Oper.wpIn F n P o a w K Q := by
  refine ⟨fun f hf => ?_, ?_⟩
  · simp [Oper.about, hop] at hf
  · simp [Oper.semAt, execOp, hop, hm, hx, hy, hr, Result.andThen, Oper.uponIn]
    exact hK
theorem stepIn_mapUpdate {F : Fence} {n : Nat} {K : Act → World → Prop} {E : Prop} (hg : o.guard = none) (ty : TypeId) (m x y : Operand) (hop : o.op = Op.mapUpdate ty m x y)
    (vm vx vy : Value) (hm : a.eval m = vm) (hx : a.eval x = vx) (hy : a.eval y = vy) {w' : World} (hr : (Instr.mapUpdate ty vm vx vy).run P w = .ok () w') (hK : K (a.put o.dst undef) w') :
    if Region.wanted o (yielded ops a.tmps) = true then Oper.wpIn F n P o a w K Q else E := by
  have hw : Region.wanted o (yielded ops a.tmps) = true := by simp [Region.wanted, hg]
  rw [if_pos hw]
  exact operIn_mapUpdate ty m x y hop vm vx vy hm hx hy hr hK
end steps
/-- What may become of memory where one block is stored to once: r keeps its type and size; once it holds M it holds it on. -/
def Gs (r : Nat) (t : TypeId) (M : Array Value) (W W' : World) : Prop := Fr (fun q => q = r) W W' ∧ (∀ cs, Blk W r t cs → cs.size = M.size → ∃ cs', Blk W' r t cs' ∧ cs'.size = M.size) ∧ (Blk W r t M → Blk W' r t M)
theorem Gs.refl {r : Nat} {t : TypeId} {M : Array Value} (W : World) : Gs r t M W W := ⟨Fr.refl _ _, fun cs h e => ⟨cs, h, e⟩, fun h => h⟩
theorem Gs.trans {r : Nat} {t : TypeId} {M : Array Value} {a b c : World} (h : Gs r t M a b) (k : Gs r t M b c) : Gs r t M a c :=
  ⟨h.1.trans k.1 (fun _ _ h => h), fun cs hb e => by obtain ⟨c1, h1, e1⟩ := h.2.1 cs hb e; exact k.2.1 c1 h1 e1, fun hb => k.2.2 (h.2.2 hb)⟩
theorem Gs.drew {r : Nat} {t : TypeId} {M : Array Value} {W W' : World} (h : Gs r t M W.drew W') : Gs r t M W W' := ⟨((Fr.refl (fun q => q = r) W).drew).trans h.1 (fun _ _ h => h), fun cs hb e => h.2.1 cs hb.drew e, fun hb => h.2.2 hb.drew⟩
theorem Gs.store {r : Nat} {t : TypeId} {M cs : Array Value} {W : World} (hb : Blk W r t cs) (hs : cs.size = M.size) : Gs r t M W (W.setCells r 0 M.toList) :=
  ⟨Fr.setCells (fp := fun q => q = r) (g := r) (fun _ => rfl) _ _ _ (Fr.refl _ W), fun _ _ _ => ⟨M, hb.setAll hs.symm, rfl⟩, fun _ => hb.setAll hs.symm⟩
end Go.Proofs.YtimopkmlcjdgfaaDoor

/-
  A REGION IN THE ORDER OF THE TEXT, guards open: each operation's value is a letter, of which it is known what it is if its guard says yes. No program is named here.
-/
namespace Go.Proofs.YtimopkmlcjdgfaaDoor
set_option linter.unusedSimpArgs false
set_option linter.unusedVariables false
open Go Go.RowKit

theorem wpList_fact {P : Program} {ops : Array Oper} {Q : Exit → Act → World → Prop} {a : Act} {w : World} {rest : List Oper} {o : Oper} (X : Value → Prop)
    (h1 : ∀ K : Act → World → Prop, (∀ v, X v → K (a.put o.dst v) w) → if Region.wanted o (yielded ops a.tmps) = true then o.wp P a w K Q else K (a.put o.dst undef) w)
    (h2 : ∀ v, X v → wpList P ops Q rest (a.put o.dst v) w) : wpList P ops Q (o :: rest) a w :=
  wpList_step fun K hK => h1 K (fun v hv => hK _ _ (h2 v hv))
theorem ite_yes {b : Bool} {p q : Prop} (hb : b = true) (h : p) : if b = true then p else q := by rw [if_pos hb]; exact h
theorem ite_no {b : Bool} {p q : Prop} (hb : b = false) (h : q) : if b = true then p else q := by rw [if_neg (by rw [hb]; decide)]; exact h
/-- This value where c says yes, none else. -/
def cv (c : Bool) (v : Value) : Value := if c then v else undef
theorem cv_t {c : Bool} {v x : Value} (e : x = cv c v) (h : c = true) : x = v := by rw [e, h]; rfl
theorem cv_f {c : Bool} {v x : Value} (e : x = cv c v) (h : c = false) : x = undef := by rw [e, h]; rfl
theorem cv_yes {c : Bool} {v x : Value} (h : c = true) (e : x = v) : Hid (x = cv c v) := Lib.hid (by rw [e, h]; rfl)
theorem cv_no {c : Bool} {v : Value} (h : c = false) : Hid (undef = cv c v) := Lib.hid (by rw [h]; rfl)
theorem cv_yes0 {c : Bool} {v x : Value} (h : c = true) (e : x = v) : x = cv c v := by rw [e, h]; rfl
theorem cv_no0 {c : Bool} {v : Value} (h : c = false) : undef = cv c v := by rw [h]; rfl
theorem band_l {a b : Bool} (h : (a && b) = true) : a = true := by cases a <;> simp_all
theorem band_r {a b : Bool} (h : (a && b) = true) : b = true := by cases b <;> simp_all
theorem bnot_t {a : Bool} (h : (!a) = true) : a = false := by cases a <;> simp_all
theorem bnot_f {a : Bool} (h : (!a) = false) : a = true := by cases a <;> simp_all
theorem band_f {a b : Bool} (ha : a = true) (h : (a && b) = false) : b = false := by cases a <;> simp_all
theorem factWalkG_any {F : Fence} {N : Nat} {P : Program} {ms : List Nat} {ops : Array Oper} {G : World → World → Prop} {w0 : World} {Xs Fp : Nat → Value → World → Prop} {i : Nat} {o : Oper} {rest : List Oper} {val : Nat → Value} {a : Act} {K : (Nat → Value) → Act → Prop}
    (h1 : ∀ w, G w0 w → (∀ j, j < i → Anc ms i j = true → Xs j (val j) w) → ∀ K' : Act → World → Prop, (∀ v w', G w w' → Xs i v w' → Fp i v w → K' (a.put o.dst v) w') → if Region.wanted o (yielded ops a.tmps) = true then o.wpIn F N P a w K' (fun _ _ _ => False) else (∀ f, o.about P w a.eval = some f → F.fn f) ∧ K' (a.put o.dst undef) w)
    (h3 : ∀ v, factWalkG F N P ms ops G w0 Xs Fp (i + 1) rest (fun q => if q = i then v else val q) (a.put o.dst v) K) : factWalkG F N P ms ops G w0 Xs Fp i (o :: rest) val a K := ⟨h1, h3⟩
theorem bcases (b : Bool) : b = false ∨ b = true := by cases b <;> simp
end Go.Proofs.YtimopkmlcjdgfaaDoor
