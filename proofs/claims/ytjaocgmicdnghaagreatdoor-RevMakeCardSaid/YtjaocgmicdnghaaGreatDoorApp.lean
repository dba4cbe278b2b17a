/-
  APPEND onto a row of the call's own, the source a slice (nil let in) or a string. No program is named here.
-/
import Derived.Test.YtjaocgmicdnghaaGreatDoorMem
import Derived.Deep.Upon
namespace Go.Proofs.YtjaocgmicdnghaaGreatDoor
set_option linter.unusedSimpArgs false
set_option linter.unusedVariables false
open Go Go.RowKit

theorem heap_setCells (b : Nat) : ∀ (vs : List Value) (o : Nat) (w : World) (cur : Array Value) (t : TypeId) (fr : Nat × Nat), w.heap[b]? = some (.cells cur t fr) → o + vs.length ≤ cur.size →
    ∃ c : Array Value, (w.setCells b o vs).heap[b]? = some (.cells c t fr) ∧ c.toList = cur.toList.take o ++ vs ++ cur.toList.drop (o + vs.length)
  | [], o, w, cur, t, fr, h, _ => ⟨cur, h, by simp⟩
  | v :: r, o, w, cur, t, fr, h, hl => by
    have h1 : (w.setCell ⟨b, o, none⟩ v).heap[b]? = some (.cells (cur.setIfInBounds o v) t fr) := by
      simp [World.setCell, Array.getElem?_modify, h]
    obtain ⟨c, hc, hcl⟩ := heap_setCells b r (o + 1) _ _ t fr h1 (by simp at hl ⊢; omega)
    refine ⟨c, hc, ?_⟩
    rw [hcl]
    simp only [List.length_cons] at hl
    apply List.ext_getElem?
    intro i
    simp only [Array.toList_setIfInBounds, List.getElem?_append, List.length_append, List.length_take, List.length_set, List.length_cons, Array.length_toList, List.getElem?_take, List.getElem?_drop, List.getElem?_set]
    rw [show min (o + 1) cur.size = o + 1 by omega, show min o cur.size = o by omega]
    by_cases h1 : i < o
    · simp [h1, show i < o + 1 + r.length by omega, show i < o + 1 by omega, show i < o + (r.length + 1) by omega, show ¬ o = i by omega]
    · by_cases h2 : i = o
      · subst h2
        simp [show i < i + 1 + r.length by omega, show i < i + (r.length + 1) by omega, show i < cur.size by omega]
      · by_cases h3 : i < o + 1 + r.length
        · simp [h1, h3, show ¬ i < o + 1 by omega, show i < o + (r.length + 1) by omega]
          rw [show i - o = (i - (o + 1)) + 1 by omega]
          simp
        · simp [h1, h3, show ¬ i < o + 1 by omega, show ¬ i < o + (r.length + 1) by omega]
          rw [if_neg (by omega)]
          congr 1
          omega

theorem World.grownBy_setCells_aux (g : Nat) : ∀ (vs : List Value) (o : Nat) (w : World), (w.setCells g o vs).tape = w.tape ∧ (w.setCells g o vs).heap.size = w.heap.size
  | [], _, _ => ⟨rfl, rfl⟩
  | v :: r, o, w => by
    have h := World.grownBy_setCells_aux g r (o + 1) (w.setCell ⟨g, o, none⟩ v)
    exact ⟨h.1, h.2.trans (by simp [World.setCell])⟩

section
variable {P : Program}
/-- append(v, x) onto a row of the call's own, out of whatever source. -/
theorem run_app (w : World) (base : Nat) (t tx ty e : TypeId) (i : TypeInfo) (z : Value) (size bytes : Nat) (ht : P.underlying t = some (.slice e)) (hi : P.info? e = some i) (hz : i.zero = some z)
    (hsize : i.size = size) (hby : i.bytes = bytes) (hzs : z.cells.size = size)
    (v : Value) (n : Nat) (xs : List Value) (hown : w.ownsRow base e size v n xs)
    (x : Value) (m : Nat) (news : List Value) (hs : Src P size tx x m news w)
    (hbytes : (n + m) * bytes ≤ 140737488355328) (h63 : n + m ≤ maxLen) (hbase : base ≤ w.heap.size) :
    ∃ v' w', (Builtin.append_ #[t, tx] ty #[v, x]).run P w = .ok v' w' ∧ w'.ownsRow base e size v' (n + m) (xs ++ news) ∧ Fr (fun k => v.ownBlock = some k) w w' ∧ (v'.ownBlock = v.ownBlock ∨ v'.ownBlock = some w.heap.size) := by
  subst hsize
  subst hby
  have hsmall : n + m ≤ 9223372036854775807 := by simp only [maxLen] at h63; omega
  have hnl := hs.newsLen
  have hlen : (xs ++ news).length = (n + m) * i.size := by rw [List.length_append, hown.1, hnl, Nat.add_mul]
  have grown : ∀ (old : Nat), old < n + m →
      (w.drew.alloc (.cells ((xs ++ news).toArray ++ Builtin.zeroCells z.cells (grownCap w (n + m) old e - (n + m))) e)).ownsRow base e i.size
        (.slice (some ⟨w.heap.size, 0, none⟩) (n + m) (grownCap w (n + m) old e)) (n + m) (xs ++ news) := by
    intro old ho
    have hge := grownCap_ge w (n + m) old e
    have hcm : grownCap w (n + m) old e ≤ maxLen := grownCap_le_maxLen w (n + m) old e h63
    refine ⟨hlen, .inr ⟨w.heap.size, _, _, rfl, hbase, heap_alloc_new w.drew _, hge, hcm, ?_, ?_⟩⟩
    · simp only [Array.size_append, List.size_toArray, size_zeroCells, hzs, hlen, ← Nat.add_mul]
      congr 1
      omega
    · simp only [Array.toList_append]
      rw [← hlen]
      exact List.take_left
  rcases hown.2 with ⟨rfl, rfl⟩ | ⟨g, cap, cur, rfl, hbg, hg, hnc, hcm, hcs, htake⟩
  · have hx : xs = [] := List.eq_nil_of_length_eq_zero (by simpa using hown.1)
    subst hx
    by_cases hm : m = 0
    · subst hm
      have hn : news = [] := List.eq_nil_of_length_eq_zero (by simpa using hnl)
      subst hn
      exact ⟨.slice none 0 0, w, run_append_nothing w t tx ty e i ht hi none 0 0 (Nat.le_refl _) x hs, World.ownsRow_nil w base e i.size, Fr.refl _ w, .inl rfl⟩
    · have hr := run_append_grow_src (P := P) w t tx ty e i z ht hi hz none 0 0 [] (by simp [Builtin.firstCells]) x m news hs (by omega) (by omega) (growslice_fits (by omega) hbytes)
      exact ⟨_, _, hr, grown 0 (by omega), ((Fr.refl _ w).drew).alloc _, .inr rfl⟩
  · by_cases hroom : n + m ≤ cap
    · have hfit : n * i.size + news.length ≤ cur.size := by rw [hnl, hcs, ← Nat.add_mul]; exact Nat.mul_le_mul_right _ hroom
      have hcell : ∀ j (_hj : j < news.length), w.cell? ⟨g, 0 + n * i.size + j, none⟩ = some (cur[n * i.size + j]'(by omega)) := by
        intro j hj
        rw [Nat.zero_add, cell_of_row w g _ cur e (0, 0) hg]
        simp [show n * i.size + j < cur.size by omega]
      have hr := run_append_room_src (P := P) w t tx ty e i ht hi g 0 n cap x m news hs hroom (fun j hj => by rw [hcell j hj]; rfl) (fun j _ => by simp [World.frozen?, hg])
      rw [Nat.zero_add] at hr
      obtain ⟨c, hc, hcl⟩ := heap_setCells g news (n * i.size) w cur e (0, 0) hg hfit
      have hcsz : c.size = cur.size := by
        rw [← Array.length_toList, hcl]
        simp
        omega
      refine ⟨_, _, hr, ⟨hlen, .inr ⟨g, cap, c, rfl, hbg, hc, hroom, hcm, by rw [hcsz, hcs], ?_⟩⟩, ⟨World.os_setCells _ _ _ _, ?_, World.output_setCells _ _ _ _, ?_, ?_⟩, .inl rfl⟩
      · rw [hcl, htake, ← hlen]
        exact List.take_left
      · exact (World.grownBy_setCells_aux g news (n * i.size) w).1
      · exact Nat.le_of_eq (World.grownBy_setCells_aux g news (n * i.size) w).2.symm
      · intro k hk hne
        exact World.heap_setCells_other w g _ news hk (fun e => hne (by simp [Value.ownBlock, e]))
    · have hr := run_append_grow_src (P := P) w t tx ty e i z ht hi hz (some ⟨g, 0, none⟩) n cap xs (run_firstCells_some w.drew i.size n ⟨g, 0, none⟩ n cap xs hown.1 (hown.cells (g := g) rfl)) x m news hs (by omega) (by omega) (growslice_fits (by omega) hbytes)
      exact ⟨_, _, hr, grown cap (by omega), ((Fr.refl _ w).drew).alloc _, .inr rfl⟩

/-- The same at the operation, for the walk. -/
theorem wpList_app {w : World} {ops : Array Oper} {rest : List Oper} {o : Oper} {a : Act} {Q : Exit → Act → World → Prop} (hgd : o.guard = none) (s x : Operand) (t tx : TypeId)
    (ho : o.op = .call { callee := .builtin .append, args := #[s, x], argTypes := #[t, tx] })
    (base : Nat) (e : TypeId) (i : TypeInfo) (z : Value) (size bytes : Nat) (ht : P.underlying t = some (.slice e)) (hi : P.info? e = some i) (hz : i.zero = some z)
    (hsize : i.size = size) (hby : i.bytes = bytes) (hzs : z.cells.size = size)
    (v : Value) (n : Nat) (xs : List Value) (hv : a.eval s = v) (hown : w.ownsRow base e size v n xs)
    (xv : Value) (m : Nat) (news : List Value) (hx : a.eval x = xv) (hs : Src P size tx xv m news w)
    (hbytes : (n + m) * bytes ≤ 140737488355328) (h63 : n + m ≤ maxLen) (hbase : base ≤ w.heap.size)
    (h : ∀ v' w', w'.ownsRow base e size v' (n + m) (xs ++ news) → Fr (fun k => v.ownBlock = some k) w w' → (v'.ownBlock = v.ownBlock ∨ v'.ownBlock = some w.heap.size) → wpList P ops Q rest (a.put o.dst v') w') :
    wpList P ops Q (o :: rest) a w := by
  refine wpList_plain hgd fun K hK => ?_
  obtain ⟨v', w', hr, h2, h3, h4⟩ := run_app (P := P) w base t tx o.type e i z size bytes ht hi hz hsize hby hzs v n xs hown xv m news hs hbytes h63 hbase
  unfold Oper.wp execOp
  simp only [ho, resolve, invoke, builtin, Sem.run_bind, Sem.run_pure, Result.andThen_ok, List.map_toArray, List.map_cons, List.map_nil, hv, hx, hr]
  exact hK _ _ (h v' w' h2 h3 h4)

/-- What a slice yields as a source. -/
theorem Src.rd {w : World} {tx e' : TypeId} (hk : P.underlying tx = some (.slice e')) {A : Option Addr} {n : Nat} (c : Nat) {xs : List Value} (h : Rd w A n xs) (h1 : ∀ u ∈ xs, u.oneCell' = true) : Src P 1 tx (.slice A n c) n xs w := by
  cases A with
  | none =>
    have hn : n = 0 := by
      rcases Nat.eq_zero_or_pos n with h0 | h0
      · exact h0
      · obtain ⟨ad, he, _⟩ := h.2 h0
        cases he
    subst hn
    have hx : xs = [] := List.eq_nil_of_length_eq_zero h.1
    subst hx
    have := Src.ofNil (P := P) w (size := 1) hk c
    exact this
  | some ad =>
    refine Src.ofSlice w hk ad n c xs (by rw [h.1, Nat.mul_one]) (fun j u hu => ?_) h1
    have hn : 0 < n := by
      rcases Nat.eq_zero_or_pos n with h0 | h0
      · subst h0
        have hx : xs = [] := List.eq_nil_of_length_eq_zero h.1
        subst hx
        simp at hu
      · exact h0
    obtain ⟨ad', he, hc⟩ := h.2 hn
    injection he with he
    subst he
    exact hc j u hu
end
end Go.Proofs.YtjaocgmicdnghaaGreatDoor
