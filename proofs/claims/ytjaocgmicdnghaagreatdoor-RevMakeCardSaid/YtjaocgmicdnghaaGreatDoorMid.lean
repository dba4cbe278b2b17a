/-
  A WINDOW OF A ROW OF THE CALL's OWN: a slice that begins anywhere in a block; append onto it. Over whatever program; elements of one cell. No statement is proved here.
-/
import Derived.Test.YtjaocgmicdnghaaGreatDoorApp
import Derived.Deep.DeepAppendWide
namespace Go.Proofs.YtjaocgmicdnghaaGreatDoor
set_option linter.unusedSimpArgs false
set_option linter.unusedVariables false
open Go Go.RowKit

/-- The slice v holds the cells xs, in a block of the call's own, from some place on; it may grow up to its capacity there. -/
def OwnM (w : World) (base : Nat) (e : TypeId) (v : Value) (n : Nat) (xs : List Value) : Prop :=
  xs.length = n ∧ ((v = .slice none 0 0 ∧ n = 0) ∨ ∃ g off c cur, v = .slice (some ⟨g, off, none⟩) n c ∧ base ≤ g ∧ Blk w g e cur ∧ n ≤ c ∧ c ≤ maxLen ∧ off + c ≤ cur.size ∧ (cur.toList.drop off).take n = xs)

section
variable {w w' : World} {base : Nat} {e : TypeId} {v : Value} {n : Nat} {xs : List Value}
theorem OwnM.of_own (h : w.ownsRow base e 1 v n xs) : OwnM w base e v n xs := by
  refine ⟨by simpa using h.1, ?_⟩
  rcases h.2 with ⟨h1, h2⟩ | ⟨g, cap, cur, h1, h2, h3, h4, h5, h6, h7⟩
  · exact .inl ⟨h1, h2⟩
  · refine .inr ⟨g, 0, cap, cur, h1, h2, h3, h4, h5, by omega, ?_⟩
    rw [List.drop_zero]
    simpa using h7
theorem OwnM.slice (h : OwnM w base e v n xs) : ∃ A c, v = .slice A n c ∧ Rd w A n xs ∧ n ≤ c ∧ c ≤ maxLen ∧ ∀ k, inA A k → base ≤ k ∧ k < w.heap.size ∧ ∃ cur, Blk w k e cur := by
  obtain ⟨hl, ⟨rfl, rfl⟩ | ⟨g, off, c, cur, rfl, hb, hg, hc, hm, ho, hx⟩⟩ := h
  · obtain rfl : xs = [] := List.eq_nil_of_length_eq_zero hl
    exact ⟨none, 0, rfl, Rd.none_ _ _, Nat.le_refl _, by unfold maxLen; omega, fun k hk => by obtain ⟨ad, h, _⟩ := hk; cases h⟩
  · refine ⟨_, c, rfl, ⟨hl, fun _ => ⟨_, rfl, fun j u hu => ?_⟩⟩, hc, hm, fun k hk => ?_⟩
    · rw [Addr.add_lit, hg.cell]
      rw [← hx, List.getElem?_take] at hu
      split at hu
      · rw [List.getElem?_drop] at hu
        simpa using hu
      · cases hu
    · obtain ⟨ad, he, rfl⟩ := hk
      injection he with he
      subst he
      exact ⟨hb, hg.lt, cur, hg⟩
theorem OwnM.own_ne (h : OwnM w base e v n xs) {k : Nat} (hk : v.ownBlock = some k) : base ≤ k ∧ k < w.heap.size ∧ ∃ cur, Blk w k e cur := by
  obtain ⟨hl, ⟨rfl, rfl⟩ | ⟨g, off, c, cur, rfl, hb, hg, hc, hm, ho, hx⟩⟩ := h
  · simp [Value.ownBlock] at hk
  · have : g = k := by simpa [Value.ownBlock] using hk
    subst this
    exact ⟨hb, hg.lt, cur, hg⟩
theorem OwnM.fr {fp : Nat → Prop} (h : OwnM w base e v n xs) (hf : Fr fp w w') (hd : ∀ k, v.ownBlock = some k → ¬ fp k) : OwnM w' base e v n xs := by
  obtain ⟨hl, h | ⟨g, off, c, cur, rfl, hb, hg, r⟩⟩ := h
  · exact ⟨hl, .inl h⟩
  · exact ⟨hl, .inr ⟨g, off, c, cur, rfl, hb, hg.fr hf (hd g rfl), r⟩⟩
theorem OwnM.far (h : OwnM w base e v n xs) (hf : Fr (fun _ => False) w w') : OwnM w' base e v n xs := h.fr hf (fun _ _ h => h)
theorem OwnM.base_ {b' : Nat} (h : OwnM w base e v n xs) (hb : ∀ k, v.ownBlock = some k → b' ≤ k) : OwnM w b' e v n xs := by
  obtain ⟨hl, h | ⟨g, off, c, cur, rfl, hb0, r⟩⟩ := h
  · exact ⟨hl, .inl h⟩
  · exact ⟨hl, .inr ⟨g, off, c, cur, rfl, hb g rfl, r⟩⟩
/-- The rest of it. -/
theorem OwnM.cut {A : Option Addr} {c k : Nat} (h : OwnM w base e (.slice A n c) n xs) (hk : k < n) : OwnM w base e (.slice (if c = k then A else A.map (·.add k)) (n - k) (c - k)) (n - k) (xs.drop k) := by
  obtain ⟨hl, ⟨h, h0⟩ | ⟨g, off, c', cur, he, hb, hg, hc, hm, ho, hx⟩⟩ := h
  · omega
  · injection he with h1 h2 h3
    subst h1 h3
    rw [if_neg (by omega)]
    refine ⟨by rw [List.length_drop, hl], .inr ⟨g, off + k, c - k, cur, ?_, hb, hg, by omega, by omega, by omega, ?_⟩⟩
    · rw [Option.map_some, Addr.add_lit]
    · rw [← hx, List.drop_take, List.drop_drop]
end

section
variable {P : Program}
/-- append(v, x) onto a window of the call's own, out of whatever source. -/
theorem run_appm (w : World) (base : Nat) (t tx ty e : TypeId) (i : TypeInfo) (z : Value) (bytes : Nat) (ht : P.underlying t = some (.slice e)) (hi : P.info? e = some i) (hz : i.zero = some z)
    (hsize : i.size = 1) (hby : i.bytes = bytes) (hzs : z.cells.size = 1)
    (v : Value) (n : Nat) (xs : List Value) (hown : OwnM w base e v n xs)
    (x : Value) (m : Nat) (news : List Value) (hs : Src P 1 tx x m news w)
    (hbytes : ((n + m) + (n + m) / 4 + 192) * bytes ≤ 281474976710656) (h63 : n + m ≤ maxLen) (hbase : base ≤ w.heap.size) :
    ∃ v' w', (Builtin.append_ #[t, tx] ty #[v, x]).run P w = .ok v' w' ∧ OwnM w' base e v' (n + m) (xs ++ news) ∧ Fr (fun k => v.ownBlock = some k) w w' ∧ (v'.ownBlock = v.ownBlock ∨ v'.ownBlock = some w.heap.size) := by
  subst hby
  have hs : Src P i.size tx x m news w := by rw [hsize]; exact hs
  have hsmall : n + m ≤ 9223372036854775807 := by simp only [maxLen] at h63; omega
  have hnl : news.length = m := by have := hs.newsLen; rw [hsize] at this; omega
  have hlen : (xs ++ news).length = n + m := by rw [List.length_append, hown.1, hnl]
  have grown : ∀ (old : Nat), old < n + m →
      OwnM (w.drew.alloc (.cells ((xs ++ news).toArray ++ Builtin.zeroCells z.cells (grownCap w (n + m) old e - (n + m))) e)) base e
        (.slice (some ⟨w.heap.size, 0, none⟩) (n + m) (grownCap w (n + m) old e)) (n + m) (xs ++ news) := by
    intro old ho
    have hge := grownCap_ge w (n + m) old e
    have hcm : grownCap w (n + m) old e ≤ maxLen := grownCap_le_maxLen w (n + m) old e h63
    refine ⟨hlen, .inr ⟨w.heap.size, 0, _, _, rfl, hbase, heap_alloc_new w.drew _, hge, hcm, ?_, ?_⟩⟩
    · simp only [Array.size_append, List.size_toArray, size_zeroCells, hzs, hlen]
      omega
    · simp only [Array.toList_append, List.drop_zero]
      rw [← hlen]
      exact List.take_left
  obtain ⟨hxl, ⟨rfl, rfl⟩ | ⟨g, off, cap, cur, rfl, hbg, hg, hnc, hcm, hcs, htake⟩⟩ := hown
  · have hx : xs = [] := List.eq_nil_of_length_eq_zero hxl
    subst hx
    by_cases hm : m = 0
    · subst hm
      have hn : news = [] := List.eq_nil_of_length_eq_zero hnl
      subst hn
      exact ⟨.slice none 0 0, w, run_append_nothing w t tx ty e i ht hi none 0 0 (Nat.le_refl _) x hs, ⟨rfl, .inl ⟨rfl, rfl⟩⟩, Fr.refl _ w, .inl rfl⟩
    · have hr := run_append_grow_src (P := P) w t tx ty e i z ht hi hz none 0 0 [] (by simp [Builtin.firstCells]) x m news hs (by omega) (by omega) (growslice_fits_wide (by omega) hbytes)
      exact ⟨_, _, hr, grown 0 (by omega), ((Fr.refl _ w).drew).alloc _, .inr rfl⟩
  · by_cases hroom : n + m ≤ cap
    · have hfit : off + n + news.length ≤ cur.size := by rw [hnl]; omega
      have hcell : ∀ j (_hj : j < news.length), w.cell? ⟨g, off + n * i.size + j, none⟩ = some (cur[off + n + j]'(by omega)) := by
        intro j hj
        rw [hg.cell, hsize, Nat.mul_one, Array.getElem?_eq_getElem (by omega)]
      have hr := run_append_room_src (P := P) w t tx ty e i ht hi g off n cap x m news hs hroom (fun j hj => by rw [hcell j hj]; rfl) (fun j _ => hg.frozen _)
      rw [hsize, Nat.mul_one] at hr
      obtain ⟨c, hc, hcl⟩ := heap_setCells g news (off + n) w cur e (0, 0) hg hfit
      have hcsz : c.size = cur.size := by
        rw [← Array.length_toList, hcl]
        simp
        omega
      refine ⟨_, _, hr, ⟨hlen, .inr ⟨g, off, cap, c, rfl, hbg, hc, hroom, hcm, by rw [hcsz]; exact hcs, ?_⟩⟩, ⟨World.os_setCells _ _ _ _, ?_, World.output_setCells _ _ _ _, ?_, ?_⟩, .inl rfl⟩
      · have hco : off + n ≤ cur.toList.length := by rw [Array.length_toList]; omega
        have h1 : cur.toList.take (off + n) = cur.toList.take off ++ xs := by
          rw [List.take_add, htake]
        have hofl : (cur.toList.take off).length = off := by rw [List.length_take]; omega
        rw [hcl, h1, List.append_assoc, List.append_assoc, ← List.append_assoc xs]
        rw [show (cur.toList.take off ++ ((xs ++ news) ++ List.drop (off + n + news.length) cur.toList)).drop off = (xs ++ news) ++ List.drop (off + n + news.length) cur.toList from by
          conv => lhs; rw [show off = (cur.toList.take off).length from hofl.symm]
          rw [hofl, List.drop_append_of_le_length (by rw [hofl]; exact Nat.le_refl _), List.drop_eq_nil_of_le (by rw [hofl]; exact Nat.le_refl _), List.nil_append]]
        rw [← hlen]
        exact List.take_left
      · exact (World.grownBy_setCells_aux g news (off + n) w).1
      · exact Nat.le_of_eq (World.grownBy_setCells_aux g news (off + n) w).2.symm
      · intro k hk hne
        exact World.heap_setCells_other w g _ news hk (fun e => hne (by simp [Value.ownBlock, e]))
    · have hold : (Builtin.firstCells i.size n (.slice (some ⟨g, off, none⟩) n cap)).run P w.drew = .ok xs.toArray w.drew := by
        refine run_firstCells_some w.drew i.size n ⟨g, off, none⟩ n cap xs (by rw [hxl, hsize, Nat.mul_one]) (fun j u hu => ?_)
        show w.cell? _ = _
        rw [Addr.add_lit, hg.cell]
        rw [← htake, List.getElem?_take] at hu
        split at hu
        · rw [List.getElem?_drop] at hu
          simpa using hu
        · cases hu
      have hr := run_append_grow_src (P := P) w t tx ty e i z ht hi hz (some ⟨g, off, none⟩) n cap xs hold x m news hs (by omega) (by omega) (growslice_fits_wide (by omega) hbytes)
      exact ⟨_, _, hr, grown cap (by omega), ((Fr.refl _ w).drew).alloc _, .inr rfl⟩

/-- The same at the operation, for the walk. -/
theorem wpList_appm {w : World} {ops : Array Oper} {rest : List Oper} {o : Oper} {a : Act} {Q : Exit → Act → World → Prop} (hgd : o.guard = none) (s x : Operand) (t tx : TypeId)
    (ho : o.op = .call { callee := .builtin .append, args := #[s, x], argTypes := #[t, tx] })
    (base : Nat) (e : TypeId) (i : TypeInfo) (z : Value) (bytes : Nat) (ht : P.underlying t = some (.slice e)) (hi : P.info? e = some i) (hz : i.zero = some z)
    (hsize : i.size = 1) (hby : i.bytes = bytes) (hzs : z.cells.size = 1)
    (v : Value) (n : Nat) (xs : List Value) (hv : a.eval s = v) (hown : OwnM w base e v n xs)
    (xv : Value) (m : Nat) (news : List Value) (hx : a.eval x = xv) (hs : Src P 1 tx xv m news w)
    (hbytes : ((n + m) + (n + m) / 4 + 192) * bytes ≤ 281474976710656) (h63 : n + m ≤ maxLen) (hbase : base ≤ w.heap.size)
    (h : ∀ v' w', OwnM w' base e v' (n + m) (xs ++ news) → Fr (fun k => v.ownBlock = some k) w w' → (v'.ownBlock = v.ownBlock ∨ v'.ownBlock = some w.heap.size) → wpList P ops Q rest (a.put o.dst v') w') :
    wpList P ops Q (o :: rest) a w := by
  refine wpList_plain hgd fun K hK => ?_
  obtain ⟨v', w', hr, h2, h3, h4⟩ := run_appm (P := P) w base t tx o.type e i z bytes ht hi hz hsize hby hzs v n xs hown xv m news hs hbytes h63 hbase
  unfold Oper.wp execOp
  simp only [ho, resolve, invoke, builtin, Sem.run_bind, Sem.run_pure, Result.andThen_ok, List.map_toArray, List.map_cons, List.map_nil, hv, hx, hr]
  exact hK _ _ (h v' w' h2 h3 h4)
end
end Go.Proofs.YtjaocgmicdnghaaGreatDoor
