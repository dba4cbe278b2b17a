/-
  ROWS OF BYTES THAT GROW AT THEIR END: what grew lasts under what grows on. Over whatever program.
-/
import Derived.Test.YtnkfkicabgajmaaGreatDoorGVal
namespace Go.Proofs.YtnkfkicabgajmaaGreatDoor
set_option linter.unusedSimpArgs false
set_option linter.unusedVariables false
open Go Go.RowKit

/-- No block has turned but rows of t from base on; of these none of one cell. -/
def GU (t : TypeId) (base : Nat) (w w' : World) : Prop := Fr (fun k => base ≤ k ∧ ∃ c fz, w.heap[k]? = some (.cells c t fz) ∧ c.size ≠ 1) w w'
/-- Each row whose cells begin X has them still. -/
def Keep (t : TypeId) (X : List Value) (w w' : World) : Prop := ∀ A m c Y, Y <+: X → w.ownsRow 0 t 1 (.slice A m c) m Y → w'.ownsRow 0 t 1 (.slice A m c) m Y
/-- Both. -/
def GK (t : TypeId) (base : Nat) (X : List Value) (w w' : World) : Prop := GU t base w w' ∧ Keep t X w w'
section
variable {t : TypeId} {base : Nat} {X : List Value} {a w w' : World}
theorem GU.refl (t : TypeId) (base : Nat) (w : World) : GU t base w w := Fr.refl _ w
theorem GU.trans (h : GU t base a w) (k : GU t base w w') : GU t base a w' :=
  Fr.trans h k (fun i hi hq => by
    by_cases hp : base ≤ i ∧ ∃ c fz, a.heap[i]? = some (.cells c t fz) ∧ c.size ≠ 1
    · exact hp
    · obtain ⟨hb, c, fz, hc, h1⟩ := hq
      exact ⟨hb, c, fz, by rw [← h.block i hi hp]; exact hc, h1⟩)
theorem GU.false_ (h : Fr (fun _ => False) w w') : GU t base w w' := h.mono (fun _ _ h => h.elim)
theorem GU.drew (h : GU t base a w) : GU t base a w.drew := Fr.drew h
theorem GU.lt (h : GU t base w w') : w.heap.size ≤ w'.heap.size := h.size
theorem Blk.gu {g : Nat} {t' : TypeId} {C : Array Value} (h : Blk w g t' C) (hf : GU t base w w') (hne : t' ≠ t) : Blk w' g t' C :=
  h.fr hf (fun hq => by
    obtain ⟨_, c, fz, hc, _⟩ := hq
    unfold Blk at h
    rw [h] at hc
    injection hc with hc
    injection hc with _ hc
    exact hne hc)
theorem Blk.gu1 {g : Nat} {C : Array Value} (h : Blk w g t C) (hf : GU t base w w') (h1 : C.size = 1) : Blk w' g t C :=
  h.fr hf (fun hq => by
    obtain ⟨_, c, fz, hc, hne⟩ := hq
    unfold Blk at h
    rw [h] at hc
    injection hc with hc
    injection hc with hc _
    exact hne (hc ▸ h1))
theorem GU.below (h : GU t base w w') (hb : base ≤ w.heap.size) : Below base w w' := Fr.below h hb (fun i hi hq => by omega)
/-- What lies below the base stays. -/
theorem GU.old (h : GU t base w w') : Fr (fun k => base ≤ k) w w' := Fr.mono h (fun _ _ h => h.1)
theorem Keep.refl (t : TypeId) (X : List Value) (w : World) : Keep t X w w := fun _ _ _ _ _ h => h
theorem Keep.trans (h : Keep t X a w) (k : Keep t X w w') : Keep t X a w' := fun A m c Y hY hr => k A m c Y hY (h A m c Y hY hr)
theorem Keep.far (h : Fr (fun _ => False) w w') : Keep t X w w' := fun A m c Y _ hr => own_fr hr h (fun _ _ h => h)
theorem Keep.pre {Z : List Value} (h : Keep t X w w') (hz : Z <+: X) : Keep t Z w w' := fun A m c Y hY hr => h A m c Y (hY.trans hz) hr
theorem GK.refl (t : TypeId) (base : Nat) (X : List Value) (w : World) : GK t base X w w := ⟨GU.refl _ _ _, Keep.refl _ _ _⟩
theorem GK.trans (h : GK t base X a w) (k : GK t base X w w') : GK t base X a w' := ⟨h.1.trans k.1, h.2.trans k.2⟩
theorem GK.far (h : Fr (fun _ => False) w w') : GK t base X w w' := ⟨GU.false_ h, Keep.far h⟩
theorem GK.row {A : Option Addr} {m c : Nat} {Y : List Value} (h : GK t base X w w') (hY : Y <+: X) (hr : w.ownsRow base t 1 (.slice A m c) m Y) : w'.ownsRow base t 1 (.slice A m c) m Y :=
  own_base (h.2 A m c Y hY (own_base hr (fun _ _ => Nat.zero_le _))) (fun k hk => (hr.lt k hk).1)
end
section
variable {P : Program}
/-- append onto such a row. -/
theorem run_appK (w : World) (base : Nat) (t tx ty e : TypeId) (i : TypeInfo) (z : Value) (bytes : Nat) (ht : P.underlying t = some (.slice e)) (hi : P.info? e = some i) (hz : i.zero = some z)
    (hsize : i.size = 1) (hby : i.bytes = bytes) (hzs : z.cells.size = 1)
    (v : Value) (n : Nat) (xs : List Value) (hown : w.ownsRow base e 1 v n xs) (hv0 : 0 < n ∨ v = .slice none 0 0)
    (x : Value) (m : Nat) (news : List Value) (hs : Src P 1 tx x m news w)
    (hbytes : (n + m) * bytes ≤ 140737488355328) (h63 : n + m ≤ maxLen) (hbase : base ≤ w.heap.size) :
    ∃ v' w', (Builtin.append_ #[t, tx] ty #[v, x]).run P w = .ok v' w' ∧ w'.ownsRow base e 1 v' (n + m) (xs ++ news) ∧ (∀ X, xs ++ news <+: X → GK e base X w w') := by
  have hsmall : n + m ≤ 9223372036854775807 := by simp only [maxLen] at h63; omega
  have hs1 : Src P i.size tx x m news w := by rw [hsize]; exact hs
  have hnl : news.length = m := by have := hs.newsLen; omega
  have hxl : xs.length = n := by simpa using hown.1
  have hlen : (xs ++ news).length = (n + m) * 1 := by rw [List.length_append, hxl, hnl, Nat.mul_one]
  have grown : ∀ (old : Nat), old < n + m →
      (w.drew.alloc (.cells ((xs ++ news).toArray ++ Builtin.zeroCells z.cells (grownCap w (n + m) old e - (n + m))) e)).ownsRow base e 1
        (.slice (some ⟨w.heap.size, 0, none⟩) (n + m) (grownCap w (n + m) old e)) (n + m) (xs ++ news) := by
    intro old ho
    have hge := grownCap_ge w (n + m) old e
    have hcm : grownCap w (n + m) old e ≤ maxLen := grownCap_le_maxLen w (n + m) old e h63
    refine ⟨hlen, .inr ⟨w.heap.size, _, _, rfl, hbase, heap_alloc_new w.drew _, hge, hcm, ?_, ?_⟩⟩
    · simp only [Array.size_append, List.size_toArray, size_zeroCells, hzs, hlen]
      omega
    · simp only [Array.toList_append]
      rw [← hlen]
      exact List.take_left
  have far : ∀ (old : Nat), Fr (fun _ => False) w (w.drew.alloc (.cells ((xs ++ news).toArray ++ Builtin.zeroCells z.cells (grownCap w (n + m) old e - (n + m))) e)) := fun old => ((Fr.refl _ w).drew).alloc _
  rcases hown.2 with ⟨rfl, rfl⟩ | ⟨g, cap, cur, rfl, hbg, hg, hnc, hcm, hcs, htake⟩
  · have hx : xs = [] := List.eq_nil_of_length_eq_zero hxl
    subst hx
    by_cases hm : m = 0
    · subst hm
      have hn : news = [] := List.eq_nil_of_length_eq_zero hnl
      subst hn
      exact ⟨.slice none 0 0, w, run_append_nothing w t tx ty e i ht hi none 0 0 (Nat.le_refl _) x hs1, World.ownsRow_nil w base e 1, fun X _ => GK.refl _ _ _ _⟩
    · have hr := run_append_grow_src (P := P) w t tx ty e i z ht hi hz none 0 0 [] (by simp [Builtin.firstCells]) x m news hs1 (by omega) (by omega) (growslice_fits (by omega) (by rw [hby]; exact hbytes))
      exact ⟨_, _, hr, grown 0 (by omega), fun X _ => GK.far (far 0)⟩
  · have htake' : cur.toList.take n = xs := by simpa using htake
    by_cases hroom : n + m ≤ cap
    · have hfit : n + news.length ≤ cur.size := by rw [hnl, hcs]; omega
      have hcell : ∀ j (_hj : j < news.length), w.cell? ⟨g, 0 + n * i.size + j, none⟩ = some (cur[n + j]'(by omega)) := by
        intro j hj
        rw [Nat.zero_add, hsize, Nat.mul_one, cell_of_row w g _ cur e (0, 0) hg]
        simp [show n + j < cur.size by omega]
      have hr := run_append_room_src (P := P) w t tx ty e i ht hi g 0 n cap x m news hs1 hroom (fun j hj => by rw [hcell j hj]; rfl) (fun j _ => by simp [World.frozen?, hg])
      rw [Nat.zero_add, hsize, Nat.mul_one] at hr
      obtain ⟨c, hc, hcl⟩ := heap_setCells g news n w cur e (0, 0) hg hfit
      have hcsz : c.size = cur.size := by
        rw [← Array.length_toList, hcl]
        simp
        omega
      have hfr : Fr (fun k => (Value.slice (some ⟨g, 0, none⟩) n cap).ownBlock = some k) w (w.setCells g n news) := ⟨World.os_setCells _ _ _ _, (World.grownBy_setCells_aux g news n w).1, World.output_setCells _ _ _ _, Nat.le_of_eq (World.grownBy_setCells_aux g news n w).2.symm, fun k hk hne =>
        World.heap_setCells_other w g _ news hk (fun e => hne (by simp [Value.ownBlock, e]))⟩
      have hguard : GU e base w (w.setCells g n news) := by
        by_cases hm0 : m = 0
        · have hnn : news = [] := List.eq_nil_of_length_eq_zero (by rw [hnl, hm0])
          subst hnn
          exact GU.refl _ _ _
        · refine hfr.mono (fun k hk hq => ?_)
          have : g = k := by simpa [Value.ownBlock] using hq
          subst this
          refine ⟨hbg, cur, (0, 0), hg, ?_⟩
          rcases hv0 with hv0 | hv0
          · omega
          · cases hv0
      refine ⟨_, _, hr, ⟨hlen, .inr ⟨g, cap, c, rfl, hbg, hc, hroom, hcm, by rw [hcsz, hcs], ?_⟩⟩, fun X hX => ⟨hguard, fun A q d Y hY hq => ?_⟩⟩
      · rw [hcl, htake', ← hlen]
        simpa using List.take_left (l₁ := xs ++ news) (l₂ := cur.toList.drop (n + news.length))
      · obtain ⟨hql, hq2⟩ := hq
        refine ⟨hql, ?_⟩
        rcases hq2 with hq2 | ⟨g', cap', cur', hv', hb', hg', h1, h2, h3, h4⟩
        · exact .inl hq2
        · by_cases hgg : g' = g
          · subst hgg
            have hcur : cur' = cur := by
              rw [hg] at hg'
              injection hg' with hg'
              injection hg' with hg'
              exact hg'.symm
            subst hcur
            refine .inr ⟨g', cap', c, hv', hb', hc, h1, h2, by rw [hcsz, h3], ?_⟩
            have hYl : Y.length = q := by simpa using hql
            rw [Nat.mul_one] at h4 ⊢
            rw [hcl]
            rw [← h4]
            apply List.ext_getElem?
            intro j
            rw [List.getElem?_take, List.getElem?_take]
            by_cases hj : j < q
            · rw [if_pos hj, if_pos hj]
              have hxn : (cur'.toList.take n).length = n := by rw [List.length_take, Array.length_toList]; omega
              by_cases hj1 : j < n
              · rw [List.append_assoc, List.getElem?_append_left (by omega), List.getElem?_take, if_pos hj1]
              · by_cases hj2 : j < n + news.length
                · have hjl : j < (xs ++ news).length := by rw [List.length_append]; omega
                  have e1 : (cur'.toList.take n ++ news ++ cur'.toList.drop (n + news.length))[j]? = X[j]? := by
                    rw [htake', List.getElem?_append_left hjl]
                    obtain ⟨Z, rfl⟩ := hX
                    rw [List.getElem?_append_left hjl]
                  have e2 : cur'.toList[j]? = X[j]? := by
                    have h0 : Y[j]? = cur'.toList[j]? := by rw [← h4, List.getElem?_take, if_pos hj]
                    rw [← h0]
                    obtain ⟨Z, rfl⟩ := hY
                    rw [List.getElem?_append_left (by omega)]
                  rw [e1, e2]
                · rw [List.getElem?_append_right (by rw [List.length_append]; omega), List.length_append, hxn, List.getElem?_drop, show n + news.length + (j - (n + news.length)) = j by omega]
            · rw [if_neg hj, if_neg hj]
          · refine .inr ⟨g', cap', cur', hv', hb', ?_, h1, h2, h3, h4⟩
            have hlt : g' < w.heap.size := by
              rcases Nat.lt_or_ge g' w.heap.size with h | h
              · exact h
              · rw [Array.getElem?_eq_none h] at hg'; cases hg'
            rw [World.heap_setCells_other w g _ news hlt hgg]
            exact hg'
    · have hr := run_append_grow_src (P := P) w t tx ty e i z ht hi hz (some ⟨g, 0, none⟩) n cap xs (run_firstCells_some w.drew i.size n ⟨g, 0, none⟩ n cap xs (by rw [hsize]; exact hown.1) (by
        have := hown.cells (g := g) rfl
        exact this)) x m news hs1 (by omega) (by omega) (growslice_fits (by omega) (by rw [hby]; exact hbytes))
      exact ⟨_, _, hr, grown cap (by omega), fun X _ => GK.far (far cap)⟩
theorem wpList_appK {w : World} {ops : Array Oper} {rest : List Oper} {o : Oper} {a : Act} {Q : Exit → Act → World → Prop} (hgd : o.guard = none) (s x : Operand) (t tx : TypeId)
    (ho : o.op = .call { callee := .builtin .append, args := #[s, x], argTypes := #[t, tx] })
    (base : Nat) (e : TypeId) (i : TypeInfo) (z : Value) (bytes : Nat) (ht : P.underlying t = some (.slice e)) (hi : P.info? e = some i) (hz : i.zero = some z)
    (hsize : i.size = 1) (hby : i.bytes = bytes) (hzs : z.cells.size = 1)
    (v : Value) (n : Nat) (xs : List Value) (hv : a.eval s = v) (hown : w.ownsRow base e 1 v n xs) (hv0 : 0 < n ∨ v = .slice none 0 0)
    (xv : Value) (m : Nat) (news : List Value) (hx : a.eval x = xv) (hs : Src P 1 tx xv m news w)
    (hbytes : (n + m) * bytes ≤ 140737488355328) (h63 : n + m ≤ maxLen) (hbase : base ≤ w.heap.size)
    (h : ∀ v' w', w'.ownsRow base e 1 v' (n + m) (xs ++ news) → (∀ X, xs ++ news <+: X → GK e base X w w') → wpList P ops Q rest (a.put o.dst v') w') :
    wpList P ops Q (o :: rest) a w := by
  refine wpList_plain hgd fun K hK => ?_
  obtain ⟨v', w', hr, h2, h3⟩ := run_appK (P := P) w base t tx o.type e i z bytes ht hi hz hsize hby hzs v n xs hown hv0 xv m news hs hbytes h63 hbase
  unfold Oper.wp execOp
  simp only [ho, resolve, invoke, builtin, Sem.run_bind, Sem.run_pure, Result.andThen_ok, List.map_toArray, List.map_cons, List.map_nil, hv, hx, hr]
  exact hK _ _ (h v' w' h2 h3)
end
end Go.Proofs.YtnkfkicabgajmaaGreatDoor
