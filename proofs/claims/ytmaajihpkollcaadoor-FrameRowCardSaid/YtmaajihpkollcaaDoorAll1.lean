/-
  CONTRACTS: frame's All, by its loop over the iterator.
-/
import Derived.Test.YtmaajihpkollcaaDoorIt1
import Derived.Test.YtmaajihpkollcaaDoorRange
namespace Go.Proofs.YtmaajihpkollcaaDoor
set_option linter.unusedSimpArgs false
set_option linter.unusedVariables false
open Go Go.RowKit Go.Shelf
attribute [local go_sem] Oper.semAt_some

/-- append, in a round, out of whatever source. -/
theorem wpListIn_app {F : Fence} {N : Nat} {P : Program} {w : World} {ops : Array Oper} {rest : List Oper} {o : Oper} {a : Act} {Q : Exit → Act → World → Prop} (hgd : o.guard = none) (s x : Operand) (t tx : TypeId)
    (ho : o.op = .call { callee := .builtin .append, args := #[s, x], argTypes := #[t, tx] })
    (base : Nat) (e : TypeId) (i : TypeInfo) (z : Value) (size bytes : Nat) (ht : P.underlying t = some (.slice e)) (hi : P.info? e = some i) (hz : i.zero = some z)
    (hsize : i.size = size) (hby : i.bytes = bytes) (hzs : z.cells.size = size)
    (v : Value) (n : Nat) (xs : List Value) (hv : a.eval s = v) (hown : w.ownsRow base e size v n xs)
    (xv : Value) (m : Nat) (news : List Value) (hx : a.eval x = xv) (hs : Src P size tx xv m news w)
    (hbytes : (n + m) * bytes ≤ 140737488355328) (h63 : n + m ≤ maxLen) (hbase : base ≤ w.heap.size)
    (h : ∀ v' w', w'.ownsRow base e size v' (n + m) (xs ++ news) → Fr (fun k => v.ownBlock = some k) w w' → (v'.ownBlock = v.ownBlock ∨ v'.ownBlock = some w.heap.size) → wpListIn F N P ops Q rest (a.put o.dst v') w') :
    wpListIn F N P ops Q (o :: rest) a w := by
  refine wpListIn_plain hgd fun K hK => ?_
  obtain ⟨v', w', hr, h2, h3, h4⟩ := run_app (P := P) w base t tx o.type e i z size bytes ht hi hz hsize hby hzs v n xs hown xv m news hs hbytes h63 hbase
  unfold Oper.wpIn
  refine ⟨?_, ?_⟩
  · simp [Oper.about, ho, resolve, Target.leads, Sem.run_pure]
  · rw [Oper.semAt_plain F _ _ (by rw [ho]; intro c hc'; cases hc')]
    simp [execOp, ho, resolve, invoke, builtin, hv, hx, hr, Result.andThen]
    exact hK _ _ (h v' w' h2 h3 h4)

/-- append, as one operation of a region in a round. -/
theorem oper_app {F : Fence} {N : Nat} {P : Program} {w : World} {ops : Array Oper} {o : Oper} {a : Act} {K : Act → World → Prop} {Q : Exit → Act → World → Prop} {X : Prop} (hgd : o.guard = none) (s x : Operand) (t tx : TypeId)
    (ho : o.op = .call { callee := .builtin .append, args := #[s, x], argTypes := #[t, tx] })
    (base : Nat) (e : TypeId) (i : TypeInfo) (z : Value) (size bytes : Nat) (ht : P.underlying t = some (.slice e)) (hi : P.info? e = some i) (hz : i.zero = some z)
    (hsize : i.size = size) (hby : i.bytes = bytes) (hzs : z.cells.size = size)
    (v : Value) (n : Nat) (xs : List Value) (hv : a.eval s = v) (hown : w.ownsRow base e size v n xs)
    (xv : Value) (m : Nat) (news : List Value) (hx : a.eval x = xv) (hs : Src P size tx xv m news w)
    (hbytes : (n + m) * bytes ≤ 140737488355328) (h63 : n + m ≤ maxLen) (hbase : base ≤ w.heap.size)
    (h : ∀ v' w', w'.ownsRow base e size v' (n + m) (xs ++ news) → Fr (fun k => v.ownBlock = some k) w w' → (v'.ownBlock = v.ownBlock ∨ v'.ownBlock = some w.heap.size) → K (a.put o.dst v') w') :
    if Region.wanted o (yielded ops a.tmps) = true then Oper.wpIn F N P o a w K Q else X := by
  simp only [Region.wanted, hgd, if_true]
  obtain ⟨v', w', hr, h2, h3, h4⟩ := run_app (P := P) w base t tx o.type e i z size bytes ht hi hz hsize hby hzs v n xs hown xv m news hs hbytes h63 hbase
  unfold Oper.wpIn
  refine ⟨?_, ?_⟩
  · simp [Oper.about, ho, resolve, Target.leads, Sem.run_pure]
  · rw [Oper.semAt_plain F _ _ (by rw [ho]; intro c hc'; cases hc')]
    simp [execOp, ho, resolve, invoke, builtin, hv, hx, hr, Result.andThen]
    exact h v' w' h2 h3 h4
theorem bytes_info : (Tryd.prog.info? 25).map (fun i => (i.zero, i.size, i.bytes)) = some (some (.slice none 0 0), 1, 24) := by kernel_rfl
theorem rd_one (W : World) (t : TypeId) (u : Value) : Rd (W.alloc (.cells #[u] t)) (some ⟨W.heap.size, 0, none⟩) 1 [u] := by
  have := Rd.of_blk (n := 1) (Blk.new W t #[u]) (by simp)
  simpa using this

theorem own_own_ne {w : World} {b b' : Nat} {e e' : TypeId} {s s' n n' : Nat} {v v' : Value} {xs xs' : List Value} (h : w.ownsRow b e s v n xs) (h' : w.ownsRow b' e' s' v' n' xs') (hne : e ≠ e') (k : Nat) (hk : v.ownBlock = some k) : v'.ownBlock ≠ some k := by
  rcases h'.2 with ⟨rfl, _⟩ | ⟨g, cap, cur, rfl, _, hh, _⟩
  · simp [Value.ownBlock]
  · intro he
    have : g = k := by simpa [Value.ownBlock] using he
    subst this
    exact own_blk_ne h hh hne hk

theorem records_c (w : World) (v : Value) (hv : ∃ A n c, v = .slice A n c) :
    Calls Tryd.prog 21 #[v] w fun e w' => e = .returned (.func (.func 27) #[] #[.pointer (some ⟨w.heap.size, 0, none⟩)]) ∧ w' = w.alloc (.cells #[v] 25) := by
  obtain ⟨A, n, c, rfl⟩ := hv
  go_enter Tryd.func21, Tryd.ntmps21
  go_wp2_with fail
  go_ret
  exact ⟨rfl, rfl⟩

/-- Rows of bytes of the call's own. -/
def OwnB (w : World) (base : Nat) (v : Value) (ls : List (List UInt8)) : Prop :=
  ∃ us : List Value, w.ownsRow base 25 1 v ls.length us ∧ us.length = ls.length ∧ ∀ i (h : i < ls.length), ∃ u, us[i]? = some u ∧ w.ownsRow base 5 1 u ls[i].length (bv ls[i])

theorem OwnB.fr {w w' : World} {base : Nat} {v : Value} {ls : List (List UInt8)} {fp : Nat → Prop} (h : OwnB w base v ls) (hf : Fr fp w w') (hd : ∀ k, base ≤ k → ¬ fp k) : OwnB w' base v ls := by
  obtain ⟨us, h1, h2, h3⟩ := h
  refine ⟨us, own_fr h1 hf (fun k hk => hd k (h1.lt k hk).1), h2, fun i hi => ?_⟩
  obtain ⟨u, h4, h5⟩ := h3 i hi
  exact ⟨u, h4, own_fr h5 hf (fun k hk => hd k (h5.lt k hk).1)⟩
theorem OwnB.nil (w : World) (base : Nat) : OwnB w base (.slice none 0 0) [] := ⟨[], World.ownsRow_nil _ _ _ _, rfl, fun i hi => by cases hi⟩
theorem OwnB.base {w : World} {base base' : Nat} {v : Value} {ls : List (List UInt8)} (h : OwnB w base v ls) (hb : base' ≤ base) : OwnB w base' v ls := by
  obtain ⟨us, h1, h2, h3⟩ := h
  refine ⟨us, own_base h1 (fun k hk => by have := (h1.lt k hk).1; omega), h2, fun i hi => ?_⟩
  obtain ⟨u, h4, h5⟩ := h3 i hi
  exact ⟨u, h4, own_base h5 (fun k hk => by have := (h5.lt k hk).1; omega)⟩

/-- The bytes of a payload, where they are handed over. -/
theorem rd_payload {W : World} {B : Option Addr} {nb cb : Nat} {b p m : List UInt8} {pre : List (List UInt8)} (hr : Rd W B nb (bv b)) (hc : nb ≤ cb) (hm : b = rowB 0 pre ++ (recB (rowS 0 pre) p ++ m)) : Rd W (plA B (sizes pre + 8) p.length) p.length (bv p) := by
  unfold plA
  by_cases h0 : p.length = 0
  · rw [if_pos h0]
    have : p = [] := List.eq_nil_of_length_eq_zero h0
    subst this
    exact Rd.none_ _ _
  · rw [if_neg h0]
    have hbl : b.length = nb := by rw [← hr.1, bv_length]
    have hlen : sizes pre + (8 + p.length) ≤ nb := by
      rw [← hbl, hm, List.length_append, List.length_append, rowB_length, recB_length]
      omega
    obtain ⟨bb, off, rfl, -⟩ := hr.lit (by omega)
    have h1 := (hr.cut (k := sizes pre + 8) (cap := cb) (by omega) hc).take (k := p.length) (by omega)
    rw [← bv_drop, ← bv_take, if_neg (by omega)] at h1
    have hp : (b.drop (sizes pre + 8)).take p.length = p := by
      have e1 : b.drop (sizes pre) = recB (rowS 0 pre) p ++ m := by
        rw [hm, ← rowB_length 0 pre, List.drop_append_of_le_length (Nat.le_refl _), List.drop_of_length_le (Nat.le_refl _), List.nil_append]
      rw [← List.drop_drop, e1]
      have e2 : (recB (rowS 0 pre) p ++ m).drop 8 = p ++ m := by
        unfold recB
        rw [List.append_assoc, List.drop_append_of_le_length (by simp [be_length])]
        rw [List.drop_of_length_le (by simp [be_length]), List.nil_append]
      rw [e2, List.take_append_of_le_length (Nat.le_refl _), List.take_of_length_le (Nat.le_refl _)]
    rw [hp] at h1
    simpa [Addr.add_lit] using h1
/-- Behind the first append. -/
theorem step3 {w2 w3 : World} {base t1 M pl oc c3 : Nat} {oA A3 : Option Addr} {us : List Value} {l : List UInt8} (hv : Blk w2 t1 22 #[.slice oA pl oc]) (ho : w2.ownsRow base 25 1 (.slice oA pl oc) pl us)
    (hown3 : w3.ownsRow base 5 1 (.slice A3 (0 + M) c3) (0 + M) ([] ++ bv l)) (hf3 : Fr (fun k => (Value.slice (some ⟨w2.heap.size, 0, none⟩) 0 0).ownBlock = some k) (w2.alloc (.cells #[] 5)).drew w3) :
    Hid (Fr (fun _ => False) w2 w3) ∧ Hid ((w3.alloc (.cells #[.slice A3 M c3] 25)).ownsRow base 25 1 (.slice oA pl oc) pl us) ∧ Hid ((w3.alloc (.cells #[.slice A3 M c3] 25)).ownsRow base 5 1 (.slice A3 M c3) M (bv l)) ∧ Hid (Blk w3 t1 22 #[.slice oA pl oc]) := by
  have f : Fr (fun _ => False) w2 w3 := (((Fr.refl (fun _ => False) w2).alloc (.cells #[] 5)).drew).trans hf3 (fun i hi e => by simp [Value.ownBlock] at e; omega)
  refine ⟨f, own_fr (own_fr ho f (fun _ _ h => h)) ((Fr.refl (fun _ => False) w3).alloc _) (fun _ _ h => h), ?_, hv.fr f (fun h => h)⟩
  rw [Nat.zero_add, List.nil_append] at hown3
  exact own_fr hown3 ((Fr.refl (fun _ => False) w3).alloc _) (fun _ _ h => h)
/-- Behind the second append, and the store. -/
theorem step5 {w2 w3 w5 : World} {base t1 M oc c3 c5 : Nat} {oA A3 A5 : Option Addr} {us : List Value} {p : List UInt8} {pre : List (List UInt8)} (hb : t1 < base)
    (hv : Blk w2 t1 22 #[.slice oA pre.length oc]) (ho : w2.ownsRow base 25 1 (.slice oA pre.length oc) pre.length us) (hu : us.length = pre.length ∧ ∀ i (h : i < pre.length), ∃ u, us[i]? = some u ∧ w2.ownsRow base 5 1 u pre[i].length (bv pre[i]))
    (hM : p.length = M) (f3 : Fr (fun _ => False) w2 w3) (h3 : (w3.alloc (.cells #[.slice A3 M c3] 25)).ownsRow base 5 1 (.slice A3 M c3) M (bv p))
    (hown5 : w5.ownsRow base 25 1 (.slice A5 (pre.length + 1) c5) (pre.length + 1) (us ++ [.slice A3 M c3])) (hf5 : Fr (fun k => (Value.slice oA pre.length oc).ownBlock = some k) (w3.alloc (.cells #[.slice A3 M c3] 25)) w5) :
    Hid (Blk w5 t1 22 #[.slice oA pre.length oc]) ∧ Hid (Fr (fun k => k = t1 ∨ base ≤ k) w2 (w5.setCell ⟨t1, 0, none⟩ (.slice A5 (pre.length + 1) c5)) ∧ (∀ g t cs, Blk w2 g t cs → t ≠ 25 → g ≠ t1 → Blk (w5.setCell ⟨t1, 0, none⟩ (.slice A5 (pre.length + 1) c5)) g t cs) ∧
      ∃ v9, Blk (w5.setCell ⟨t1, 0, none⟩ (.slice A5 (pre.length + 1) c5)) t1 22 #[v9] ∧ OwnB (w5.setCell ⟨t1, 0, none⟩ (.slice A5 (pre.length + 1) c5)) base v9 (pre ++ [p])) := by
  have fb : Fr (fun _ => False) w2 (w3.alloc (.cells #[.slice A3 M c3] 25)) := f3.alloc _
  have f5 : Fr (fun k => (Value.slice oA pre.length oc).ownBlock = some k) w2 w5 := (fb.mono (fun _ _ h => h.elim)).trans hf5 (fun _ _ h => h)
  have hbase : ∀ k, (Value.slice oA pre.length oc).ownBlock = some k → base ≤ k := fun k hk => (ho.lt k hk).1
  have v5 : Blk w5 t1 22 #[.slice oA pre.length oc] := hv.fr f5 (fun e => by have := hbase _ e; omega)
  have fs : Fr (fun k => k = t1) w5 (w5.setCell ⟨t1, 0, none⟩ (.slice A5 (pre.length + 1) c5)) := (Fr.refl (fun k => k = t1) w5).setCell (p := ⟨t1, 0, none⟩) (fun _ => rfl) _
  refine ⟨v5, ?_, ?_, _, by have := v5.set_ 0 (.slice A5 (pre.length + 1) c5); simpa using this, us ++ [.slice A3 M c3], ?_, ?_, ?_⟩
  · exact (f5.mono (fun k _ h => .inr (hbase k h))).trans fs (fun _ _ h => .inl h)
  · intro g t cs hg ht hne
    exact (hg.fr f5 (fun e => own_blk_ne ho hg (fun h => ht h.symm) e)).fr fs hne
  · rw [List.length_append]
    exact own_fr hown5 fs (fun k hk e => by have := (hown5.lt k hk).1; omega)
  · rw [List.length_append, List.length_append, hu.1]
    rfl
  · intro i hi
    rw [List.length_append] at hi
    simp only [List.length_cons, List.length_nil] at hi
    by_cases hlt : i < pre.length
    · obtain ⟨u, h1, h2⟩ := hu.2 i hlt
      refine ⟨u, by rw [List.getElem?_append_left (by omega)]; exact h1, ?_⟩
      rw [List.getElem_append_left hlt]
      have h4 := own_fr h2 f5 (fun k hk e => own_own_ne h2 ho (by decide) k hk e)
      exact own_fr h4 fs (fun k hk e => by have := (h4.lt k hk).1; omega)
    · obtain rfl : i = pre.length := by omega
      refine ⟨.slice A3 M c3, by rw [← hu.1]; simp, ?_⟩
      have e : (pre ++ [p])[pre.length]'(by simp) = p := by simp
      rw [e, hM]
      have ho' := own_fr ho fb (fun _ _ h => h)
      have h4 := own_fr h3 hf5 (fun k hk e => own_own_ne h3 ho' (by decide) k hk e)
      exact own_fr h4 fs (fun k hk e => by have := (h4.lt k hk).1; omega)

/-- What the loop of All holds between two rounds. -/
structure AllS (w : World) (B : Option Addr) (nb cb : Nat) (pre : List (List UInt8)) (W : World) : Prop where
  out : ∃ v, Blk W (w.heap.size + 1) 22 #[v] ∧ OwnB W (w.heap.size + 7) v pre
  res : Blk W w.heap.size 30 #[.int .i64 0, .int .i64 0, .int .u32 0]
  tb : Blk W (w.heap.size + 2) 30 #[.int .i64 (pre.length : Int), .int .i64 (sizes pre : Int), .int .u32 (rowS 0 pre : Int)]
  fr : Fr (fun _ => False) w W
theorem AllS.by_ {w : World} {B : Option Addr} {nb cb : Nat} {pre : List (List UInt8)} {A C : World} (h : AllS w B nb cb pre A) (hf : Fr (fun k => w.heap.size + 4 ≤ k ∧ k < w.heap.size + 7) A C) : AllS w B nb cb pre C := by
  obtain ⟨⟨v, h1, h2⟩, h3, h4, h5⟩ := h
  exact ⟨⟨v, h1.fr hf (by omega), h2.fr hf (fun k hk => by omega)⟩, h3.fr hf (by omega), h4.fr hf (by omega), h5.trans hf (fun i hi e => by omega)⟩

set_option maxRecDepth 100000 in
set_option maxHeartbeats 4000000 in
theorem all_c (w : World) (B : Option Addr) (nb cb : Nat) (b : List UInt8) (hr : Rd w B nb (bv b)) (hc1 : nb ≤ cb) (hc2 : cb ≤ maxLen) (hN : Nb w) (hl : nb ≤ 1000000000) :
    Calls Tryd.prog 13 #[.slice B nb cb] w fun e w' => ∃ v, e = .returned (.tuple #[v, tailV ((tells 0 b).1.length : Int) (sizes (tells 0 b).1 : Int) (rowS 0 (tells 0 b).1 : Int)]) ∧ OwnB w' w.heap.size v (tells 0 b).1 ∧ Fr (fun _ => False) w w' := by
  have HR := Lib.hid hr
  have HN := Lib.hid hN
  have HC2 := Lib.hid hc2
  have hlt0 := hN.lt
  have hin : Hid (0 < nb → ∀ k, inA B k → k < w.heap.size) := fun h k hk => hr.lt h hk
  clear hr hN hc2
  refine (callsIn_wide (n := 9)).1 ?_
  refine callsIn_of_wp_marks Tryd.func13 rfl trivial ?_ rfl
  simp only [Tryd.ntmps13, List.size_toArray, List.length_cons, List.length_nil, Nat.reduceAdd, Nat.reduceSub, Array.replicate_succ, Array.replicate_zero, List.push_toArray, List.append_toArray, List.nil_append, List.cons_append]
  gi_wp2_with (refine ⟨trivial, ?_⟩; gi_at_call 21; refine (callsIn_wide.2 (records_c _ _ ⟨_, _, _, rfl⟩)).mono ?_; rintro e w' ⟨rfl, rfl⟩)
  have I0 : AllS w B nb cb [] ((((w.alloc (.cells #[.int .i64 0, .int .i64 0, .int .u32 0] 30)).alloc (.cells #[.slice none 0 0] 22)).alloc (.cells #[.int .i64 0, .int .i64 0, .int .u32 0] 30)).alloc (.cells #[.slice B nb cb] 25)) := by
    have o1 := ((Blk.new (w.alloc (.cells #[.int .i64 0, .int .i64 0, .int .u32 0] 30)) 22 #[.slice none 0 0]).alloc (.cells #[.int .i64 0, .int .i64 0, .int .u32 0] 30)).alloc (.cells #[.slice B nb cb] 25)
    have o2 := (Blk.new ((w.alloc (.cells #[.int .i64 0, .int .i64 0, .int .u32 0] 30)).alloc (.cells #[.slice none 0 0] 22)) 30 #[.int .i64 0, .int .i64 0, .int .u32 0]).alloc (.cells #[.slice B nb cb] 25)
    simp only [World.size_alloc] at o1 o2
    exact ⟨⟨_, o1, OwnB.nil _ _⟩, (((Blk.new w _ _).alloc _).alloc _).alloc _, o2, ((((Fr.refl _ w).alloc _).alloc _).alloc _).alloc _⟩
  have hb3 : Blk ((((w.alloc (.cells #[.int .i64 0, .int .i64 0, .int .u32 0] 30)).alloc (.cells #[.slice none 0 0] 22)).alloc (.cells #[.int .i64 0, .int .i64 0, .int .u32 0] 30)).alloc (.cells #[.slice B nb cb] 25)) (w.heap.size + 3) 25 #[.slice B nb cb] := by
    have o1 := Blk.new (((w.alloc (.cells #[.int .i64 0, .int .i64 0, .int .u32 0] 30)).alloc (.cells #[.slice none 0 0] 22)).alloc (.cells #[.int .i64 0, .int .i64 0, .int .u32 0] 30)) 25 #[.slice B nb cb]
    simp only [World.size_alloc] at o1
    exact o1
  have hsz4 : ((((w.alloc (.cells #[.int .i64 0, .int .i64 0, .int .u32 0] 30)).alloc (.cells #[.slice none 0 0] 22)).alloc (.cells #[.int .i64 0, .int .i64 0, .int .u32 0] 30)).alloc (.cells #[.slice B nb cb] 25)).heap.size = w.heap.size + 4 := by simp
  have HI0 := Lib.hid I0
  have HB3 := Lib.hid hb3
  have HSZ4 := Lib.hid hsz4
  clear I0 hb3 hsz4
  simp only [Nat.add_assoc, Nat.reduceAdd]
  generalize ((((w.alloc (.cells #[.int .i64 0, .int .i64 0, .int .u32 0] 30)).alloc (.cells #[.slice none 0 0] 22)).alloc (.cells #[.int .i64 0, .int .i64 0, .int .u32 0] 30)).alloc (.cells #[.slice B nb cb] 25)) = w4 at *
  refine wpIn_range_joint (α := List UInt8) (gf := 27) (lb := #[.pointer (some ⟨w.heap.size + 3, 0, none⟩)]) rfl (enters_of Tryd.func27 (by kernel_rfl) rfl)
    (fun pre p => #[.slice (plA B (sizes pre + 8) p.length) p.length p.length, tailV ((pre.length : Int) + 1) ((sizes pre : Int) + (8 + (p.length : Int))) (sumOf (rowS 0 pre) p)]) (fun _ _ => rfl)
    (fun pre p => (∃ m, b = rowB 0 pre ++ (recB (rowS 0 pre) p ++ m)) ∧ p.length ≤ 16384) (fun xs => xs = (tells 0 b).1)
    (fun k => k = w.heap.size + 1 ∨ k = w.heap.size + 2 ∨ w.heap.size + 7 ≤ k) 1 ?own (fun pre W => AllS w B nb cb pre W) ?ab HI0.out ?it ?round ?done
  case own =>
    intro k hk
    rw [HSZ4.out]
    omega
  case ab =>
    intro pre A C hi hf
    rw [HSZ4.out] at hf
    exact hi.by_ hf
  case it =>
    intro W1 hs1 hf1 J hJ hY hJ0
    rw [HSZ4.out] at hs1
    have hfw := HI0.out.fr.trans hf1 (fun _ _ h => h)
    rw [HSZ4.out] at hY
    refine (records1_c (9 - 1) (by omega) (w4.heap.size + 1) (w.heap.size + 3) w.heap.size B nb cb b J W1 (HB3.out.fr hf1 (fun h => h)) (HR.out.far hfw) hin.out hc1 HC2.out (HN.out.far hfw) hlt0 (by omega) (by omega)
      (fun pre A C hj hf => hJ _ _ _ hj (hf.mono (fun k _ e => ⟨by omega, by omega⟩))) (fun pre p W' hj hm hp => ?_) hJ0).mono (fun e W' ⟨he, hj⟩ => ⟨he, _, rfl, hj⟩)
    rw [HSZ4.out]
    refine (hY pre p W' hj ⟨hm, hp⟩).mono (fun e W'' ⟨h1, h2, h3⟩ => ⟨h1, h2, h3.size, fun k hk hc => h3.block k hk ?_⟩)
    rintro (h | h)
    · rcases hc with hc | hc | hc <;> rcases h with h | h | h <;> omega
    · rcases hc with hc | hc | hc <;> omega
  case round =>
    intro pre p W' hi hsz hok
    rw [HSZ4.out] at hsz ⊢
    obtain ⟨⟨m, hm⟩, hp⟩ := hok
    have HI := Lib.hid hi
    have HM := Lib.hid hm
    have hple : sizes pre + (8 + p.length) ≤ nb := by
      have hbl : b.length = nb := by rw [← HR.out.1, bv_length]
      rw [← hbl, hm, List.length_append, List.length_append, rowB_length, recB_length]
      omega
    have rp := rd_payload HR.out hc1 hm
    have RP := Lib.hid rp
    have hpl := le_sizes pre
    have hplen : pre.length ≤ 1000000000 := by omega
    clear hi hm rp
    generalize plA B (sizes pre + 8) p.length = PA at *
    obtain ⟨M, hM⟩ : ∃ M, p.length = M := ⟨_, rfl⟩
    obtain ⟨Z, hZ⟩ : ∃ Z, sizes pre = Z := ⟨_, rfl⟩
    obtain ⟨C, hC⟩ : ∃ C, pre.length = C := ⟨_, rfl⟩
    obtain ⟨x, hX⟩ : ∃ x, sumOf (rowS 0 pre) p = x := ⟨_, rfl⟩
    rw [hM] at hp hple RP ⊢
    rw [hZ] at hple hpl ⊢
    rw [hC] at hpl ⊢
    rw [hX]
    have HMM := Lib.hid hM
    have HZ := Lib.hid hZ
    have HC := Lib.hid hC
    have HX := Lib.hid hX
    unfold tailV
    clear hM hZ hC hX
    gi_wp2_with fail
    refine ⟨(Fr.refl _ W').alloc _, fun w2 hf2 => ?_⟩
    have hfw : Fr (fun k => w.heap.size + 4 ≤ k ∧ k < w.heap.size + 7) W' w2 := ((Fr.refl _ W').alloc (.cells #[.int .i64 ((C : Int) + 1), .int .i64 ((Z : Int) + (8 + (M : Int))), .int .u32 (x : Int)] 30)).trans hf2 (fun k _ e => ⟨by omega, by omega⟩)
    have hi2 := HI.out.by_ hfw
    obtain ⟨v, hv, ho⟩ := hi2.out
    obtain ⟨us, ho1, ho2, ho3⟩ := ho
    obtain ⟨oA, oc, rfl, _, _⟩ := own_slice ho1
    have c0 := hv.cell 0
    have k0 := hv.frozen 0
    have z1 := hv.lt
    have hw2s : w.heap.size + 6 < w2.heap.size := by
      have := hf2.size
      simp at this
      omega
    obtain ⟨i0, hi0, hz0, hz1, hz2⟩ := info_parts u8_info
    obtain ⟨i1, hi1, hy0, hy1, hy2⟩ := info_parts bytes_info
    have OE : Hid ((w2.alloc (.cells #[] 5)).drew.ownsRow (w.heap.size + 7) 5 1 (.slice (some ⟨w2.heap.size, 0, none⟩) 0 0) 0 []) :=
      own_fr (own_empty (w2.alloc (.cells #[] 5)) (w.heap.size + 7) w2.heap.size 0 #[] (by omega) (heap_alloc_new w2 _) rfl (by unfold maxLen; omega)) (Fr.refl (fun _ => False) _).drew (fun _ _ h => h)
    have RPa : Hid (Rd (w2.alloc (.cells #[] 5)).drew PA M (bv p)) := RP.out.far ((hi2.fr.alloc _).drew)
    have HT7 : Hid (Blk w2 W'.heap.size 30 #[.int .i64 ((C : Int) + 1), .int .i64 ((Z : Int) + (8 + (M : Int))), .int .u32 (x : Int)]) :=
      (Blk.new W' 30 #[.int .i64 ((C : Int) + 1), .int .i64 ((Z : Int) + (8 + (M : Int))), .int .u32 (x : Int)]).fr hf2 (by omega)
    have HI2 := Lib.hid hi2
    have HV := Lib.hid hv
    have HO := Lib.hid ho1
    have HO3 := Lib.hid (And.intro ho2 ho3)
    clear hi2 hv ho1 ho2 ho3
    gi_wp2_with fail
    refine wpIn_mono (Q := fun e a9 w9 => e = .normal ∧ ∃ x12 x13 x14 x15 x16 x17, a9 = { tmps := #[.slice B nb cb, undef, .slice none 0 0, .pointer (some ⟨w.heap.size, 0, none⟩), .pointer (some ⟨w.heap.size + 1, 0, none⟩), .pointer (some ⟨w.heap.size + 2, 0, none⟩), .slice PA M M, .pointer (some ⟨W'.heap.size, 0, none⟩), .slice B nb cb, .func (.func 27) #[] #[.pointer (some ⟨w.heap.size + 3, 0, none⟩)], .slice PA M M, .agg #[.int .i64 ((C : Int) + 1), .int .i64 ((Z : Int) + (8 + (M : Int))), .int .u32 (x : Int)], x12, x13, x14, x15, x16, x17, undef, undef, undef], defers := [] } ∧
      (Fr (fun k => k = w.heap.size + 1 ∨ w.heap.size + 7 ≤ k) w2 w9 ∧ (∀ g t cs, Blk w2 g t cs → t ≠ 25 → g ≠ w.heap.size + 1 → Blk w9 g t cs) ∧ ∃ v9, Blk w9 (w.heap.size + 1) 22 #[v9] ∧ OwnB w9 (w.heap.size + 7) v9 (pre ++ [p]))) ?reg ?rest
    case reg =>
      refine wpIn_region_any (by kernel_rfl) ?_
      change wpAnyIn _ _ _ _ _ _ _ _ _ (World.drew _)
      refine wpAnyIn_ready (rs := [0, 1, 2]) (by kernel_rfl) (by simp) ?_
      refine AllReadyIn.cons rfl (fun K hK => ?_) ?_
      · go_simp
        refine hK _ _ ?_
        clear hK K
        refine wpAnyIn_ready (rs := [1, 2]) (by kernel_rfl) (by simp) ?_
        refine AllReadyIn.cons rfl (fun K hK => ?_) ?_
        · go_simp
          refine hK _ _ ?_
          clear hK K
          refine wpAnyIn_ready (rs := [2]) (by kernel_rfl) (by simp) ?_
          refine AllReadyIn.cons rfl (fun K hK => ?_) ?_
          · go_simp
            refine hK _ _ ?_
            clear hK K
            refine wpAnyIn_ready (rs := [3]) (by kernel_rfl) (by simp) ?_
            refine AllReadyIn.cons rfl (fun K hK => ?_) ?_
            · refine oper_app rfl _ _ _ _ rfl (w.heap.size + 7) 5 i0 _ 1 1 Tryd.underlying25 hi0 hz0 hz1 hz2 rfl _ 0 _ rfl OE.out _ M _ rfl (Src.rd Tryd.underlying25 _ RPa.out (bv_one _)) (by omega) (by unfold maxLen; omega) (by simp; omega) ?_
              intro v3 w3 hown3 hf3 hn3
              obtain ⟨A3, c3, rfl, _, _⟩ := own_slice hown3
              obtain ⟨F3, OU, O3, X1⟩ := step3 HV.out HO.out hown3 hf3
              have x0 := X1.out.cell 0
              have xz := X1.out.lt
              have xs := F3.out.size
              simp only [Nat.zero_add] at *
              clear hown3 hf3 hn3
              refine hK _ _ ?_
              clear hK K
              refine wpAnyIn_ready (rs := [4]) (by kernel_rfl) (by simp) ?_
              refine AllReadyIn.cons rfl (fun K hK => ?_) ?_
              · go_simp
                refine hK _ _ ?_
                clear hK K
                refine wpAnyIn_ready (rs := [5]) (by kernel_rfl) (by simp) ?_
                refine AllReadyIn.cons rfl (fun K hK => ?_) ?_
                · refine oper_app rfl _ _ _ _ rfl (w.heap.size + 7) 25 i1 _ 1 24 Tryd.underlying22 hi1 hy0 hy1 hy2 rfl _ pre.length _ rfl OU.out _ 1 _ rfl (Src.rd Tryd.underlying22 _ (rd_one _ _ _) (fun u hu => by rw [List.mem_singleton.1 hu]; rfl)) (by omega) (by unfold maxLen; omega) (by simp; omega) ?_
                  intro v5 w5 hown5 hf5 hn5
                  obtain ⟨A5, c5, rfl, _, _⟩ := own_slice hown5
                  obtain ⟨VV, FIN⟩ := step5 (by omega) HV.out HO.out HO3.out HMM.out F3.out O3.out hown5 hf5
                  have y0 := VV.out.cell 0
                  have q0 := VV.out.frozen 0
                  clear hown5 hf5 hn5
                  refine hK _ _ ?_
                  clear hK K
                  refine wpAnyIn_ready (rs := [6]) (by kernel_rfl) (by simp) ?_
                  refine AllReadyIn.cons rfl (fun K hK => ?_) ?_
                  · go_simp
                    refine hK _ _ ?_
                    clear hK K
                    refine wpAnyIn_done (by kernel_rfl) ?_ _
                    exact ⟨rfl, _, _, _, _, _, _, rfl, FIN.out⟩
                  exact AllReadyIn.nil
                exact AllReadyIn.nil
              exact AllReadyIn.nil
            exact AllReadyIn.nil
          exact AllReadyIn.nil
        refine AllReadyIn.cons rfl (fun K hK => ?_) ?_
        · go_simp
          refine hK _ _ ?_
          clear hK K
          refine wpAnyIn_ready (rs := [1]) (by kernel_rfl) (by simp) ?_
          refine AllReadyIn.cons rfl (fun K hK => ?_) ?_
          · go_simp
            refine hK _ _ ?_
            clear hK K
            refine wpAnyIn_ready (rs := [3]) (by kernel_rfl) (by simp) ?_
            refine AllReadyIn.cons rfl (fun K hK => ?_) ?_
            · refine oper_app rfl _ _ _ _ rfl (w.heap.size + 7) 5 i0 _ 1 1 Tryd.underlying25 hi0 hz0 hz1 hz2 rfl _ 0 _ rfl OE.out _ M _ rfl (Src.rd Tryd.underlying25 _ RPa.out (bv_one _)) (by omega) (by unfold maxLen; omega) (by simp; omega) ?_
              intro v3 w3 hown3 hf3 hn3
              obtain ⟨A3, c3, rfl, _, _⟩ := own_slice hown3
              obtain ⟨F3, OU, O3, X1⟩ := step3 HV.out HO.out hown3 hf3
              have x0 := X1.out.cell 0
              have xz := X1.out.lt
              have xs := F3.out.size
              simp only [Nat.zero_add] at *
              clear hown3 hf3 hn3
              refine hK _ _ ?_
              clear hK K
              refine wpAnyIn_ready (rs := [4]) (by kernel_rfl) (by simp) ?_
              refine AllReadyIn.cons rfl (fun K hK => ?_) ?_
              · go_simp
                refine hK _ _ ?_
                clear hK K
                refine wpAnyIn_ready (rs := [5]) (by kernel_rfl) (by simp) ?_
                refine AllReadyIn.cons rfl (fun K hK => ?_) ?_
                · refine oper_app rfl _ _ _ _ rfl (w.heap.size + 7) 25 i1 _ 1 24 Tryd.underlying22 hi1 hy0 hy1 hy2 rfl _ pre.length _ rfl OU.out _ 1 _ rfl (Src.rd Tryd.underlying22 _ (rd_one _ _ _) (fun u hu => by rw [List.mem_singleton.1 hu]; rfl)) (by omega) (by unfold maxLen; omega) (by simp; omega) ?_
                  intro v5 w5 hown5 hf5 hn5
                  obtain ⟨A5, c5, rfl, _, _⟩ := own_slice hown5
                  obtain ⟨VV, FIN⟩ := step5 (by omega) HV.out HO.out HO3.out HMM.out F3.out O3.out hown5 hf5
                  have y0 := VV.out.cell 0
                  have q0 := VV.out.frozen 0
                  clear hown5 hf5 hn5
                  refine hK _ _ ?_
                  clear hK K
                  refine wpAnyIn_ready (rs := [6]) (by kernel_rfl) (by simp) ?_
                  refine AllReadyIn.cons rfl (fun K hK => ?_) ?_
                  · go_simp
                    refine hK _ _ ?_
                    clear hK K
                    refine wpAnyIn_done (by kernel_rfl) ?_ _
                    exact ⟨rfl, _, _, _, _, _, _, rfl, FIN.out⟩
                  exact AllReadyIn.nil
                exact AllReadyIn.nil
              exact AllReadyIn.nil
            exact AllReadyIn.nil
          exact AllReadyIn.nil
        exact AllReadyIn.nil
      refine AllReadyIn.cons rfl (fun K hK => ?_) ?_
      · go_simp
        refine hK _ _ ?_
        clear hK K
        refine wpAnyIn_ready (rs := [0, 2]) (by kernel_rfl) (by simp) ?_
        refine AllReadyIn.cons rfl (fun K hK => ?_) ?_
        · go_simp
          refine hK _ _ ?_
          clear hK K
          refine wpAnyIn_ready (rs := [2]) (by kernel_rfl) (by simp) ?_
          refine AllReadyIn.cons rfl (fun K hK => ?_) ?_
          · go_simp
            refine hK _ _ ?_
            clear hK K
            refine wpAnyIn_ready (rs := [3]) (by kernel_rfl) (by simp) ?_
            refine AllReadyIn.cons rfl (fun K hK => ?_) ?_
            · refine oper_app rfl _ _ _ _ rfl (w.heap.size + 7) 5 i0 _ 1 1 Tryd.underlying25 hi0 hz0 hz1 hz2 rfl _ 0 _ rfl OE.out _ M _ rfl (Src.rd Tryd.underlying25 _ RPa.out (bv_one _)) (by omega) (by unfold maxLen; omega) (by simp; omega) ?_
              intro v3 w3 hown3 hf3 hn3
              obtain ⟨A3, c3, rfl, _, _⟩ := own_slice hown3
              obtain ⟨F3, OU, O3, X1⟩ := step3 HV.out HO.out hown3 hf3
              have x0 := X1.out.cell 0
              have xz := X1.out.lt
              have xs := F3.out.size
              simp only [Nat.zero_add] at *
              clear hown3 hf3 hn3
              refine hK _ _ ?_
              clear hK K
              refine wpAnyIn_ready (rs := [4]) (by kernel_rfl) (by simp) ?_
              refine AllReadyIn.cons rfl (fun K hK => ?_) ?_
              · go_simp
                refine hK _ _ ?_
                clear hK K
                refine wpAnyIn_ready (rs := [5]) (by kernel_rfl) (by simp) ?_
                refine AllReadyIn.cons rfl (fun K hK => ?_) ?_
                · refine oper_app rfl _ _ _ _ rfl (w.heap.size + 7) 25 i1 _ 1 24 Tryd.underlying22 hi1 hy0 hy1 hy2 rfl _ pre.length _ rfl OU.out _ 1 _ rfl (Src.rd Tryd.underlying22 _ (rd_one _ _ _) (fun u hu => by rw [List.mem_singleton.1 hu]; rfl)) (by omega) (by unfold maxLen; omega) (by simp; omega) ?_
                  intro v5 w5 hown5 hf5 hn5
                  obtain ⟨A5, c5, rfl, _, _⟩ := own_slice hown5
                  obtain ⟨VV, FIN⟩ := step5 (by omega) HV.out HO.out HO3.out HMM.out F3.out O3.out hown5 hf5
                  have y0 := VV.out.cell 0
                  have q0 := VV.out.frozen 0
                  clear hown5 hf5 hn5
                  refine hK _ _ ?_
                  clear hK K
                  refine wpAnyIn_ready (rs := [6]) (by kernel_rfl) (by simp) ?_
                  refine AllReadyIn.cons rfl (fun K hK => ?_) ?_
                  · go_simp
                    refine hK _ _ ?_
                    clear hK K
                    refine wpAnyIn_done (by kernel_rfl) ?_ _
                    exact ⟨rfl, _, _, _, _, _, _, rfl, FIN.out⟩
                  exact AllReadyIn.nil
                exact AllReadyIn.nil
              exact AllReadyIn.nil
            exact AllReadyIn.nil
          exact AllReadyIn.nil
        refine AllReadyIn.cons rfl (fun K hK => ?_) ?_
        · go_simp
          refine hK _ _ ?_
          clear hK K
          refine wpAnyIn_ready (rs := [0, 3]) (by kernel_rfl) (by simp) ?_
          refine AllReadyIn.cons rfl (fun K hK => ?_) ?_
          · go_simp
            refine hK _ _ ?_
            clear hK K
            refine wpAnyIn_ready (rs := [3]) (by kernel_rfl) (by simp) ?_
            refine AllReadyIn.cons rfl (fun K hK => ?_) ?_
            · refine oper_app rfl _ _ _ _ rfl (w.heap.size + 7) 5 i0 _ 1 1 Tryd.underlying25 hi0 hz0 hz1 hz2 rfl _ 0 _ rfl OE.out _ M _ rfl (Src.rd Tryd.underlying25 _ RPa.out (bv_one _)) (by omega) (by unfold maxLen; omega) (by simp; omega) ?_
              intro v3 w3 hown3 hf3 hn3
              obtain ⟨A3, c3, rfl, _, _⟩ := own_slice hown3
              obtain ⟨F3, OU, O3, X1⟩ := step3 HV.out HO.out hown3 hf3
              have x0 := X1.out.cell 0
              have xz := X1.out.lt
              have xs := F3.out.size
              simp only [Nat.zero_add] at *
              clear hown3 hf3 hn3
              refine hK _ _ ?_
              clear hK K
              refine wpAnyIn_ready (rs := [4]) (by kernel_rfl) (by simp) ?_
              refine AllReadyIn.cons rfl (fun K hK => ?_) ?_
              · go_simp
                refine hK _ _ ?_
                clear hK K
                refine wpAnyIn_ready (rs := [5]) (by kernel_rfl) (by simp) ?_
                refine AllReadyIn.cons rfl (fun K hK => ?_) ?_
                · refine oper_app rfl _ _ _ _ rfl (w.heap.size + 7) 25 i1 _ 1 24 Tryd.underlying22 hi1 hy0 hy1 hy2 rfl _ pre.length _ rfl OU.out _ 1 _ rfl (Src.rd Tryd.underlying22 _ (rd_one _ _ _) (fun u hu => by rw [List.mem_singleton.1 hu]; rfl)) (by omega) (by unfold maxLen; omega) (by simp; omega) ?_
                  intro v5 w5 hown5 hf5 hn5
                  obtain ⟨A5, c5, rfl, _, _⟩ := own_slice hown5
                  obtain ⟨VV, FIN⟩ := step5 (by omega) HV.out HO.out HO3.out HMM.out F3.out O3.out hown5 hf5
                  have y0 := VV.out.cell 0
                  have q0 := VV.out.frozen 0
                  clear hown5 hf5 hn5
                  refine hK _ _ ?_
                  clear hK K
                  refine wpAnyIn_ready (rs := [6]) (by kernel_rfl) (by simp) ?_
                  refine AllReadyIn.cons rfl (fun K hK => ?_) ?_
                  · go_simp
                    refine hK _ _ ?_
                    clear hK K
                    refine wpAnyIn_done (by kernel_rfl) ?_ _
                    exact ⟨rfl, _, _, _, _, _, _, rfl, FIN.out⟩
                  exact AllReadyIn.nil
                exact AllReadyIn.nil
              exact AllReadyIn.nil
            exact AllReadyIn.nil
          refine AllReadyIn.cons rfl (fun K hK => ?_) ?_
          · refine oper_app rfl _ _ _ _ rfl (w.heap.size + 7) 5 i0 _ 1 1 Tryd.underlying25 hi0 hz0 hz1 hz2 rfl _ 0 _ rfl OE.out _ M _ rfl (Src.rd Tryd.underlying25 _ RPa.out (bv_one _)) (by omega) (by unfold maxLen; omega) (by simp; omega) ?_
            intro v3 w3 hown3 hf3 hn3
            obtain ⟨A3, c3, rfl, _, _⟩ := own_slice hown3
            obtain ⟨F3, OU, O3, X1⟩ := step3 HV.out HO.out hown3 hf3
            have x0 := X1.out.cell 0
            have xz := X1.out.lt
            have xs := F3.out.size
            simp only [Nat.zero_add] at *
            clear hown3 hf3 hn3
            refine hK _ _ ?_
            clear hK K
            refine wpAnyIn_ready (rs := [0, 4]) (by kernel_rfl) (by simp) ?_
            refine AllReadyIn.cons rfl (fun K hK => ?_) ?_
            · go_simp
              refine hK _ _ ?_
              clear hK K
              refine wpAnyIn_ready (rs := [4]) (by kernel_rfl) (by simp) ?_
              refine AllReadyIn.cons rfl (fun K hK => ?_) ?_
              · go_simp
                refine hK _ _ ?_
                clear hK K
                refine wpAnyIn_ready (rs := [5]) (by kernel_rfl) (by simp) ?_
                refine AllReadyIn.cons rfl (fun K hK => ?_) ?_
                · refine oper_app rfl _ _ _ _ rfl (w.heap.size + 7) 25 i1 _ 1 24 Tryd.underlying22 hi1 hy0 hy1 hy2 rfl _ pre.length _ rfl OU.out _ 1 _ rfl (Src.rd Tryd.underlying22 _ (rd_one _ _ _) (fun u hu => by rw [List.mem_singleton.1 hu]; rfl)) (by omega) (by unfold maxLen; omega) (by simp; omega) ?_
                  intro v5 w5 hown5 hf5 hn5
                  obtain ⟨A5, c5, rfl, _, _⟩ := own_slice hown5
                  obtain ⟨VV, FIN⟩ := step5 (by omega) HV.out HO.out HO3.out HMM.out F3.out O3.out hown5 hf5
                  have y0 := VV.out.cell 0
                  have q0 := VV.out.frozen 0
                  clear hown5 hf5 hn5
                  refine hK _ _ ?_
                  clear hK K
                  refine wpAnyIn_ready (rs := [6]) (by kernel_rfl) (by simp) ?_
                  refine AllReadyIn.cons rfl (fun K hK => ?_) ?_
                  · go_simp
                    refine hK _ _ ?_
                    clear hK K
                    refine wpAnyIn_done (by kernel_rfl) ?_ _
                    exact ⟨rfl, _, _, _, _, _, _, rfl, FIN.out⟩
                  exact AllReadyIn.nil
                exact AllReadyIn.nil
              exact AllReadyIn.nil
            refine AllReadyIn.cons rfl (fun K hK => ?_) ?_
            · go_simp
              refine hK _ _ ?_
              clear hK K
              refine wpAnyIn_ready (rs := [0]) (by kernel_rfl) (by simp) ?_
              refine AllReadyIn.cons rfl (fun K hK => ?_) ?_
              · go_simp
                refine hK _ _ ?_
                clear hK K
                refine wpAnyIn_ready (rs := [5]) (by kernel_rfl) (by simp) ?_
                refine AllReadyIn.cons rfl (fun K hK => ?_) ?_
                · refine oper_app rfl _ _ _ _ rfl (w.heap.size + 7) 25 i1 _ 1 24 Tryd.underlying22 hi1 hy0 hy1 hy2 rfl _ pre.length _ rfl OU.out _ 1 _ rfl (Src.rd Tryd.underlying22 _ (rd_one _ _ _) (fun u hu => by rw [List.mem_singleton.1 hu]; rfl)) (by omega) (by unfold maxLen; omega) (by simp; omega) ?_
                  intro v5 w5 hown5 hf5 hn5
                  obtain ⟨A5, c5, rfl, _, _⟩ := own_slice hown5
                  obtain ⟨VV, FIN⟩ := step5 (by omega) HV.out HO.out HO3.out HMM.out F3.out O3.out hown5 hf5
                  have y0 := VV.out.cell 0
                  have q0 := VV.out.frozen 0
                  clear hown5 hf5 hn5
                  refine hK _ _ ?_
                  clear hK K
                  refine wpAnyIn_ready (rs := [6]) (by kernel_rfl) (by simp) ?_
                  refine AllReadyIn.cons rfl (fun K hK => ?_) ?_
                  · go_simp
                    refine hK _ _ ?_
                    clear hK K
                    refine wpAnyIn_done (by kernel_rfl) ?_ _
                    exact ⟨rfl, _, _, _, _, _, _, rfl, FIN.out⟩
                  exact AllReadyIn.nil
                exact AllReadyIn.nil
              exact AllReadyIn.nil
            exact AllReadyIn.nil
          exact AllReadyIn.nil
        exact AllReadyIn.nil
      refine AllReadyIn.cons rfl (fun K hK => ?_) ?_
      · go_simp
        refine hK _ _ ?_
        clear hK K
        refine wpAnyIn_ready (rs := [0, 1]) (by kernel_rfl) (by simp) ?_
        refine AllReadyIn.cons rfl (fun K hK => ?_) ?_
        · go_simp
          refine hK _ _ ?_
          clear hK K
          refine wpAnyIn_ready (rs := [1]) (by kernel_rfl) (by simp) ?_
          refine AllReadyIn.cons rfl (fun K hK => ?_) ?_
          · go_simp
            refine hK _ _ ?_
            clear hK K
            refine wpAnyIn_ready (rs := [3]) (by kernel_rfl) (by simp) ?_
            refine AllReadyIn.cons rfl (fun K hK => ?_) ?_
            · refine oper_app rfl _ _ _ _ rfl (w.heap.size + 7) 5 i0 _ 1 1 Tryd.underlying25 hi0 hz0 hz1 hz2 rfl _ 0 _ rfl OE.out _ M _ rfl (Src.rd Tryd.underlying25 _ RPa.out (bv_one _)) (by omega) (by unfold maxLen; omega) (by simp; omega) ?_
              intro v3 w3 hown3 hf3 hn3
              obtain ⟨A3, c3, rfl, _, _⟩ := own_slice hown3
              obtain ⟨F3, OU, O3, X1⟩ := step3 HV.out HO.out hown3 hf3
              have x0 := X1.out.cell 0
              have xz := X1.out.lt
              have xs := F3.out.size
              simp only [Nat.zero_add] at *
              clear hown3 hf3 hn3
              refine hK _ _ ?_
              clear hK K
              refine wpAnyIn_ready (rs := [4]) (by kernel_rfl) (by simp) ?_
              refine AllReadyIn.cons rfl (fun K hK => ?_) ?_
              · go_simp
                refine hK _ _ ?_
                clear hK K
                refine wpAnyIn_ready (rs := [5]) (by kernel_rfl) (by simp) ?_
                refine AllReadyIn.cons rfl (fun K hK => ?_) ?_
                · refine oper_app rfl _ _ _ _ rfl (w.heap.size + 7) 25 i1 _ 1 24 Tryd.underlying22 hi1 hy0 hy1 hy2 rfl _ pre.length _ rfl OU.out _ 1 _ rfl (Src.rd Tryd.underlying22 _ (rd_one _ _ _) (fun u hu => by rw [List.mem_singleton.1 hu]; rfl)) (by omega) (by unfold maxLen; omega) (by simp; omega) ?_
                  intro v5 w5 hown5 hf5 hn5
                  obtain ⟨A5, c5, rfl, _, _⟩ := own_slice hown5
                  obtain ⟨VV, FIN⟩ := step5 (by omega) HV.out HO.out HO3.out HMM.out F3.out O3.out hown5 hf5
                  have y0 := VV.out.cell 0
                  have q0 := VV.out.frozen 0
                  clear hown5 hf5 hn5
                  refine hK _ _ ?_
                  clear hK K
                  refine wpAnyIn_ready (rs := [6]) (by kernel_rfl) (by simp) ?_
                  refine AllReadyIn.cons rfl (fun K hK => ?_) ?_
                  · go_simp
                    refine hK _ _ ?_
                    clear hK K
                    refine wpAnyIn_done (by kernel_rfl) ?_ _
                    exact ⟨rfl, _, _, _, _, _, _, rfl, FIN.out⟩
                  exact AllReadyIn.nil
                exact AllReadyIn.nil
              exact AllReadyIn.nil
            exact AllReadyIn.nil
          exact AllReadyIn.nil
        refine AllReadyIn.cons rfl (fun K hK => ?_) ?_
        · go_simp
          refine hK _ _ ?_
          clear hK K
          refine wpAnyIn_ready (rs := [0, 3]) (by kernel_rfl) (by simp) ?_
          refine AllReadyIn.cons rfl (fun K hK => ?_) ?_
          · go_simp
            refine hK _ _ ?_
            clear hK K
            refine wpAnyIn_ready (rs := [3]) (by kernel_rfl) (by simp) ?_
            refine AllReadyIn.cons rfl (fun K hK => ?_) ?_
            · refine oper_app rfl _ _ _ _ rfl (w.heap.size + 7) 5 i0 _ 1 1 Tryd.underlying25 hi0 hz0 hz1 hz2 rfl _ 0 _ rfl OE.out _ M _ rfl (Src.rd Tryd.underlying25 _ RPa.out (bv_one _)) (by omega) (by unfold maxLen; omega) (by simp; omega) ?_
              intro v3 w3 hown3 hf3 hn3
              obtain ⟨A3, c3, rfl, _, _⟩ := own_slice hown3
              obtain ⟨F3, OU, O3, X1⟩ := step3 HV.out HO.out hown3 hf3
              have x0 := X1.out.cell 0
              have xz := X1.out.lt
              have xs := F3.out.size
              simp only [Nat.zero_add] at *
              clear hown3 hf3 hn3
              refine hK _ _ ?_
              clear hK K
              refine wpAnyIn_ready (rs := [4]) (by kernel_rfl) (by simp) ?_
              refine AllReadyIn.cons rfl (fun K hK => ?_) ?_
              · go_simp
                refine hK _ _ ?_
                clear hK K
                refine wpAnyIn_ready (rs := [5]) (by kernel_rfl) (by simp) ?_
                refine AllReadyIn.cons rfl (fun K hK => ?_) ?_
                · refine oper_app rfl _ _ _ _ rfl (w.heap.size + 7) 25 i1 _ 1 24 Tryd.underlying22 hi1 hy0 hy1 hy2 rfl _ pre.length _ rfl OU.out _ 1 _ rfl (Src.rd Tryd.underlying22 _ (rd_one _ _ _) (fun u hu => by rw [List.mem_singleton.1 hu]; rfl)) (by omega) (by unfold maxLen; omega) (by simp; omega) ?_
                  intro v5 w5 hown5 hf5 hn5
                  obtain ⟨A5, c5, rfl, _, _⟩ := own_slice hown5
                  obtain ⟨VV, FIN⟩ := step5 (by omega) HV.out HO.out HO3.out HMM.out F3.out O3.out hown5 hf5
                  have y0 := VV.out.cell 0
                  have q0 := VV.out.frozen 0
                  clear hown5 hf5 hn5
                  refine hK _ _ ?_
                  clear hK K
                  refine wpAnyIn_ready (rs := [6]) (by kernel_rfl) (by simp) ?_
                  refine AllReadyIn.cons rfl (fun K hK => ?_) ?_
                  · go_simp
                    refine hK _ _ ?_
                    clear hK K
                    refine wpAnyIn_done (by kernel_rfl) ?_ _
                    exact ⟨rfl, _, _, _, _, _, _, rfl, FIN.out⟩
                  exact AllReadyIn.nil
                exact AllReadyIn.nil
              exact AllReadyIn.nil
            exact AllReadyIn.nil
          refine AllReadyIn.cons rfl (fun K hK => ?_) ?_
          · refine oper_app rfl _ _ _ _ rfl (w.heap.size + 7) 5 i0 _ 1 1 Tryd.underlying25 hi0 hz0 hz1 hz2 rfl _ 0 _ rfl OE.out _ M _ rfl (Src.rd Tryd.underlying25 _ RPa.out (bv_one _)) (by omega) (by unfold maxLen; omega) (by simp; omega) ?_
            intro v3 w3 hown3 hf3 hn3
            obtain ⟨A3, c3, rfl, _, _⟩ := own_slice hown3
            obtain ⟨F3, OU, O3, X1⟩ := step3 HV.out HO.out hown3 hf3
            have x0 := X1.out.cell 0
            have xz := X1.out.lt
            have xs := F3.out.size
            simp only [Nat.zero_add] at *
            clear hown3 hf3 hn3
            refine hK _ _ ?_
            clear hK K
            refine wpAnyIn_ready (rs := [0, 4]) (by kernel_rfl) (by simp) ?_
            refine AllReadyIn.cons rfl (fun K hK => ?_) ?_
            · go_simp
              refine hK _ _ ?_
              clear hK K
              refine wpAnyIn_ready (rs := [4]) (by kernel_rfl) (by simp) ?_
              refine AllReadyIn.cons rfl (fun K hK => ?_) ?_
              · go_simp
                refine hK _ _ ?_
                clear hK K
                refine wpAnyIn_ready (rs := [5]) (by kernel_rfl) (by simp) ?_
                refine AllReadyIn.cons rfl (fun K hK => ?_) ?_
                · refine oper_app rfl _ _ _ _ rfl (w.heap.size + 7) 25 i1 _ 1 24 Tryd.underlying22 hi1 hy0 hy1 hy2 rfl _ pre.length _ rfl OU.out _ 1 _ rfl (Src.rd Tryd.underlying22 _ (rd_one _ _ _) (fun u hu => by rw [List.mem_singleton.1 hu]; rfl)) (by omega) (by unfold maxLen; omega) (by simp; omega) ?_
                  intro v5 w5 hown5 hf5 hn5
                  obtain ⟨A5, c5, rfl, _, _⟩ := own_slice hown5
                  obtain ⟨VV, FIN⟩ := step5 (by omega) HV.out HO.out HO3.out HMM.out F3.out O3.out hown5 hf5
                  have y0 := VV.out.cell 0
                  have q0 := VV.out.frozen 0
                  clear hown5 hf5 hn5
                  refine hK _ _ ?_
                  clear hK K
                  refine wpAnyIn_ready (rs := [6]) (by kernel_rfl) (by simp) ?_
                  refine AllReadyIn.cons rfl (fun K hK => ?_) ?_
                  · go_simp
                    refine hK _ _ ?_
                    clear hK K
                    refine wpAnyIn_done (by kernel_rfl) ?_ _
                    exact ⟨rfl, _, _, _, _, _, _, rfl, FIN.out⟩
                  exact AllReadyIn.nil
                exact AllReadyIn.nil
              exact AllReadyIn.nil
            refine AllReadyIn.cons rfl (fun K hK => ?_) ?_
            · go_simp
              refine hK _ _ ?_
              clear hK K
              refine wpAnyIn_ready (rs := [0]) (by kernel_rfl) (by simp) ?_
              refine AllReadyIn.cons rfl (fun K hK => ?_) ?_
              · go_simp
                refine hK _ _ ?_
                clear hK K
                refine wpAnyIn_ready (rs := [5]) (by kernel_rfl) (by simp) ?_
                refine AllReadyIn.cons rfl (fun K hK => ?_) ?_
                · refine oper_app rfl _ _ _ _ rfl (w.heap.size + 7) 25 i1 _ 1 24 Tryd.underlying22 hi1 hy0 hy1 hy2 rfl _ pre.length _ rfl OU.out _ 1 _ rfl (Src.rd Tryd.underlying22 _ (rd_one _ _ _) (fun u hu => by rw [List.mem_singleton.1 hu]; rfl)) (by omega) (by unfold maxLen; omega) (by simp; omega) ?_
                  intro v5 w5 hown5 hf5 hn5
                  obtain ⟨A5, c5, rfl, _, _⟩ := own_slice hown5
                  obtain ⟨VV, FIN⟩ := step5 (by omega) HV.out HO.out HO3.out HMM.out F3.out O3.out hown5 hf5
                  have y0 := VV.out.cell 0
                  have q0 := VV.out.frozen 0
                  clear hown5 hf5 hn5
                  refine hK _ _ ?_
                  clear hK K
                  refine wpAnyIn_ready (rs := [6]) (by kernel_rfl) (by simp) ?_
                  refine AllReadyIn.cons rfl (fun K hK => ?_) ?_
                  · go_simp
                    refine hK _ _ ?_
                    clear hK K
                    refine wpAnyIn_done (by kernel_rfl) ?_ _
                    exact ⟨rfl, _, _, _, _, _, _, rfl, FIN.out⟩
                  exact AllReadyIn.nil
                exact AllReadyIn.nil
              exact AllReadyIn.nil
            exact AllReadyIn.nil
          exact AllReadyIn.nil
        exact AllReadyIn.nil
      exact AllReadyIn.nil
    case rest =>
      rintro e a9 w9 ⟨rfl, x12, x13, x14, x15, x16, x17, rfl, f9, g9, v9, b9, o9⟩
      have h7 := g9 _ _ _ HT7.out (by decide) (by omega)
      have h5 := g9 _ _ _ HI2.out.tb (by decide) (by omega)
      have h6 := g9 _ _ _ HI2.out.res (by decide) (by omega)
      have d0 := h7.cell 0
      have d1 := h7.cell 1
      have d2 := h7.cell 2
      have y0 := h5.cell 0
      have y1 := h5.cell 1
      have y2 := h5.cell 2
      have q0 := h5.frozen 0
      have q1 := h5.frozen 1
      have q2 := h5.frozen 2
      have H5 := Lib.hid h5
      have H6 := Lib.hid h6
      have F9 := Lib.hid f9
      have B9 := Lib.hid b9
      have O9 := Lib.hid o9
      clear f9 g9 b9 o9 h5 h6 h7
      gi_wp2_with fail
      have fset : Fr (fun k => k = w.heap.size + 2) w9 (((w9.setCell ⟨w.heap.size + 2, 0, none⟩ (.int .i64 ((C : Int) + 1))).setCell ⟨w.heap.size + 2, 1, none⟩ (.int .i64 ((Z : Int) + (8 + (M : Int))))).setCell ⟨w.heap.size + 2, 2, none⟩ (.int .u32 (x : Int))) := (((Fr.refl _ w9).set_ _ _).set_ _ _).set_ _ _
      have ffin : Fr (fun k => k = w.heap.size + 1 ∨ k = w.heap.size + 2 ∨ w.heap.size + 7 ≤ k) w2 (((w9.setCell ⟨w.heap.size + 2, 0, none⟩ (.int .i64 ((C : Int) + 1))).setCell ⟨w.heap.size + 2, 1, none⟩ (.int .i64 ((Z : Int) + (8 + (M : Int))))).setCell ⟨w.heap.size + 2, 2, none⟩ (.int .u32 (x : Int))) :=
        (F9.out.mono (fun k _ h => by rcases h with h | h; exact .inl h; exact .inr (.inr h))).trans fset (fun k _ h => .inr (.inl h))
      refine ⟨ffin, ⟨v9, B9.out.fr fset (by omega), O9.out.fr fset (fun k hk => by omega)⟩, H6.out.fr fset (by omega), ?_, HI2.out.fr.trans ffin (fun i hi h => by rcases h with h | h | h <;> omega)⟩
      have h := ((H5.out.set_ 0 (.int .i64 ((C : Int) + 1))).set_ 1 (.int .i64 ((Z : Int) + (8 + (M : Int))))).set_ 2 (.int .u32 (x : Int))
      have e1 : (((pre ++ [p]).length : Nat) : Int) = (C : Int) + 1 := by rw [List.length_append, HC.out]; simp
      have e2 : ((sizes (pre ++ [p]) : Nat) : Int) = (Z : Int) + (8 + (M : Int)) := by rw [sizes_append, HZ.out, show sizes [p] = 8 + p.length from by simp [sizes], HMM.out]; omega
      have e3 : rowS 0 (pre ++ [p]) = x := by rw [rowS_append, ← HX.out]; simp [rowS]
      rw [e1, e2, e3]
      simp at h
      exact h
  case done =>
    intro D xs W' hD hxs hi hd
    subst hxs
    obtain ⟨⟨v, hv, ho⟩, h6, h5, hf⟩ := hi
    have HO := Lib.hid ho
    have HF := Lib.hid hf
    have HD := Lib.hid hd
    have H6 := Lib.hid h6
    have H5 := Lib.hid h5
    have HV := Lib.hid hv
    have c0 := hv.cell 0
    have d0 := h5.cell 0
    have d1 := h5.cell 1
    have d2 := h5.cell 2
    have y0 := h6.cell 0
    have y1 := h6.cell 1
    have y2 := h6.cell 2
    have q0 := h6.frozen 0
    have q1 := h6.frozen 1
    have q2 := h6.frozen 2
    obtain ⟨xs, hxs⟩ : ∃ xs, (tells 0 b).1 = xs := ⟨_, rfl⟩
    rw [hxs] at d0 d1 d2 HO
    have HXS := Lib.hid hxs
    clear ho hf hd h6 h5 hv hxs
    gi_wp2_with fail
    have hDs : D = w.heap.size + 4 := by rw [hD, HSZ4.out]
    clear hD
    subst hDs
    obtain ⟨S, hS⟩ : ∃ S : Int, (rowS 0 xs : Int) = S := ⟨_, rfl⟩
    obtain ⟨Z, hZ⟩ : ∃ Z : Int, (sizes xs : Int) = Z := ⟨_, rfl⟩
    obtain ⟨C, hC⟩ : ∃ C : Int, (xs.length : Int) = C := ⟨_, rfl⟩
    rw [hS] at d2
    rw [hZ] at d1
    rw [hC] at d0
    have HS := Lib.hid hS
    have HZ := Lib.hid hZ
    have HC := Lib.hid hC
    clear hS hZ hC
    refine wpIn_wide.2 ?_
    go_region
    all_goals
      have fset : Fr (fun k => k = w.heap.size) W' ((((W'.setCell ⟨w.heap.size, 0, none⟩ (.int .i64 C)).setCell ⟨w.heap.size, 1, none⟩ (.int .i64 Z)).setCell ⟨w.heap.size, 2, none⟩ (.int .u32 S)).drew) := ((((Fr.refl (fun k => k = w.heap.size) W').set_ _ _).set_ _ _).set_ _ _).drew
      have h9 : Blk ((((W'.setCell ⟨w.heap.size, 0, none⟩ (.int .i64 C)).setCell ⟨w.heap.size, 1, none⟩ (.int .i64 Z)).setCell ⟨w.heap.size, 2, none⟩ (.int .u32 S)).drew) w.heap.size 30 #[.int .i64 C, .int .i64 Z, .int .u32 S] := by
        have := (((H6.out.set_ 0 (.int .i64 C)).set_ 1 (.int .i64 Z)).set_ 2 (.int .u32 S)).drew
        simpa using this
      have hK : ((((W'.setCell ⟨w.heap.size, 0, none⟩ (.int .i64 C)).setCell ⟨w.heap.size, 1, none⟩ (.int .i64 Z)).setCell ⟨w.heap.size, 2, none⟩ (.int .u32 S)).drew).heap[w.heap.size + 4]? = some (.deferred (some [])) := (fset.block _ (Array.getElem?_eq_some_iff.1 HD.out).1 (by omega)).trans HD.out
      have FS := Lib.hid fset
      have H9 := Lib.hid h9
      have HK := Lib.hid hK
      clear fset h9 hK d0 d1 d2 y0 y1 y2 q0 q1 q2 c0
      generalize ((((W'.setCell ⟨w.heap.size, 0, none⟩ (.int .i64 C)).setCell ⟨w.heap.size, 1, none⟩ (.int .i64 Z)).setCell ⟨w.heap.size, 2, none⟩ (.int .u32 S)).drew) = w9 at *
      gi_wp2_with fail
      have fp : Fr (fun k => k = w.heap.size + 4) w9 (w9.putObj (w.heap.size + 4) (.deferred none)) := (Fr.refl (fun k => k = w.heap.size + 4) w9).putObj (fun _ => rfl) _
      have h10 := H9.out.fr fp (by omega)
      have r0 := h10.cell 0
      have r1 := h10.cell 1
      have r2 := h10.cell 2
      simp only [List.getElem?_toArray, List.getElem?_cons_zero, List.getElem?_cons_succ] at r0 r1 r2
      refine ⟨by simp, .inl ⟨_, _, rfl, run_takeDeferred HK.out, ?_⟩⟩
      refine ⟨.tuple #[v, .agg #[.int .i64 C, .int .i64 Z, .int .u32 S]], by simp [results, Tryd.results13, go_sem, r0, r1, r2], v, ?_, ?_, ?_⟩
      · rw [HXS.out, HC.out, HZ.out, HS.out]; rfl
      · rw [HXS.out]
        have o1 := HO.out.fr FS.out (fun k hk => by omega)
        have o2 := o1.fr fp (fun k hk => by omega)
        exact o2.base (by omega)
      · exact (HF.out.trans FS.out (fun i hi e => by omega)).trans fp (fun i hi e => by omega)
end Go.Proofs.YtmaajihpkollcaaDoor
