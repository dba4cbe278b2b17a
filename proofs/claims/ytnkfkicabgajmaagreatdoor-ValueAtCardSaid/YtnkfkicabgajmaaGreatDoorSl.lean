/-
  SLICES OF ROWS OF MORE CELLS, OVER WHATEVER PROGRAM: copy, clear, append in place, append of a make, onto blocks known whole. No program is named here.
-/
import Derived.Test.YtnkfkicabgajmaaGreatDoorGBase
import Derived.Laws.IdiomCopy
import Derived.Lib.AppendZerosOnto
namespace Go.Proofs.YtnkfkicabgajmaaGreatDoor
set_option linter.unusedSimpArgs false
set_option linter.unusedVariables false
open Go Go.RowKit
variable {P : Program}

/-- setCells on a block known whole. -/
theorem blk_setCells {w : World} {g : Nat} {t : TypeId} {cur : Array Value} (hB : Blk w g t cur) (o : Nat) (cs : List Value) (hf : o + cs.length ≤ cur.size) :
    Blk (w.setCells g o cs) g t (cur.toList.take o ++ cs ++ cur.toList.drop (o + cs.length)).toArray ∧ Fr (fun k => k = g) w (w.setCells g o cs) := by
  obtain ⟨c, hc, hcl⟩ := heap_setCells g cs o w cur t (0, 0) hB hf
  refine ⟨?_, World.os_setCells _ _ _ _, (World.grownBy_setCells_aux g cs o w).1, World.output_setCells _ _ _ _, Nat.le_of_eq (World.grownBy_setCells_aux g cs o w).2.symm, fun k hk hne => World.heap_setCells_other w g _ cs hk hne⟩
  unfold Blk
  rw [hc, ← hcl]

/-- copy, whatever the size of an element. -/
theorem run_copyN (w : World) (dT sT ty elem sz : Nat) (b o dLen dCap : Nat) (a : Addr) (sLen sCap q : Nat) (cs : List Value) (t : TypeId) (cur : Array Value)
    (hu : P.underlying dT = some (.slice elem)) (hs : (P.info? elem).map (·.size) = some sz) (hq : Nat.min sLen dLen = q) (hn : cs.length = q * sz)
    (hsrc : ∀ j v, cs[j]? = some v → w.cell? (a.add j) = some v) (hB : Blk w b t cur) (hfit : o + cs.length ≤ cur.size) (h1 : ∀ v ∈ cs, v.oneCell' = true) :
    ∃ w', (Builtin.copy_ #[dT, sT] ty #[.slice (some ⟨b, o, none⟩) dLen dCap, .slice (some a) sLen sCap]).run P w = .ok (.int .i64 (q : Int)) w' ∧ Blk w' b t (cur.toList.take o ++ cs ++ cur.toList.drop (o + cs.length)).toArray ∧ Fr (fun k => k = b) w w' := by
  have hl := run_loadCells_list (P := P) w a cs hsrc
  have hst := run_storeCells_cells (P := P) b o cs 0 w (fun j hj => by rw [Nat.add_zero, hB.cell]; rw [Array.getElem?_eq_getElem (by omega)]; rfl) (fun j hj => hB.frozen _) h1
  obtain ⟨h2, h3⟩ := blk_setCells hB o cs hfit
  refine ⟨_, ?_, h2, h3⟩
  cases hq' : P.info? elem with
  | none => simp [hq'] at hs
  | some i =>
    have hi : i.size = sz := by simpa [hq'] using hs
    rw [Nat.add_zero] at hst
    simp [Builtin.copy_, run_underlying hu, Builtin.lenOf, Builtin.firstCells, sizeOf, typeInfo, hq', hi, hq, ← hn, hl, hst]
    rfl

/-- clear of a slice. -/
theorem run_clearN (w : World) (t' ty elem : Nat) (z : Value) (i : TypeInfo) (b o n c : Nat) (t : TypeId) (cur : Array Value)
    (hu : P.underlying t' = some (.slice elem)) (hi : P.info? elem = some i) (hz : i.zero = some z) (hB : Blk w b t cur) (hfit : o + (Builtin.zeroCells z.cells n).size ≤ cur.size) (h1 : ∀ v ∈ (Builtin.zeroCells z.cells n).toList, v.oneCell' = true) (hn : 0 < n) :
    ∃ w', (Builtin.clear_ #[t'] ty #[.slice (some ⟨b, o, none⟩) n c]).run P w = .ok (.tuple #[]) w' ∧ Blk w' b t (cur.toList.take o ++ (Builtin.zeroCells z.cells n).toList ++ cur.toList.drop (o + (Builtin.zeroCells z.cells n).toList.length)).toArray ∧ Fr (fun k => k = b) w w' := by
  have hst := run_storeCells_cells (P := P) b o (Builtin.zeroCells z.cells n).toList 0 w (fun j hj => by rw [Nat.add_zero, hB.cell]; rw [Array.getElem?_eq_getElem (by simp at hj; omega)]; rfl) (fun j hj => hB.frozen _) h1
  obtain ⟨h2, h3⟩ := blk_setCells hB o (Builtin.zeroCells z.cells n).toList (by simpa using hfit)
  refine ⟨_, ?_, h2, h3⟩
  rw [Nat.add_zero] at hst
  cases n with
  | zero => omega
  | succ n => simp [Builtin.clear_, run_underlying hu, zeroValue, typeInfo, hi, hz, hst]

/-- append onto a slice with room, in place: the source is read first (it may be the same block). -/
theorem run_app_room (w : World) (t tx ty e : Nat) (i : TypeInfo) (b n c m size : Nat) (xv : Value) (news : List Value) (cur : Array Value) (t' : TypeId)
    (ht : P.underlying t = some (.slice e)) (hi : P.info? e = some i) (hsz : i.size = size) (hs : Src P size tx xv m news w) (hroom : n + m ≤ c) (hB : Blk w b t' cur) (hnl : news.length = m * size) (hfit : n * size + news.length ≤ cur.size) :
    ∃ w', (Builtin.append_ #[t, tx] ty #[.slice (some ⟨b, 0, none⟩) n c, xv]).run P w = .ok (.slice (some ⟨b, 0, none⟩) (n + m) c) w' ∧ Blk w' b t' (cur.toList.take (n * size) ++ news ++ cur.toList.drop (n * size + news.length)).toArray ∧ Fr (fun k => k = b) w w' := by
  subst hsz
  have hr := run_append_room_src (P := P) w t tx ty e i ht hi b 0 n c xv m news hs hroom (fun j hj => by rw [hB.cell, Array.getElem?_eq_getElem (by omega)]; rfl) (fun j _ => hB.frozen _)
  rw [Nat.zero_add] at hr
  obtain ⟨h2, h3⟩ := blk_setCells hB (n * i.size) news hfit
  exact ⟨_, hr, h2, h3⟩

section steps
variable {ops : Array Oper} {rest : List Oper} {o : Oper} {a : Act} {w : World} {Q : Exit → Act → World → Prop}
theorem wpList_copyN (hgd : o.guard = none) (d s : Operand) (t t' : TypeId)
    (ho : o.op = .call { callee := .builtin .copy, args := #[d, s], argTypes := #[t, t'] }) (v u : Value) (hd : a.eval d = v) (hs : a.eval s = u) {v' : Value} {w' : World}
    (hr : (Builtin.copy_ #[t, t'] o.type #[v, u]).run P w = .ok v' w') (h : wpList P ops Q rest (a.put o.dst v') w') : wpList P ops Q (o :: rest) a w := by
  refine wpList_plain hgd fun _ hK => ?_
  unfold Oper.wp execOp
  simp only [ho, resolve, invoke, builtin, Sem.run_bind, Sem.run_pure, Result.andThen_ok, List.map_toArray, List.map_cons, List.map_nil, hd, hs, hr]
  exact hK _ _ h
theorem wpList_clearN (hgd : o.guard = none) (s : Operand) (t : TypeId)
    (ho : o.op = .call { callee := .builtin .clear, args := #[s], argTypes := #[t] }) (u : Value) (hs : a.eval s = u) {v' : Value} {w' : World}
    (hr : (Builtin.clear_ #[t] o.type #[u]).run P w = .ok v' w') (h : wpList P ops Q rest (a.put o.dst v') w') : wpList P ops Q (o :: rest) a w := by
  refine wpList_plain hgd fun _ hK => ?_
  unfold Oper.wp execOp
  simp only [ho, resolve, invoke, builtin, Sem.run_bind, Sem.run_pure, Result.andThen_ok, List.map_toArray, List.map_cons, List.map_nil, hs, hr]
  exact hK _ _ h
theorem wpList_appR (hgd : o.guard = none) (d s : Operand) (t t' : TypeId)
    (ho : o.op = .call { callee := .builtin .append, args := #[d, s], argTypes := #[t, t'] }) (v u : Value) (hd : a.eval d = v) (hs : a.eval s = u) {v' : Value} {w' : World}
    (hr : (Builtin.append_ #[t, t'] o.type #[v, u]).run P w = .ok v' w') (h : wpList P ops Q rest (a.put o.dst v') w') : wpList P ops Q (o :: rest) a w := by
  refine wpList_plain hgd fun _ hK => ?_
  unfold Oper.wp execOp
  simp only [ho, resolve, invoke, builtin, Sem.run_bind, Sem.run_pure, Result.andThen_ok, List.map_toArray, List.map_cons, List.map_nil, hd, hs, hr]
  exact hK _ _ h
theorem stepIn_copy {F : Fence} {n : Nat} {K : Act → World → Prop} {E : Prop} (hg : o.guard = none) (d x : Operand) (dT sT : TypeId) (hop : o.op = Op.call { callee := Callee.builtin Builtin.copy, args := #[d, x], argTypes := #[dT, sT] })
    (v u : Value) (hd : a.eval d = v) (hx : a.eval x = u) {v' : Value} {w' : World} (hr : (Builtin.copy_ #[dT, sT] o.type #[v, u]).run P w = .ok v' w') (hK : K (a.put o.dst v') w') :
    if Region.wanted o (yielded ops a.tmps) = true then Oper.wpIn F n P o a w K Q else E := by
  have hw : Region.wanted o (yielded ops a.tmps) = true := by simp [Region.wanted, hg]
  rw [if_pos hw]
  refine ⟨fun f hf => ?_, ?_⟩
  · simp [Oper.about, hop, resolve, Target.leads] at hf
  · simp [Oper.semAt, execOp, hop, resolve, invoke, builtin, hd, hx, hr, Result.andThen, Oper.uponIn]
    exact hK
end steps
end Go.Proofs.YtnkfkicabgajmaaGreatDoor
