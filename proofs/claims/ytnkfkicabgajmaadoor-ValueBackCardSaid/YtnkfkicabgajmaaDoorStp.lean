/-
  THE ENDS OF A DRAWN REGION THAT WRITE, over whatever program.
-/
import Derived.Test.YtnkfkicabgajmaaDoorSt
import Derived.Test.YtnkfkicabgajmaaDoorPar4
namespace Go.Proofs.YtnkfkicabgajmaaDoor
set_option linter.unusedSimpArgs false
set_option linter.unusedVariables false
open Go Go.RowKit
section steps
variable {P : Program} {ops : Array Oper} {rest : List Oper} {o : Oper} {a : Act} {w : World} {Q : Exit → Act → World → Prop}
theorem stepIn_store {F : Fence} {n : Nat} {K : Act → World → Prop} {E : Prop} (hg : o.guard = none) (ty : TypeId) (d x : Operand) (hop : o.op = Op.store ty d x)
    (v u : Value) (hd : a.eval d = v) (hx : a.eval x = u) {w' : World} (hr : (Instr.storeAt ty v u).run P w = .ok () w') (hK : K (a.put o.dst undef) w') :
    if Region.wanted o (yielded ops a.tmps) = true then Oper.wpIn F n P o a w K Q else E := by
  have hw : Region.wanted o (yielded ops a.tmps) = true := by simp [Region.wanted, hg]
  rw [if_pos hw]
  refine ⟨fun f hf => ?_, ?_⟩
  · simp [Oper.about, hop] at hf
  · simp [Oper.semAt, execOp, hop, hd, hx, hr, Result.andThen, Oper.uponIn]
    exact hK
theorem stepIn_build {F : Fence} {n : Nat} {K : Act → World → Prop} {E : Prop} (hg : o.guard = none) (ty : TypeId) (i j : Nat) (x y : Operand) (hop : o.op = Op.build ty #[(i, x), (j, y)])
    (u v : Value) (hx : a.eval x = u) (hy : a.eval y = v) {z : Value} {w' : World} (hr : (Instr.build ty #[(i, u), (j, v)]).run P w = .ok z w') (hK : K (a.put o.dst z) w') :
    if Region.wanted o (yielded ops a.tmps) = true then Oper.wpIn F n P o a w K Q else E := by
  have hw : Region.wanted o (yielded ops a.tmps) = true := by simp [Region.wanted, hg]
  rw [if_pos hw]
  refine ⟨fun f hf => ?_, ?_⟩
  · simp [Oper.about, hop] at hf
  · simp [Oper.semAt, execOp, hop, hx, hy, hr, Result.andThen, Oper.uponIn]
    exact hK
theorem stepIn_append {F : Fence} {n : Nat} {K : Act → World → Prop} {E : Prop} (hg : o.guard = none) (d x : Operand) (dT sT : TypeId) (hop : o.op = Op.call { callee := Callee.builtin Builtin.append, args := #[d, x], argTypes := #[dT, sT] })
    (v u : Value) (hd : a.eval d = v) (hx : a.eval x = u) {v' : Value} {w' : World} (hr : (Builtin.append_ #[dT, sT] o.type #[v, u]).run P w = .ok v' w') (hK : K (a.put o.dst v') w') :
    if Region.wanted o (yielded ops a.tmps) = true then Oper.wpIn F n P o a w K Q else E := by
  have hw : Region.wanted o (yielded ops a.tmps) = true := by simp [Region.wanted, hg]
  rw [if_pos hw]
  refine ⟨fun f hf => ?_, ?_⟩
  · simp [Oper.about, hop, resolve, Target.leads] at hf
  · simp [Oper.semAt, execOp, hop, resolve, invoke, builtin, hd, hx, hr, Result.andThen, Oper.uponIn]
    exact hK
theorem operIn_load {F : Fence} {n : Nat} {K : Act → World → Prop} (ty : TypeId) (d : Operand) (hop : o.op = Op.load ty d)
    (v : Value) (hd : a.eval d = v) {z : Value} (hr : (Instr.loadAt ty v).run P w = .ok z w) (hK : K (a.put o.dst z) w) : Oper.wpIn F n P o a w K Q := by
  refine ⟨fun f hf => ?_, ?_⟩
  · simp [Oper.about, hop] at hf
  · simp [Oper.semAt, execOp, hop, hd, hr, Result.andThen, Oper.uponIn]
    exact hK
theorem operIn_bs1 {F : Fence} {n : Nat} {K : Act → World → Prop} (ty : TypeId) (k i : Nat) (x : Operand) (hop : o.op = Op.buildSlice ty k #[(i, x)])
    (u : Value) (hx : a.eval x = u) {z : Value} {w' : World} (hr : (Instr.buildSlice ty k #[(i, u)]).run P w = .ok z w') (hK : K (a.put o.dst z) w') : Oper.wpIn F n P o a w K Q := by
  refine ⟨fun f hf => ?_, ?_⟩
  · simp [Oper.about, hop] at hf
  · simp [Oper.semAt, execOp, hop, hx, hr, Result.andThen, Oper.uponIn]
    exact hK
theorem operIn_append {F : Fence} {n : Nat} {K : Act → World → Prop} (hg : o.guard = none) (d x : Operand) (dT sT : TypeId) (hop : o.op = Op.call { callee := Callee.builtin Builtin.append, args := #[d, x], argTypes := #[dT, sT] })
    (v u : Value) (hd : a.eval d = v) (hx : a.eval x = u) {v' : Value} {w' : World} (hr : (Builtin.append_ #[dT, sT] o.type #[v, u]).run P w = .ok v' w') (hK : K (a.put o.dst v') w') : Oper.wpIn F n P o a w K Q := by
  have h := stepIn_append (E := False) (ops := #[]) (F := F) (n := n) (Q := Q) hg d x dT sT hop v u hd hx hr hK
  have hw : Region.wanted o (yielded #[] a.tmps) = true := by simp [Region.wanted, hg]
  rwa [if_pos hw] at h
theorem operIn_store {F : Fence} {n : Nat} {K : Act → World → Prop} (hg : o.guard = none) (ty : TypeId) (d x : Operand) (hop : o.op = Op.store ty d x)
    (v u : Value) (hd : a.eval d = v) (hx : a.eval x = u) {w' : World} (hr : (Instr.storeAt ty v u).run P w = .ok () w') (hK : K (a.put o.dst undef) w') : Oper.wpIn F n P o a w K Q := by
  have h := stepIn_store (E := False) (ops := #[]) (F := F) (n := n) (Q := Q) hg ty d x hop v u hd hx hr hK
  have hw : Region.wanted o (yielded #[] a.tmps) = true := by simp [Region.wanted, hg]
  rwa [if_pos hw] at h
theorem operIn_mapUpdate {F : Fence} {n : Nat} {K : Act → World → Prop} (ty : TypeId) (m x y : Operand) (hop : o.op = Op.mapUpdate ty m x y)
    (vm vx vy : Value) (hm : a.eval m = vm) (hx : a.eval x = vx) (hy : a.eval y = vy) {w' : World} (hr : (Instr.mapUpdate ty vm vx vy).run P w = .ok () w') (hK : K (a.put o.dst undef) w') : Oper.wpIn F n P o a w K Q := by
  refine ⟨fun f hf => ?_, ?_⟩
  · simp [Oper.about, hop] at hf
  · simp [Oper.semAt, execOp, hop, hm, hx, hy, hr, Result.andThen, Oper.uponIn]
    exact hK
theorem stepIn_mapUpdate {F : Fence} {n : Nat} {K : Act → World → Prop} {E : Prop} (hg : o.guard = none) (ty : TypeId) (m x y : Operand) (hop : o.op = Op.mapUpdate ty m x y)
    (vm vx vy : Value) (hm : a.eval m = vm) (hx : a.eval x = vx) (hy : a.eval y = vy) {w' : World} (hr : (Instr.mapUpdate ty vm vx vy).run P w = .ok () w') (hK : K (a.put o.dst undef) w') :
    if Region.wanted o (yielded ops a.tmps) = true then Oper.wpIn F n P o a w K Q else E := by
  have hw : Region.wanted o (yielded ops a.tmps) = true := by simp [Region.wanted, hg]
  rw [if_pos hw]
  exact operIn_mapUpdate ty m x y hop vm vx vy hm hx hy hr hK
end steps
/-- What may become of memory where one block is stored to once: r keeps its type and size; once it holds M it holds it on. -/
def Gs (r : Nat) (t : TypeId) (M : Array Value) (W W' : World) : Prop := Fr (fun q => q = r) W W' ∧ (∀ cs, Blk W r t cs → cs.size = M.size → ∃ cs', Blk W' r t cs' ∧ cs'.size = M.size) ∧ (Blk W r t M → Blk W' r t M)
theorem Gs.refl {r : Nat} {t : TypeId} {M : Array Value} (W : World) : Gs r t M W W := ⟨Fr.refl _ _, fun cs h e => ⟨cs, h, e⟩, fun h => h⟩
theorem Gs.trans {r : Nat} {t : TypeId} {M : Array Value} {a b c : World} (h : Gs r t M a b) (k : Gs r t M b c) : Gs r t M a c :=
  ⟨h.1.trans k.1 (fun _ _ h => h), fun cs hb e => by obtain ⟨c1, h1, e1⟩ := h.2.1 cs hb e; exact k.2.1 c1 h1 e1, fun hb => k.2.2 (h.2.2 hb)⟩
theorem Gs.drew {r : Nat} {t : TypeId} {M : Array Value} {W W' : World} (h : Gs r t M W.drew W') : Gs r t M W W' := ⟨((Fr.refl (fun q => q = r) W).drew).trans h.1 (fun _ _ h => h), fun cs hb e => h.2.1 cs hb.drew e, fun hb => h.2.2 hb.drew⟩
theorem Gs.store {r : Nat} {t : TypeId} {M cs : Array Value} {W : World} (hb : Blk W r t cs) (hs : cs.size = M.size) : Gs r t M W (W.setCells r 0 M.toList) :=
  ⟨Fr.setCells (fp := fun q => q = r) (g := r) (fun _ => rfl) _ _ _ (Fr.refl _ W), fun _ _ _ => ⟨M, hb.setAll hs.symm, rfl⟩, fun _ => hb.setAll hs.symm⟩
end Go.Proofs.YtnkfkicabgajmaaDoor
