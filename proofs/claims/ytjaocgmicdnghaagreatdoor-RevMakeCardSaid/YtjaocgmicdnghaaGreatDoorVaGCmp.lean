/-
  Same, Cmp, Cmp2, in one text (merge.py).
-/
import Derived.Test.YtjaocgmicdnghaaGreatDoorVaSh

/-
  CONTRACTS of value.Same, and of slices.EqualFunc with it.
-/
namespace Go.Proofs.YtjaocgmicdnghaaGreatDoor.V1
set_option linter.unusedSimpArgs false
set_option linter.unusedVariables false
open Go Go.RowKit

theorem lw5 : (Tryz.prog.info? 29).map (·.size) = some 5 := by kernel_rfl
theorem szV {D : Nat → Prop} {w : World} {C : Array Value} {v : V} (h : RdV D w C v) : (Tryz.prog.info? 29).map (·.size) = some C.size := by rw [h.size]; exact lw5
theorem oneV {D : Nat → Prop} {w : World} {C : Array Value} {v : V} (h : RdV D w C v) : C.all (·.oneCell') = true := by
  rw [Array.all_eq_true_iff_forall_mem]
  intro u hu
  exact h.one u (by simpa using hu)
/-- What is the same of the elements, one by one. -/
theorem eqvs_at {l m : List V} (h : l.length = m.length) : eqvs l m = true ↔ ∀ (i : Nat) (h1 : i < l.length) (h2 : i < m.length), eqv l[i] m[i] = true := by
  rw [eqvs_iff]
  constructor
  · rintro rfl i h1 h2
    rw [eqv_iff]
  · intro hi
    exact List.ext_getElem h (fun i h1 h2 => (eqv_iff _ _).1 (hi i h1 h2))
theorem eqv_k {k n k' n' : Int} {t t' : List UInt8} {l l' : List V} {ks ks' : List (List UInt8)} : eqv (.mk k n t l ks) (.mk k' n' t' l' ks') = (k == k' && n == n' && t == t' && ks == ks' && eqvs l l') := by rw [eqv]
end Go.Proofs.YtjaocgmicdnghaaGreatDoor.V1

/-
  CONTRACTS of value.order, cmpEntry, Cmp. Written by gen_cmp.py.
-/
namespace Go.Proofs.YtjaocgmicdnghaaGreatDoor.V1
set_option linter.unusedSimpArgs false
set_option linter.unusedVariables false
open Go Go.RowKit

theorem load_val {P : Program} (W : World) (g off : Nat) (C : Array Value) (h : W.rangeAt g off C.toList) (ty : TypeId) (d : TypeDesc) (hu : P.underlying ty = some d) (hd : d.isRow = true) (hi : (P.info? ty).map (·.size) = some C.size) :
    (Instr.loadAt ty (.pointer (some ⟨g, off, none⟩))).run P W = .ok (.agg C) W := by
  have := run_loadAt_mid (P := P) W g off ty C.toList d h hu hd (by rw [Array.length_toList]; exact hi)
  rwa [Array.toArray_toList] at this
end Go.Proofs.YtjaocgmicdnghaaGreatDoor.V1

