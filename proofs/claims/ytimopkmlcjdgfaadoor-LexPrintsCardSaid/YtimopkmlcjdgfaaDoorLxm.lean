/-
  A TEXT UNDER A LEXER, in memory; small words. No statement is proved here.
-/
import Derived.Test.YtimopkmlcjdgfaaDoorGBase
import Derived.Test.YtimopkmlcjdgfaaDoorLxB
import Derived.Deep.OwnRows
import Derived.Deep.QuietTactic
import Derived.BigQuiet
import Derived.IntWalk
import Derived.Deep.CutRange
import Derived.Outline
import Derived.StillTailTactics
import Derived.Deep.RegionHeld3
import Derived.Laws.DeepStrings4
import Derived.WalkMore
import Derived.Test.YtimopkmlcjdgfaaDoorProg
namespace Go.Proofs.YtimopkmlcjdgfaaDoor
set_option linter.unusedSimpArgs false
set_option linter.unusedVariables false
open Go Go.RowKit

def strOf (l : List UInt8) : ByteArray := ⟨l.toArray⟩
theorem strOf_toList (l : List UInt8) : (strOf l).toList = l := by simp [strOf]
theorem strOf_of (s : ByteArray) : strOf s.data.toList = s := by
  cases s
  simp [strOf]
theorem strOf_inj {l m : List UInt8} (h : strOf l = strOf m) : l = m := by rw [← strOf_toList l, h, strOf_toList]
theorem strOf_size (l : List UInt8) : (strOf l).size = l.length := by simp [strOf, ByteArray.size]
theorem strOf_data (l : List UInt8) : (strOf l).data.toList = l := rfl
theorem strOf_drop (s : List UInt8) (i : Nat) (h : i ≤ s.length) : (strOf s).extract i (strOf s).size = strOf (s.drop i) := by
  apply ByteArray.ext
  simp [strOf, ByteArray.data_extract, ByteArray.size]
  exact List.take_of_length_le (by simp)
theorem strOf_sub (s : List UInt8) (i j : Nat) (hij : i ≤ j) (h : j ≤ s.length) : (strOf s).extract i j = strOf ((s.drop i).take (j - i)) := by
  apply ByteArray.ext
  apply Array.toList_inj.1
  simp [strOf, ByteArray.data_extract, List.extract_eq_take_drop]
theorem strOf_app (a b : List UInt8) : strOf a ++ strOf b = strOf (a ++ b) := by
  apply ByteArray.ext
  simp [strOf, ByteArray.data_append]
theorem run_index_str (W : World) (s : List UInt8) (i : Nat) (h : i < s.length) : (Instr.index 9 (.string (strOf s)) (.int .i64 (i : Nat))).run Tryd.prog W = .ok (.int .u8 ((s[i]).toNat : Nat)) W := by
  rw [run_index_string W _ _ _ _ Tryd.underlying9]
  rw [dif_pos ⟨by omega, by rw [strOf_size]; omega⟩]
  rfl
theorem run_drop (W : World) (s : List UInt8) (i : Nat) (h : i ≤ s.length) : (Instr.slice 9 (.string (strOf s)) (some (.int .i64 (i : Nat))) none none).run Tryd.prog W = .ok (.string (strOf (s.drop i))) W := by
  rw [run_slice_string_from_if W 9 (strOf s) .i64 (i : Nat) Tryd.underlying9]
  rw [if_pos ⟨by omega, by rw [strOf_size]; omega⟩]
  congr 2
  rw [← strOf_drop s i h]
  congr 1
theorem run_sub (W : World) (s : List UInt8) (i j : Nat) (hij : i ≤ j) (h : j ≤ s.length) : (Instr.slice 9 (.string (strOf s)) (some (.int .i64 (i : Nat))) (some (.int .i64 (j : Nat))) none).run Tryd.prog W = .ok (.string (strOf ((s.drop i).take (j - i)))) W := by
  rw [run_slice_string_if W 9 (strOf s) .i64 .i64 (i : Nat) (j : Nat) Tryd.underlying9]
  rw [if_pos ⟨by omega, by rw [strOf_size]; omega⟩, if_pos ⟨by omega, by omega⟩]
  congr 2
  rw [← strOf_sub s i j hij h]
  congr 1
abbrev tcs (k : Int) (t : List UInt8) (n a : Int) : Array Value := #[.int .i64 k, .string (strOf t), .int .i64 n, .int .i64 a]
/-- A lexer's cells: its text, its place. -/
abbrev xcs (s : List UInt8) (at_ : Nat) : Array Value := #[.string (strOf s), .int .i64 (at_ : Nat)]
theorem abs_world {P : Program} {c : Code} {Q : Exit → Act → World → Prop} {a : Act} {w : World} (Φ : World → Prop) (h : Φ w) (k : ∀ W, Φ W → Code.wp P c Q a W) : Code.wp P c Q a w := k w h
theorem abs_exit {K : Act → World → Prop} {Q : Exit → Act → World → Prop} {e : Exit} {a : Act} {w : World} (Φ : World → Prop) (h : Φ w) (k : ∀ W, Φ W → Exit.then K Q e a W) : Exit.then K Q e a w := k w h
theorem abs_inb {n : Nat} {Q : Exit → Act → World → Prop} {e : Exit} {a : Act} {w : World} (Φ : World → Prop) (h : Φ w) (k : ∀ W, Φ W → Exit.inBlock n Q e a W) : Exit.inBlock n Q e a w := k w h
theorem fr_below {w w' : World} (h : Below w.heap.size w w') : Fr (fun _ => False) w w' := (Fr.of_below h).mono (fun i hi hh => by omega)
theorem ret_int {k : IntKind} {a b : Int} (h : a = b) : Ending.returned (.int k a) = .returned (.int k b) := by rw [h]
theorem ret_bool {a b : Bool} (h : a = b) : Ending.returned (.bool a) = .returned (.bool b) := by rw [h]
theorem blk_all {w : World} {g : Nat} {t : TypeId} {C : Array Value} (h : Blk w g t C) : w.rangeAt g 0 C.toList := h.rng
theorem rng_fr {fp : Nat → Prop} {w w' : World} {g off : Nat} {l : List Value} (h : w.rangeAt g off l) (hf : Fr fp w w') (hn : ¬ fp g) : w'.rangeAt g off l := fun j v hv => by
  have hc := h j v hv
  rw [hf.cell (World.block_lt_of_cell? w _ hc) hn]
  exact hc
theorem results_tii {P : Program} {fn : Func} {p q r : Tmp} {ty : TypeId} (h : fn.results = #[.cell p ty, .tmp q, .tmp r]) (tmps : Array Value) (w : World) (g : Nat) (t : TypeId) (cs : Array Value) (d : TypeDesc) (x y : Value)
    (hp : tmps.getD p undef = .pointer (some ⟨g, 0, none⟩)) (hx : tmps.getD q undef = x) (hy : tmps.getD r undef = y) (hg : Blk w g t cs)
    (hu : P.underlying ty = some d) (hd : (match d with | .struct _ | .array _ _ => true | _ => false) = true) (hi : (P.info? ty).map (·.size) = some cs.size) :
    (results fn tmps).run P w = .ok (.tuple #[.agg cs, x, y]) w := by
  subst hx hy
  exact results_three h tmps w g t cs d hp hg hu hd hi
section
variable {P : Program}
theorem wpList_load_val {ops : Array Oper} {rest : List Oper} {op : Oper} {a : Act} {w : World} {Q : Exit → Act → World → Prop} (hgd : op.guard = none) (ty : TypeId) (x : Operand) (ho : op.op = .load ty x)
    (g off : Nat) (hx : a.eval x = .pointer (some ⟨g, off, none⟩)) (C : Array Value) (hr : w.rangeAt g off C.toList) (d : TypeDesc) (hu : P.underlying ty = some d) (hd : d.isRow = true) (hi : (P.info? ty).map (·.size) = some C.size)
    (h : wpList P ops Q rest (a.put op.dst (.agg C)) w) : wpList P ops Q (op :: rest) a w :=
  wpList_load_mid hgd ty x ho g off hx C.toList d hr hu hd (by rw [Array.length_toList]; exact hi) (by rw [Array.toArray_toList]; exact h)
end
theorem tsize : (Tryd.prog.info? 32).map (·.size) = some 4 := by kernel_rfl
theorem xsize : (Tryd.prog.info? 45).map (·.size) = some 2 := by kernel_rfl
theorem u8_lt (c : UInt8) : c.toNat < 256 := c.toNat_lt
end Go.Proofs.YtimopkmlcjdgfaaDoor
