/-
  THE LIBRARY's CALLS, off the shelf: strings.Cut at one minus sign, strings.IndexByte at the hexadecimal digits, strconv.AppendUint and ParseUint at base ten.
-/
import Derived.Test.YtjaocgmicdnghaaDoorMay
import Derived.Test.YtjaocgmicdnghaaDoorTabs
import Derived.Test.YtjaocgmicdnghaaDoorCat
import Derived.Shelf.Lay
import Derived.Shelf.Strings.Cut
import Derived.Shelf.Small.Strs
import Derived.Shelf.Strconv.AppendInt10
import Derived.Lib.ItoaLen
import Derived.Lib.SmallJoins
namespace Go.Proofs
set_option linter.unusedSimpArgs false
set_option linter.unusedVariables false
open Go.Shelf
shelf_lay LaysM.n288 Nm 288 at Tryd as Tryd.laysM288
shelf_lay Lays.n145 Nm 145 at Tryd as Tryd.lays145
shelf_lay Lays.n137 Nm 137 at Tryd as Tryd.lays137
end Go.Proofs
namespace Go.Proofs.YtjaocgmicdnghaaDoor
open Go Go.RowKit Go.Shelf

theorem strOf_data (l : List UInt8) : (strOf l).data.toList = l := rfl
theorem strOf_size (l : List UInt8) : (strOf l).size = l.length := by simp [strOf, ByteArray.size]
theorem strOf_of (s : ByteArray) : strOf s.data.toList = s := by
  cases s
  simp [strOf]
theorem strOf_inj {l m : List UInt8} (h : strOf l = strOf m) : l = m := by rw [← strOf_toList l, h, strOf_toList]
theorem fr_below {w w' : World} (h : Below w.heap.size w w') : Fr (fun _ => False) w w' := (Fr.of_below h).mono (fun i hi hh => by omega)

/-- What the package-level variables hold. -/
structure LaidOk (w : World) : Prop where
  tabs : Tabs w
  pow : Lib.TabIs Tryd.prog w "internal/strconv.uint64pow10" .u64 Lib.pow10Tab
  max : ∃ m, w.cell? ⟨0, 0, none⟩ = some (.int .i64 m)
  syn : ∃ t p, w.cell? ⟨2, 0, none⟩ = some (.iface t p)
  rng : ∃ t p, w.cell? ⟨3, 0, none⟩ = some (.iface t p)
theorem pow10G : Tryd.prog.globalNamed "internal/strconv.uint64pow10" = some 1 := by kernel_rfl
theorem cell_far {w w' : World} {p : Addr} {v : Value} (h : w.cell? p = some v) (hf : Fr (fun _ => False) w w') : w'.cell? p = some v := by
  rw [hf.cell (World.block_lt_of_cell? w _ h) (fun h => h)]
  exact h
theorem LaidOk.far {w w' : World} (h : LaidOk w) (hf : Fr (fun _ => False) w w') : LaidOk w' :=
  ⟨h.tabs.far hf, Joins.tab_stays pow10G h.pow (hf.below (Nat.le_refl _) (fun _ _ h => h)) (Nat.le_refl _),
    let ⟨m, hm⟩ := h.max; ⟨m, cell_far hm hf⟩, let ⟨t, p, hp⟩ := h.syn; ⟨t, p, cell_far hp hf⟩, let ⟨t, p, hp⟩ := h.rng; ⟨t, p, cell_far hp hf⟩⟩

def hexs : List UInt8 := [48, 49, 50, 51, 52, 53, 54, 55, 56, 57, 97, 98, 99, 100, 101, 102]
theorem cut_c (w : World) (s : List UInt8) (hs : s.length ≤ 1000) (hL : LaidOk w) :
    Calls Tryd.prog 20 #[.string (strOf s), .string ⟨#[45]⟩] w fun e w' => e = .returned (.tuple #[.string (strOf (cut1 s).1), .string (strOf (cut1 s).2), .bool (Lib.cut s [45]).2.2]) ∧ Fr (fun _ => False) w w' := by
  obtain ⟨m, hm⟩ := hL.max
  refine (Any.strings_Cut Tryd.lays145 (strOf s) ⟨#[45]⟩ m w (by rw [strOf_size]; omega) hm).mono ?_
  rintro e w' ⟨rfl, n, rfl⟩
  exact ⟨rfl, (Fr.refl _ w).drewN n⟩
theorem index_c (w : World) (c : Nat) : Calls Tryd.prog 22 #[.string ⟨#[48, 49, 50, 51, 52, 53, 54, 55, 56, 57, 97, 98, 99, 100, 101, 102]⟩, .int .u8 (c : Nat)] w fun e w' => e = .returned (.int .i64 (Lib.indexByte hexs (Nat.toUInt8 c))) ∧ w = w' := by
  refine (Any.strings_IndexByte Tryd.lays137 (strOf hexs) (c : Nat) w).mono ?_
  rintro e w' ⟨rfl, h⟩
  exact ⟨rfl, h.symm⟩
theorem appendUint_c (w : World) (u : Nat) (hu : u < 18446744073709551616) (hL : LaidOk w) :
    Calls Tryd.prog 19 #[.slice none 0 0, .int .u64 u, .int .i64 10] w fun e w' => ∃ v, e = .returned v ∧ w'.ownsRow w.heap.size 5 1 v (Lib.decDigits u).length (bv (Lib.decDigits u)) ∧ Fr (fun _ => False) w w' := by
  have hc := Any.internal_strconv_AppendUint_10 Tryd.laysM288 w.heap.size 0 u hu (.slice none 0 0) [] w (World.ownsRow_nil w _ _ _) (Nat.le_refl _) (by omega) hL.pow
  have HC := Lib.hid hc
  clear hc
  go_enter Tryd.func19, Tryd.ntmps19
  go_wp2_with fail
  refine HC.out.mono ?_
  rintro e w' ⟨v, rfl, h1, h2, h3⟩
  rw [Nat.zero_add, List.nil_append] at h1
  have H1 := Lib.hid h1
  have H2 := Lib.hid h2
  clear h1 h2 h3
  go_wp2_with fail
  go_ret
  exact ⟨_, rfl, H1.out, fr_below H2.out⟩
section steps
variable {P : Program} {ops : Array Oper} {rest : List Oper} {o : Oper} {a : Act} {w : World} {Q : Exit → Act → World → Prop}
theorem stepIn_append {F : Fence} {n : Nat} {K : Act → World → Prop} {E : Prop} (hg : o.guard = none) (d x : Operand) (dT sT : TypeId) (hop : o.op = Op.call { callee := Callee.builtin Builtin.append, args := #[d, x], argTypes := #[dT, sT] })
    (v u : Value) (hd : a.eval d = v) (hx : a.eval x = u) {v' : Value} {w' : World} (hr : (Builtin.append_ #[dT, sT] o.type #[v, u]).run P w = .ok v' w') (hK : K (a.put o.dst v') w') :
    if Region.wanted o (yielded ops a.tmps) = true then Oper.wpIn F n P o a w K Q else E := by
  have hw : Region.wanted o (yielded ops a.tmps) = true := by simp [Region.wanted, hg]
  rw [if_pos hw]
  refine ⟨fun f hf => ?_, ?_⟩
  · simp [Oper.about, hop, resolve, Target.leads] at hf
  · simp [Oper.semAt, execOp, hop, resolve, invoke, builtin, hd, hx, hr, Result.andThen, Oper.uponIn]
    exact hK
end steps
end Go.Proofs.YtjaocgmicdnghaaDoor
