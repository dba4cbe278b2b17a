/-
  THE LAID TABLE: what its cells hold; a world in which it lies.
-/
import Derived.Test.YtmaajihpkollcaaDoorOpenB
import Derived.Test.YtmaajihpkollcaaDoorRows
import Derived.ProofKit
import Derived.ChangeSame
import Derived.ChangeVars
import Derived.RowKit
namespace Go.Proofs.YtmaajihpkollcaaDoor
set_option linter.unusedSimpArgs false
set_option linter.unusedVariables false
open Go Go.ChangeShapes Go.WideShapes Go.RowKit
theorem own : ownKnob Tryd.prog.godebug = none := by kernel_rfl
theorem laidOut : laidOutB Tryd.prog = true := by kernel_rfl
theorem nibG : Tryd.prog.globalNamed "tidewrack/frame.nibbles" = some 0 := by kernel_rfl
theorem nibT : (Tryd.prog.globals[0]?).map (·.type) = some 49 := by kernel_rfl
theorem cellsNib : Tryd.prog.cellsOf 49 = 16 := by kernel_rfl
theorem cellsU32 : Tryd.prog.cellsOf 26 = 1 := by kernel_rfl
theorem int_of_trod {H : Type} {enc : TypeId × Value → H} {P : Program} {w : World} {base : Nat} {sp : Nat → Bool} {held : Bool} {fuel : Nat} {t : TypeId} {k : IntKind} {c : Value} {y : DataW H × List MemPlace}
    (ht : P.underlying t = some (.int k)) (h : DataW.trod enc P w base sp held fuel t [c] = some y) : ∃ n, c = .int k n ∧ y = (.lit (.int k n), []) := by
  cases fuel with
  | zero => simp [DataW.trod] at h
  | succ fuel =>
    cases c <;> simp [DataW.trod, ht] at h
    rename_i k' n
    obtain ⟨⟨rfl, _⟩, rfl⟩ := h
    exact ⟨n, rfl, rfl⟩
def nibCells : Array Value := #[.int .u32 0, .int .u32 274646895, .int .u32 549293790, .int .u32 820201905, .int .u32 1098587580, .int .u32 1361435347, .int .u32 1640403810, .int .u32 1905808397, .int .u32 2197175160, .int .u32 2460548119, .int .u32 2722870694, .int .u32 2987750089, .int .u32 3280807620, .int .u32 3553878443, .int .u32 3811616794, .int .u32 4084100981]
theorem cells_of_laid {W : World} (h : laidMet Tryd.prog [("tidewrack/frame.nibbles", Rows.laid_tidewrack_frame_nibbles)] W) : W.var? Tryd.prog "tidewrack/frame.nibbles" = some nibCells := by
  obtain ⟨ps, ⟨g, t, cs, fuel, p, q, hg, ht, hvar, hd, _, _⟩, _⟩ := h
  obtain rfl := Option.some.inj (nibG.symm.trans hg)
  obtain rfl := Option.some.inj (nibT.symm.trans ht)
  rw [hvar]
  congr 1
  obtain ⟨l⟩ := cs
  cases fuel with
  | zero => simp [DataW.trod] at hd
  | succ fuel =>
    simp only [DataW.trod, Tryd.underlying49, cellsNib, cellsU32] at hd
    split at hd
    · rename_i hl
      obtain ⟨c0, c1, c2, c3, c4, c5, c6, c7, c8, c9, c10, c11, c12, c13, c14, c15, rfl⟩ : ∃ c0 c1 c2 c3 c4 c5 c6 c7 c8 c9 c10 c11 c12 c13 c14 c15, l = [c0, c1, c2, c3, c4, c5, c6, c7, c8, c9, c10, c11, c12, c13, c14, c15] := by
        match l, hl with
        | [x0, x1, x2, x3, x4, x5, x6, x7, x8, x9, x10, x11, x12, x13, x14, x15], _ => exact ⟨x0, x1, x2, x3, x4, x5, x6, x7, x8, x9, x10, x11, x12, x13, x14, x15, rfl⟩
      have e : List.range 16 = [0, 1, 2, 3, 4, 5, 6, 7, 8, 9, 10, 11, 12, 13, 14, 15] := rfl
      rw [e] at hd
      simp only [Option.map_eq_some_iff, List.mapM_cons, List.mapM_nil, Option.bind_eq_bind, Option.bind_eq_some_iff, Option.pure_def, Option.some.injEq] at hd
      obtain ⟨xs, ⟨y0, h0, _, ⟨y1, h1, _, ⟨y2, h2, _, ⟨y3, h3, _, ⟨y4, h4, _, ⟨y5, h5, _, ⟨y6, h6, _, ⟨y7, h7, _, ⟨y8, h8, _, ⟨y9, h9, _, ⟨y10, h10, _, ⟨y11, h11, _, ⟨y12, h12, _, ⟨y13, h13, _, ⟨y14, h14, _, ⟨y15, h15, _, rfl, rfl⟩, rfl⟩, rfl⟩, rfl⟩, rfl⟩, rfl⟩, rfl⟩, rfl⟩, rfl⟩, rfl⟩, rfl⟩, rfl⟩, rfl⟩, rfl⟩, rfl⟩, rfl⟩, hx⟩ := hd
      obtain ⟨n0, rfl, rfl⟩ := int_of_trod Tryd.underlying26 h0
      obtain ⟨n1, rfl, rfl⟩ := int_of_trod Tryd.underlying26 h1
      obtain ⟨n2, rfl, rfl⟩ := int_of_trod Tryd.underlying26 h2
      obtain ⟨n3, rfl, rfl⟩ := int_of_trod Tryd.underlying26 h3
      obtain ⟨n4, rfl, rfl⟩ := int_of_trod Tryd.underlying26 h4
      obtain ⟨n5, rfl, rfl⟩ := int_of_trod Tryd.underlying26 h5
      obtain ⟨n6, rfl, rfl⟩ := int_of_trod Tryd.underlying26 h6
      obtain ⟨n7, rfl, rfl⟩ := int_of_trod Tryd.underlying26 h7
      obtain ⟨n8, rfl, rfl⟩ := int_of_trod Tryd.underlying26 h8
      obtain ⟨n9, rfl, rfl⟩ := int_of_trod Tryd.underlying26 h9
      obtain ⟨n10, rfl, rfl⟩ := int_of_trod Tryd.underlying26 h10
      obtain ⟨n11, rfl, rfl⟩ := int_of_trod Tryd.underlying26 h11
      obtain ⟨n12, rfl, rfl⟩ := int_of_trod Tryd.underlying26 h12
      obtain ⟨n13, rfl, rfl⟩ := int_of_trod Tryd.underlying26 h13
      obtain ⟨n14, rfl, rfl⟩ := int_of_trod Tryd.underlying26 h14
      obtain ⟨n15, rfl, rfl⟩ := int_of_trod Tryd.underlying26 h15
      simp [Rows.laid_tidewrack_frame_nibbles] at hx
      obtain ⟨⟨rfl, rfl, rfl, rfl, rfl, rfl, rfl, rfl, rfl, rfl, rfl, rfl, rfl, rfl, rfl, rfl⟩, _⟩ := hx
      rfl
    · cases hd
theorem nb_of_laid {W : World} (h : laidMet Tryd.prog [("tidewrack/frame.nibbles", Rows.laid_tidewrack_frame_nibbles)] W) : Nb W := by
  intro i hi
  rw [World.var?_cell nibG (cells_of_laid h) i]
  have hc : i = 0 ∨ i = 1 ∨ i = 2 ∨ i = 3 ∨ i = 4 ∨ i = 5 ∨ i = 6 ∨ i = 7 ∨ i = 8 ∨ i = 9 ∨ i = 10 ∨ i = 11 ∨ i = 12 ∨ i = 13 ∨ i = 14 ∨ i = 15 := by omega
  rcases hc with rfl | rfl | rfl | rfl | rfl | rfl | rfl | rfl | rfl | rfl | rfl | rfl | rfl | rfl | rfl | rfl <;> rfl
noncomputable def laidWorld (os : Os) : World :=
  { World.holding Tryd.prog os ⟨#[], #[], []⟩ with heap := (World.holding Tryd.prog os ⟨#[], #[], []⟩).heap.modify 0 fun
      | .cells _ t frozen => .cells nibCells t frozen
      | o => o }
end Go.Proofs.YtmaajihpkollcaaDoor
