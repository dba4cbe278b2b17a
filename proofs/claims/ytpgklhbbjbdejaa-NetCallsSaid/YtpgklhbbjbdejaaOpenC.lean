/-
  HOW A LAW's ARGUMENT IS OPENED: a Call by value.
-/
import Derived.Test.YtpgklhbbjbdejaaMem
import Derived.ProofKit
import Derived.OpenShut
import Derived.Deep.Slices
import Derived.Deep.Fields
import Derived.Deep.Matrix
import Derived.ChangeSame
import Derived.ChangeVars
import Derived.RowKit
import Derived.Lib.SmallJoins
import Derived.Test.YtpgklhbbjbdejaaProg
namespace Go.Proofs.Ytpgklhbbjbdejaa
set_option linter.unusedSimpArgs false
set_option linter.unusedVariables false
open Go Go.RowKit Go.ChangeShapes Go.WideShapes Go.Deep

theorem list5 : ∀ (l : List Value), l.length = 5 → ∃ c0 c1 c2 c3 c4, l = [c0, c1, c2, c3, c4]
  | [a, b, c, d, e], _ => ⟨a, b, c, d, e, rfl⟩
section
variable {H : Type} {enc : TypeId × Value → H} {W : World} {base : Nat} {spare : Nat → Bool} {held : Bool}
set_option maxRecDepth 20000 in
theorem call_at {cs : List Value} {n : Nat} {y : DataW H × List MemPlace} (hl : cs.length = 5) (h : DataW.trod enc Try.prog W base spare held n 35 cs = some y) :
    ∃ (d a b i : Int) (A : Option Addr) (m c : Nat), cs = [.int .i64 d, .int .i64 a, .int .i64 b, .int .u64 i, .slice A m c] := by
  obtain ⟨xs, m, _, hx, _, hxl, hf⟩ := DataW.trod_struct Try.underlying35 h
  obtain ⟨c0, c1, c2, c3, c4, rfl⟩ := list5 cs hl
  obtain ⟨y0, y1, y2, y3, y4, rfl⟩ : ∃ y0 y1 y2 y3 y4, xs = [y0, y1, y2, y3, y4] := by
    have hxl2 : xs.length = 5 := hxl
    match xs, hxl2 with
    | [a, b, c, d, e], _ => exact ⟨a, b, c, d, e, rfl⟩
  have h0 : DataW.trod enc Try.prog W base spare held m 3 (([c0, c1, c2, c3, c4].drop 0).take (Try.prog.cellsOf 3)) = some y0 := by simpa using hf 0 _ rfl
  have h1 : DataW.trod enc Try.prog W base spare held m 3 (([c0, c1, c2, c3, c4].drop 1).take (Try.prog.cellsOf 3)) = some y1 := by simpa using hf 1 _ rfl
  have h2 : DataW.trod enc Try.prog W base spare held m 3 (([c0, c1, c2, c3, c4].drop 2).take (Try.prog.cellsOf 3)) = some y2 := by simpa using hf 2 _ rfl
  have h3 : DataW.trod enc Try.prog W base spare held m 32 (([c0, c1, c2, c3, c4].drop 3).take (Try.prog.cellsOf 32)) = some y3 := by simpa using hf 3 _ rfl
  have h4 : DataW.trod enc Try.prog W base spare held m 33 (([c0, c1, c2, c3, c4].drop 4).take (Try.prog.cellsOf 33)) = some y4 := by simpa using hf 4 _ rfl
  rw [show Try.prog.cellsOf 3 = 1 by kernel_rfl] at h0 h1 h2
  rw [show Try.prog.cellsOf 32 = 1 by kernel_rfl] at h3
  rw [show Try.prog.cellsOf 33 = 1 by kernel_rfl] at h4
  obtain ⟨a0, e0, -, w0⟩ := DataW.trod_int Try.underlying3 h0
  obtain ⟨a1, e1, -, w1⟩ := DataW.trod_int Try.underlying3 h1
  obtain ⟨a2, e2, -, w2⟩ := DataW.trod_int Try.underlying3 h2
  obtain ⟨a3, e3, -, w3⟩ := DataW.trod_int Try.underlying32 h3
  obtain ⟨A, q, c, e4⟩ := Joins.slice_form Try.underlying33 h4
  simp at e0 e1 e2 e3 e4
  subst e0 e1 e2 e3 e4
  exact ⟨a0, a1, a2, a3, A, q, c, rfl⟩
set_option maxRecDepth 20000 in
/-- A Call by value. -/
theorem open_call {b0 : Nat} {r : Reach} {v : Value} {d : DataW H} {p : List MemPlace} (hv : Value.okWide Try.prog W r b0 35 v) (h : DataW.Trod enc Try.prog W base spare held 35 v d p) :
    ∃ (d a b i : Int) (A : Option Addr) (m c : Nat), v = .agg #[.int .i64 d, .int .i64 a, .int .i64 b, .int .u64 i, .slice A m c] := by
  obtain ⟨xs, rfl, hs⟩ := okWide_struct Try.underlying35 hv
  obtain ⟨fuel, hf⟩ := h
  have hs5 : xs.toList.length = 5 := by rw [Array.length_toList, hs]; kernel_rfl
  obtain ⟨d, a, b, i, A, m, c, e⟩ := call_at (cs := xs.toList) hs5 hf
  refine ⟨d, a, b, i, A, m, c, ?_⟩
  congr 1
  exact Array.toList_inj.1 e
end
end Go.Proofs.Ytpgklhbbjbdejaa
