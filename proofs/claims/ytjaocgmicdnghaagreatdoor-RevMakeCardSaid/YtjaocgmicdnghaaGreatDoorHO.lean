/-
  OpenM, OpenR, in one text (merge.py).
-/
import Derived.Test.YtjaocgmicdnghaaGreatDoorLaid
import Derived.Test.YtjaocgmicdnghaaGreatDoorMay
import Derived.Lib.SmallJoins
import Derived.Lib.LaidTab
import Derived.ProofKit
import Derived.OpenShut
import Derived.Deep.Slices
import Derived.Deep.Fields
import Derived.Deep.Matrix
import Derived.ChangeSame
import Derived.ChangeVars

/-
  WHAT THE LAW RevMake's OPENING WANTS.
-/
namespace Go.Proofs.YtjaocgmicdnghaaGreatDoor
set_option linter.unusedSimpArgs false
set_option linter.unusedVariables false
open Go Go.RowKit Go.ChangeShapes Go.WideShapes
theorem eight {W : World} (hsh : W.ShapedOpen Tryz.prog) : 8 ≤ W.heap.size := by
  have h7 : ((((begin Tryz.prog (fun _ _ => 0) default).world).heap[7]?).bind Obj.row?).isSome = true := by kernel_rfl
  obtain ⟨⟨z, t⟩, hz⟩ := Option.isSome_iff_exists.1 h7
  obtain ⟨cs, hc, _⟩ := hsh.1 7 z t (of_decide_eq_true (by kernel_rfl)) hz
  have := (Array.getElem?_eq_some_iff.1 hc).1
  omega
theorem wf_i64 {a : Int} (h : (Lit.int .i64 a).wf = true) : -9223372036854775808 ≤ a ∧ a ≤ 9223372036854775807 := by
  simp [Lit.wf, IntKind.min, IntKind.max, IntKind.bits, IntKind.signed] at h
  omega
end Go.Proofs.YtjaocgmicdnghaaGreatDoor

/-
  HOW A LAW's ARGUMENTS ARE OPENED: a name by value.
-/
namespace Go.Proofs.YtjaocgmicdnghaaGreatDoor
set_option linter.unusedSimpArgs false
set_option linter.unusedVariables false
open Go Go.RowKit Go.ChangeShapes Go.WideShapes Go.Deep

theorem wf_u8 {a : Int} (h : (Lit.int .u8 a).wf = true) : 0 ≤ a ∧ a < 256 := by
  simp [Lit.wf, IntKind.min, IntKind.max, IntKind.bits, IntKind.signed] at h
  omega
theorem wf_u64 {a : Int} (h : (Lit.int .u64 a).wf = true) : 0 ≤ a ∧ a < 18446744073709551616 := by
  simp [Lit.wf, IntKind.min, IntKind.max, IntKind.bits, IntKind.signed] at h
  omega
section
variable {H : Type} {enc : TypeId × Value → H} {P : Program} {W : World} {base : Nat} {sp : Nat → Bool} {held : Bool}
theorem open_arr {t e : TypeId} {n fuel : Nat} {cs : List Value} {x : DataW H × List MemPlace} (ht : P.underlying t = some (.array n e)) (he : P.underlying e = some (.int .u8)) (hce : P.cellsOf e = 1) (hct : P.cellsOf t = n)
    (h : DataW.trod enc P W base sp held fuel t cs = some x) : ∃ l : List UInt8, l.length = n ∧ cs = bv l := by
  cases fuel with
  | zero => simp [DataW.trod] at h
  | succ fuel =>
    simp only [DataW.trod, ht, hce] at h
    split at h
    · rename_i hl
      obtain ⟨xs, hm, hx⟩ := Option.map_eq_some_iff.1 h
      have key : ∀ i, i < n → ∃ a : Int, cs[i]? = some (.int .u8 a) ∧ 0 ≤ a ∧ a < 256 := by
        intro i hi
        obtain ⟨b, hb, hf⟩ := Lib.mapM_at hm i i (by simp [hi])
        obtain ⟨a, ha, -, hw⟩ := DataW.trod_int he hf
        refine ⟨a, ?_, wf_u8 hw⟩
        have h1 : ((cs.drop (i * 1)).take 1)[0]? = some (.int .u8 a) := by rw [ha]; rfl
        rw [List.getElem?_take_of_lt (by omega), List.getElem?_drop] at h1
        simpa using h1
      have hln : cs.length = n := by rw [hl, hct]
      refine ⟨cs.map fun v => UInt8.ofNat (intOf v).toNat, by simp [hln], ?_⟩
      apply List.ext_getElem
      · simp [bv]
      · intro i h1 h2
        obtain ⟨a, ha, h3, h4⟩ := key i (by omega)
        rw [List.getElem?_eq_getElem h1] at ha
        injection ha with ha
        simp only [bv, List.map_map, List.getElem_map, Function.comp, ha]
        have e : (UInt8.ofNat (intOf (.int .u8 a)).toNat).toNat = a.toNat := by
          show (UInt8.ofNat a.toNat).toNat = a.toNat
          rw [UInt8.toNat_ofNat', Nat.mod_eq_of_lt (by omega)]
        rw [e]
        show Value.int _ _ = Value.int _ ((a.toNat : Nat) : Int)
        congr 1
        omega
    · cases h
end
set_option maxRecDepth 100000 in
theorem open_rev {H : Type} {enc : TypeId × Value → H} {W : World} {base b0 : Nat} {sp : Nat → Bool} {held : Bool} {r : Reach} {v : Value} {d : DataW H} {p : List MemPlace}
    (hv : Value.okWide Tryz.prog W r b0 25 v) (h : DataW.Trod enc Tryz.prog W base sp held 25 v d p) :
    ∃ (g : Nat) (s : List UInt8), v = .agg (rc g s).toArray ∧ s.length = 16 ∧ g < 18446744073709551616 := by
  obtain ⟨xs, rfl, hs⟩ := okWide_struct Tryz.underlying25 hv
  obtain ⟨fuel, hf⟩ := h
  obtain ⟨y0, y1, n, hx, hl, h0, h1⟩ := trod_struct2 Tryz.underlying25 hf
  rw [show Tryz.prog.cellsOf 25 = 17 by kernel_rfl] at hl hs
  have h0 : DataW.trod enc Tryz.prog W base sp held n 22 (((Value.agg xs).cells.toList.drop 0).take (Tryz.prog.cellsOf 22)) = some y0 := h0
  have h1 : DataW.trod enc Tryz.prog W base sp held n 23 (((Value.agg xs).cells.toList.drop 1).take (Tryz.prog.cellsOf 23)) = some y1 := h1
  rw [show Tryz.prog.cellsOf 22 = 1 by kernel_rfl] at h0
  rw [show Tryz.prog.cellsOf 23 = 16 by kernel_rfl] at h1
  obtain ⟨N, e0, -, wN⟩ := DataW.trod_int Tryz.underlying22 h0
  obtain ⟨l, hll, e1⟩ := open_arr Tryz.underlying23 Tryz.underlying5 (by kernel_rfl) (by kernel_rfl) h1
  have hN := wf_u64 wN
  refine ⟨N.toNat, l, ?_, hll, by omega⟩
  congr 1
  apply Array.toList_inj.1
  have hc : (Value.agg xs).cells.toList = xs.toList := rfl
  rw [hc] at e0 e1 hl
  have hsp : xs.toList = (xs.toList.drop 0).take 1 ++ (xs.toList.drop 1).take 16 := by
    rw [List.drop_zero, List.take_of_length_le (l := xs.toList.drop 1) (by rw [List.length_drop]; omega), List.take_append_drop]
  rw [hsp, e0, e1]
  show _ = Value.int .u64 ((N.toNat : Nat) : Int) :: bv l
  rw [Int.toNat_of_nonneg hN.1]
  rfl
end Go.Proofs.YtjaocgmicdnghaaGreatDoor
