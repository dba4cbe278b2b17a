/-
  HOW A LAW's ARGUMENTS ARE OPENED: a state; a Digest.
-/
import Derived.Test.YtfdpaiainlfigaaDoorOpenB
import Derived.Test.YtfdpaiainlfigaaDoorDigP
import Derived.Lib.SmallJoins
import Derived.Lib.LaidTab
namespace Go.Proofs.YtfdpaiainlfigaaDoor
set_option linter.unusedSimpArgs false
set_option linter.unusedVariables false
open Go Go.RowKit Go.ChangeShapes Go.WideShapes Go.Deep

theorem wf_u32 {a : Int} (h : (Lit.int .u32 a).wf = true) : 0 ≤ a ∧ a < 4294967296 := by
  simp [Lit.wf, IntKind.min, IntKind.max, IntKind.bits, IntKind.signed] at h
  omega
theorem wf_u64 {a : Int} (h : (Lit.int .u64 a).wf = true) : 0 ≤ a ∧ a < 18446744073709551616 := by
  simp [Lit.wf, IntKind.min, IntKind.max, IntKind.bits, IntKind.signed] at h
  omega
section
variable {H : Type} {enc : TypeId × Value → H} {P : Program} {W : World} {base : Nat} {sp : Nat → Bool} {held : Bool}
theorem open_words {t e : TypeId} {n fuel : Nat} {cs : List Value} {x : DataW H × List MemPlace} (ht : P.underlying t = some (.array n e)) (he : P.underlying e = some (.int .u32)) (hce : P.cellsOf e = 1) (hct : P.cellsOf t = n)
    (h : DataW.trod enc P W base sp held fuel t cs = some x) : ∃ V : List Nat, Ws n V ∧ cs = (uv V).toList := by
  cases fuel with
  | zero => simp [DataW.trod] at h
  | succ fuel =>
    simp only [DataW.trod, ht, hce] at h
    split at h
    · rename_i hl
      obtain ⟨xs, hm, hx⟩ := Option.map_eq_some_iff.1 h
      have key : ∀ i, i < n → ∃ a : Int, cs[i]? = some (.int .u32 a) ∧ 0 ≤ a ∧ a < 4294967296 := by
        intro i hi
        obtain ⟨b, hb, hf⟩ := Lib.mapM_at hm i i (by simp [hi])
        obtain ⟨a, ha, -, hw⟩ := DataW.trod_int he hf
        refine ⟨a, ?_, wf_u32 hw⟩
        have h1 : ((cs.drop (i * 1)).take 1)[0]? = some (.int .u32 a) := by rw [ha]; rfl
        rw [List.getElem?_take_of_lt (by omega), List.getElem?_drop] at h1
        simpa using h1
      have hln : cs.length = n := by rw [hl, hct]
      refine ⟨cs.map fun v => (intOf v).toNat, ⟨by simp [hln], fun y hy => ?_⟩, ?_⟩
      · obtain ⟨v, hv, rfl⟩ := List.mem_map.1 hy
        obtain ⟨i, hi, rfl⟩ := List.mem_iff_getElem.1 hv
        obtain ⟨a, ha, h1, h2⟩ := key i (by omega)
        rw [List.getElem?_eq_getElem hi] at ha
        injection ha with ha
        rw [ha]
        show a.toNat < _
        omega
      · apply List.ext_getElem
        · simp [uv]
        · intro i h1 h2
          obtain ⟨a, ha, h3, h4⟩ := key i (by omega)
          rw [List.getElem?_eq_getElem h1] at ha
          injection ha with ha
          simp only [uv, List.map_map, List.getElem_map, Function.comp, List.toList_toArray, ha]
          show Value.int _ _ = Value.int _ ((a.toNat : Nat) : Int)
          congr 1
          omega
    · cases h
theorem okWide_words {t e : TypeId} {n : Nat} (ht : P.underlying t = some (.array n e)) (hct : P.cellsOf t = n) {r : Reach} {b0 : Nat} {v : Value} (h : Value.okWide P W r b0 t v) : ∃ xs : Array Value, v = .agg xs ∧ xs.size = n := by
  simp only [Value.okWide, ht] at h
  obtain ⟨cs, h1, h2, _⟩ := h
  exact ⟨cs, h1, by rw [h2, hct]⟩
/-- A state by value. -/
theorem open_state {t e : TypeId} {n : Nat} (ht : P.underlying t = some (.array n e)) (he : P.underlying e = some (.int .u32)) (hce : P.cellsOf e = 1) (hct : P.cellsOf t = n) {r : Reach} {b0 : Nat} {v : Value} {d : DataW H} {p : List MemPlace}
    (hv : Value.okWide P W r b0 t v) (h : DataW.Trod enc P W base sp held t v d p) : ∃ V : List Nat, Ws n V ∧ v = .agg (uv V) := by
  obtain ⟨cs, rfl, hs⟩ := okWide_words ht hct hv
  obtain ⟨fuel, hf⟩ := h
  obtain ⟨V, hV, hc⟩ := open_words ht he hce hct hf
  refine ⟨V, hV, ?_⟩
  congr 1
  exact Array.toList_inj.1 hc
end
theorem weightsEach_cons {H : Type} {P : Program} {t : TypeId} {ts : List TypeId} {d : DataW H} {r : List (DataW H)} {n : Nat} (h : n ∈ d.weights P t ∨ n ∈ DataW.weightsEach P ts r) : n ∈ DataW.weightsEach P (t :: ts) (d :: r) := by
  simp only [DataW.weightsEach, List.mem_append]
  exact h
/-- A Digest by value. -/
theorem open_digest {H : Type} {enc : TypeId × Value → H} {W : World} {base b0 : Nat} {held : Bool} {r : Reach} {v : Value} {d : DataW H} {p : List MemPlace}
    (hv : Value.okWide Tryd.prog W r b0 33 v) (h : DataW.Trod enc Tryd.prog W base (fun _ => true) held 33 v d p) (hw : ∀ n ∈ d.weights Tryd.prog 33, n ≤ reachBytes) :
    ∃ (V : List Nat) (A : Option Addr) (n c N : Nat) (S : Int) (l : List UInt8), v = .agg (dc V (.slice A n c) N S) ∧ Ws 8 V ∧ n ≤ c ∧ c ≤ 140737488355328 ∧ Rd W A n (bv l) ∧ N < 18446744073709551616 ∧ -9223372036854775808 ≤ S ∧ S ≤ 9223372036854775807 := by
  obtain ⟨xs, rfl, hs⟩ := okWide_struct Tryd.underlying33 hv
  obtain ⟨fuel, hf⟩ := h
  obtain ⟨y0, y1, y2, y3, n, hx, hl, h0, h1, h2, h3⟩ := Joins.trod_struct4 Tryd.underlying33 hf
  rw [show Tryd.prog.cellsOf 33 = 11 by kernel_rfl] at hl hs
  have h0 : DataW.trod enc Tryd.prog W base (fun _ => true) held n 23 (((Value.agg xs).cells.toList.drop 0).take (Tryd.prog.cellsOf 23)) = some y0 := h0
  have h1 : DataW.trod enc Tryd.prog W base (fun _ => true) held n 24 (((Value.agg xs).cells.toList.drop 8).take (Tryd.prog.cellsOf 24)) = some y1 := h1
  have h2 : DataW.trod enc Tryd.prog W base (fun _ => true) held n 25 (((Value.agg xs).cells.toList.drop 9).take (Tryd.prog.cellsOf 25)) = some y2 := h2
  have h3 : DataW.trod enc Tryd.prog W base (fun _ => true) held n 3 (((Value.agg xs).cells.toList.drop 10).take (Tryd.prog.cellsOf 3)) = some y3 := h3
  rw [show Tryd.prog.cellsOf 23 = 8 by kernel_rfl] at h0
  rw [show Tryd.prog.cellsOf 24 = 1 by kernel_rfl] at h1
  rw [show Tryd.prog.cellsOf 25 = 1 by kernel_rfl] at h2
  rw [show Tryd.prog.cellsOf 3 = 1 by kernel_rfl] at h3
  obtain ⟨V, hV, e0⟩ := open_words Tryd.underlying23 Tryd.underlying22 (by kernel_rfl) (by kernel_rfl) h0
  obtain ⟨A, m, c, e1⟩ := Joins.slice_form Tryd.underlying24 h1
  obtain ⟨N, e2, -, wN⟩ := DataW.trod_int Tryd.underlying25 h2
  obtain ⟨S, e3, -, wS⟩ := DataW.trod_int Tryd.underlying3 h3
  have hN := wf_u64 wN
  have hS := bounds_i64 wS
  rw [e1] at h1
  have hd : DataW.Trod enc Tryd.prog W base (fun _ => true) held 24 (.slice A m c) y1.1 y1.2 := ⟨n, by rw [show (Value.slice A m c).cells.toList = [.slice A m c] from rfl]; exact h1⟩
  have hx1 : d = .agg [y0.1, y1.1, y2.1, y3.1] := congrArg Prod.fst hx
  have hw1 : ∀ k ∈ y1.1.weights Tryd.prog 24, k ≤ reachBytes := fun k hk => hw k (by
    rw [hx1]
    simp only [DataW.weights, Tryd.underlying33]
    exact weightsEach_cons (.inr (weightsEach_cons (.inl hk))))
  obtain ⟨q1, q2, l, q3⟩ := open_u8s Tryd.underlying24 Tryd.underlying5 (by kernel_rfl) (by kernel_rfl) hd hw1
  refine ⟨V, A, m, c, N.toNat, S, l, ?_, hV, q1, q2, q3, by omega, hS.1, hS.2⟩
  congr 1
  apply Array.toList_inj.1
  have hc : (Value.agg xs).cells.toList = xs.toList := rfl
  rw [hc] at e0 e1 e2 e3 hl
  have hsp : xs.toList = xs.toList.take 8 ++ ((xs.toList.drop 8).take 1 ++ ((xs.toList.drop 9).take 1 ++ (xs.toList.drop 10).take 1)) := by
    have hq : xs.toList.length = 11 := hl
    match xs.toList, hq with
    | [a, b, c, d, e, f, g, h, i, j, k], _ => rfl
  rw [List.drop_zero] at e0
  rw [hsp, e0, e1, e2, e3]
  have hu := uv8 hV
  rw [hu]
  unfold dc
  rw [Int.toNat_of_nonneg hN.1]
  rfl
end Go.Proofs.YtfdpaiainlfigaaDoor
