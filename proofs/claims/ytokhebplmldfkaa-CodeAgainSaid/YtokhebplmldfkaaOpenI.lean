/-
  HOW A LAW's ARGUMENTS ARE OPENED: a slice of Items that came in.
-/
import Derived.Test.YtokhebplmldfkaaItem
import Derived.Test.YtokhebplmldfkaaOpen
import Derived.Deep.Slices
import Derived.Deep.Fields
import Derived.ChangeSame
namespace Go.Proofs.Ytokhebplmldfkaa
set_option linter.unusedSimpArgs false
set_option linter.unusedVariables false
open Go Go.RowKit Go.ChangeShapes Go.WideShapes Go.Deep

section
variable {H : Type} {enc : TypeId × Value → H} {W : World} {base : Nat} {spare : Nat → Bool} {held : Bool}
/-- One of its fields, in its cell. -/
theorem item_cell {P : Program} {t : TypeId} {fs : Array Field} {cs : List Value} {n : Nat} {x : DataW H × List MemPlace} (hs : P.underlying t = some (.struct fs)) (ho : oneCellFields P fs = true)
    (h : DataW.trod enc P W base spare held n t cs = some x) (hl : cs.length = fs.size) (j : Nat) (f : Field) (hj : fs[j]? = some f) :
    ∃ v m y, cs[j]? = some v ∧ DataW.trod enc P W base spare held m f.type [v] = some y := by
  obtain ⟨xs, m, _, _, _, hxl, hf⟩ := DataW.trod_struct hs h
  obtain ⟨h1, h2⟩ := hone_of ho j f hj
  have hjl : j < fs.size := (Array.getElem?_eq_some_iff.1 hj).1
  have h3 := hf j f hj
  rw [h1, h2, List.drop_eq_getElem_cons (by omega : j < cs.length), List.take_succ_cons, List.take_zero, List.getElem?_eq_getElem (by omega : j < xs.length)] at h3
  exact ⟨_, m, _, List.getElem?_eq_getElem (by omega), h3⟩
theorem item_at {cs : List Value} {n : Nat} {x : DataW H × List MemPlace} (hl : cs.length = 4)
    (h : DataW.trod enc Try.prog W base spare held n 31 cs = some x) :
    ∃ t : It, t.Ok ∧ cs = [.int .i64 t.kind, .int .i64 t.most, .int .u64 (t.x : Int), .string t.s] := by
  have hs := Try.underlying31
  obtain ⟨v0, m0, y0, g0, e0⟩ := item_cell hs (by kernel_rfl) h hl 0 _ rfl
  obtain ⟨v1, m1, y1, g1, e1⟩ := item_cell hs (by kernel_rfl) h hl 1 _ rfl
  obtain ⟨v2, m2, y2, g2, e2⟩ := item_cell hs (by kernel_rfl) h hl 2 _ rfl
  obtain ⟨v3, m3, y3, g3, e3⟩ := item_cell hs (by kernel_rfl) h hl 3 _ rfl
  obtain ⟨a0, q0, _, w0⟩ := DataW.trod_int Try.underlying3 e0
  obtain ⟨a1, q1, _, w1⟩ := DataW.trod_int Try.underlying3 e1
  obtain ⟨a2, q2, _, w2⟩ := DataW.trod_int Try.underlying29 e2
  obtain ⟨a3, q3, _, w3⟩ := DataW.trod_string Try.underlying9 e3
  injection q0 with q0 _
  injection q1 with q1 _
  injection q2 with q2 _
  injection q3 with q3 _
  subst q0 q1 q2 q3
  have b0 := bounds_i64 w0
  have b1 := bounds_i64 w1
  have b2 := bounds_u64 w2
  refine ⟨⟨a0, a1, a2.toNat, a3⟩, ⟨by simpa using b0.1, by simpa using b0.2, by simpa using b1.1, by simpa using b1.2, by simp only; omega, w3⟩, ?_⟩
  match cs, hl with
  | [c0, c1, c2, c3], _ =>
    simp at g0 g1 g2 g3
    subst g0 g1 g2 g3
    simp only
    rw [Int.toNat_of_nonneg b2.1]

/-- A slice of Items. -/
theorem open_items {a : Option Addr} {len cap : Nat} {d : DataW H} {p : List MemPlace} (h : DataW.Trod enc Try.prog W base spare held 22 (.slice a len cap) d p) :
    len ≤ 9223372036854775807 ∧ ∃ ts : List It, RdI W a len ts ∧ ∀ t ∈ ts, t.Ok := by
  obtain ⟨fuel, hf⟩ := h
  rcases open_slice Try.underlying22 hf with ⟨hcs, _⟩ | ⟨x, l, c, m, n, D, Pl, hcs, _, hl, hm, hmm, _, hi⟩
  · simp [Value.cells] at hcs
    obtain ⟨rfl, rfl, rfl⟩ := hcs
    exact ⟨by omega, [], ⟨rfl, fun h => absurd h (by omega)⟩, fun _ h => by cases h⟩
  · simp [Value.cells] at hcs
    obtain ⟨rfl, rfl, rfl⟩ := hcs
    have hC : Try.prog.cellsOf 31 = 4 := by kernel_rfl
    have hlm : len ≤ m := by rw [hmm]; split <;> omega
    have key : ∀ i, i < len → ∃ t : It, t.Ok ∧ W.cell? (x.add (i * 4)) = some (.int .i64 t.kind) ∧ W.cell? (x.add (i * 4 + 1)) = some (.int .i64 t.most) ∧ W.cell? (x.add (i * 4 + 2)) = some (.int .u64 (t.x : Int)) ∧ W.cell? (x.add (i * 4 + 3)) = some (.string t.s) := by
      intro i hil
      obtain ⟨cs', hc, ht⟩ := hi i (by omega)
      rw [hC] at hc
      obtain ⟨_, hcl, hat⟩ := World.cells?_some hc
      obtain ⟨t, hok, rfl⟩ := item_at hcl ht
      have a0 := hat 0 (by omega)
      have a1 := hat 1 (by omega)
      have a2 := hat 2 (by omega)
      have a3 := hat 3 (by omega)
      rw [Go.Deep.add_add] at a0 a1 a2 a3
      exact ⟨t, hok, by simpa using a0, a1, a2, a3⟩
    clear hi hf
    have key2 : ∀ i, ∃ t : It, i < len → t.Ok ∧ W.cell? (x.add (i * 4)) = some (.int .i64 t.kind) ∧ W.cell? (x.add (i * 4 + 1)) = some (.int .i64 t.most) ∧ W.cell? (x.add (i * 4 + 2)) = some (.int .u64 (t.x : Int)) ∧ W.cell? (x.add (i * 4 + 3)) = some (.string t.s) := by
      intro i
      by_cases hil : i < len
      · obtain ⟨t, ht⟩ := key i hil
        exact ⟨t, fun _ => ht⟩
      · exact ⟨⟨0, 0, 0, ⟨#[]⟩⟩, fun h => absurd h hil⟩
    obtain ⟨g, hg⟩ := Classical.axiomOfChoice key2
    unfold maxLen at hm
    refine ⟨by omega, (List.range len).map g, ⟨by simp, fun hpos => ?_⟩, fun t ht => ?_⟩
    · obtain ⟨b, off, spot⟩ := x
      have h0 := (hg 0 hpos).2.1
      have hspot : spot = none := by simpa [Addr.add] using World.cell?_spot h0
      subst hspot
      refine ⟨b, off, rfl, fun i hil => ?_⟩
      have hil2 : i < len := by simpa using hil
      have h := (hg i hil2).2
      simp only [Addr.add_lit, ← Nat.add_assoc] at h
      simpa using h
    · obtain ⟨i, hi, rfl⟩ := List.mem_map.1 ht
      exact (hg i (List.mem_range.1 hi)).1
end
end Go.Proofs.Ytokhebplmldfkaa
