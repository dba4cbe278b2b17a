/-
  HOW A LAW's ARGUMENTS ARE OPENED: a value (of values).
-/
import Derived.Test.YtnkfkicabgajmaaGreatDoorAw
import Derived.ProofKit
import Derived.OpenShut
import Derived.Deep.Slices
import Derived.Deep.Fields
import Derived.Deep.Matrix
import Derived.ChangeSame
import Derived.ChangeVars
import Derived.RowKit
namespace Go.Proofs.YtnkfkicabgajmaaGreatDoor
set_option linter.unusedSimpArgs false
set_option linter.unusedVariables false
open Go Go.RowKit Go.ChangeShapes Go.WideShapes Go.Deep

theorem oflat_at {α : Type} (f : α → List Value) (c : Nat) (hf : ∀ a, (f a).length = c) : ∀ (l : List α) (i : Nat) (h : i < l.length) (j : Nat), j < c → (l.flatMap f)[i * c + j]? = (f l[i])[j]?
  | a :: l, 0, _, j, hj => by
    rw [List.flatMap_cons, Nat.zero_mul, Nat.zero_add, List.getElem?_append_left (by rw [hf]; exact hj)]
    rfl
  | a :: l, i + 1, h, j, hj => by
    rw [List.flatMap_cons, List.getElem?_append_right (by rw [hf, Nat.add_mul]; omega), hf, show (i + 1) * c + j - c = i * c + j by rw [Nat.add_mul]; omega]
    exact oflat_at f c hf l i (by simpa using h) j hj
theorem oflat_len {α : Type} (f : α → List Value) (c : Nat) (hf : ∀ a, (f a).length = c) (l : List α) : (l.flatMap f).length = l.length * c := by
  induction l with
  | nil => simp
  | cons a l ih => rw [List.flatMap_cons, List.length_append, hf, ih, List.length_cons, Nat.add_mul]; omega
theorem rd_flat {α : Type} {W : World} {x : Addr} (f : α → List Value) (c : Nat) (hc : 0 < c) (hf : ∀ a, (f a).length = c) (l : List α) (h : ∀ (i : Nat) (hi : i < l.length) (j : Nat), j < c → W.cell? (x.add (i * c + j)) = (f l[i])[j]?) : Rd W (some x) (l.length * c) (l.flatMap f) := by
  refine ⟨oflat_len f c hf l, fun _ => ⟨x, rfl, fun q u hu => ?_⟩⟩
  have hq : q < l.length * c := by rw [← oflat_len f c hf l]; exact (List.getElem?_eq_some_iff.1 hu).1
  have hi : q / c < l.length := (Nat.div_lt_iff_lt_mul hc).2 hq
  have hj : q % c < c := Nat.mod_lt _ hc
  have e : q / c * c + q % c = q := by rw [Nat.mul_comm]; exact Nat.div_add_mod q c
  have h1 := h (q / c) hi (q % c) hj
  have h2 := oflat_at f c hf l (q / c) hi (q % c) hj
  rw [e] at h1 h2
  rw [h1, ← h2, hu]
theorem weightsAll_mem {H : Type} {P : Program} {e : TypeId} : ∀ {l : List (DataW H)} {d : DataW H}, d ∈ l → ∀ n ∈ d.weights P e, n ∈ DataW.weightsAll P e l
  | x :: l, d, h, n, hn => by
    simp only [DataW.weightsAll, List.mem_append]
    rcases List.mem_cons.1 h with rfl | h
    · exact Or.inl hn
    · exact Or.inr (weightsAll_mem h n hn)
section
variable {H : Type} {enc : TypeId × Value → H} {P : Program} {W : World} {base : Nat} {spare : Nat → Bool} {held : Bool}
/-- A slice, by its elements: each with less fuel. -/
theorem open_elems {α : Type} (z : α) (f : α → List Value) (Ok : α → Prop) {t e : TypeId} {c fuel : Nat} (ht : P.underlying t = some (.slice e)) (hC : P.cellsOf e = c) (hc : 0 < c) (hb : 1 ≤ P.bytesOf e) (hf : ∀ a, (f a).length = c)
    (hel : ∀ n, n < fuel → ∀ cs y, cs.length = c → DataW.trod enc P W base spare held n e cs = some y → (∀ k ∈ y.1.weights P e, k ≤ reachBytes) → ∃ a, Ok a ∧ cs = f a)
    {a : Option Addr} {len cap : Nat} {y : DataW H × List MemPlace} (h : DataW.trod enc P W base spare held fuel t [.slice a len cap] = some y) (hw : ∀ n ∈ y.1.weights P t, n ≤ reachBytes) :
    len ≤ cap ∧ len ≤ 140737488355328 ∧ ∃ l : List α, l.length = len ∧ Rd W a (len * c) (l.flatMap f) ∧ ∀ x ∈ l, Ok x := by
  rcases DataW.trod_slice ht h with ⟨hcs, _⟩ | ⟨x, len', cap', elems, rest, n, hfu, hcs, hy, _, hl, hm, hlen, hin, _, _⟩
  · injection hcs with hcs
    injection hcs with h1 h2 h3
    subst h1 h2 h3
    exact ⟨Nat.le_refl _, by omega, [], rfl, by rw [Nat.zero_mul]; exact Rd.none_ _ _, fun _ h => by cases h⟩
  · injection hcs with hcs
    injection hcs with h1 h2 h3
    subst h1 h2 h3
    subst hlen
    have hd1 : y.1 = .slice (elems.map (·.1)) (rest.map (·.1)) := congrArg Prod.fst hy
    have hlb : elems.length ≤ 140737488355328 := by
      have h1 := hw ((elems.map (·.1)).length * P.bytesOf e + (rest.map (·.1)).length * P.bytesOf e) (by rw [hd1]; simp only [DataW.weights, ht]; rw [← Nat.add_mul]; exact List.mem_cons_self)
      rw [List.length_map] at h1
      have h2 := Nat.le_mul_of_pos_right elems.length hb
      unfold reachBytes at h1
      omega
    have key : ∀ i, ∃ t : α, i < elems.length → Ok t ∧ ∀ j, j < c → W.cell? (x.add (i * c + j)) = (f t)[j]? := by
      intro i
      by_cases hil : i < elems.length
      · have hi := hin i hil
        rw [List.getElem?_eq_getElem hil, Option.bind_eq_some_iff] at hi
        obtain ⟨cs', hc', ht'⟩ := hi
        rw [hC] at hc'
        obtain ⟨_, hcl, hat⟩ := World.cells?_some hc'
        obtain ⟨t, hok, rfl⟩ := hel n (by omega) cs' _ hcl ht' (fun k hk => hw k (by
          rw [hd1]
          simp only [DataW.weights, ht, List.mem_cons, List.mem_append]
          exact Or.inr (Or.inl (weightsAll_mem (List.mem_map.2 ⟨elems[i], List.getElem_mem hil, rfl⟩) k hk))))
        refine ⟨t, fun _ => ⟨hok, fun j hj => ?_⟩⟩
        have := hat j hj
        rw [Go.Deep.add_add] at this
        rw [this]
      · exact ⟨z, fun h => absurd h hil⟩
    obtain ⟨g, hg⟩ := Classical.axiomOfChoice key
    refine ⟨hl, hlb, (List.range elems.length).map g, by simp, ?_, fun t ht' => ?_⟩
    · have := rd_flat (W := W) (x := x) f c hc hf ((List.range elems.length).map g) (fun i hi' j hj => by
        have hil : i < elems.length := by simpa using hi'
        rw [(hg i hil).2 j hj]
        simp)
      simpa using this
    · obtain ⟨i, hi', rfl⟩ := List.mem_map.1 ht'
      exact (hg i (List.mem_range.1 hi')).1
end
theorem one_flat : ∀ ks : List (List UInt8), ks.flatMap (fun s => [Value.string (strOf s)]) = strs ks
  | [] => rfl
  | a :: l => by
    rw [List.flatMap_cons, one_flat l]
    rfl
theorem rd_lt {W : World} {A : Option Addr} {n : Nat} {xs : List Value} (h : Rd W A n xs) (hn : 0 < n) (b : Nat) (hb : inA A b) : b < W.heap.size := by
  obtain ⟨b', off, rfl, hc⟩ := h.lit hn
  obtain ⟨ad, h1, h2⟩ := hb
  injection h1 with h1
  subst h1
  have h2 : b' = b := h2
  subst h2
  have hx := hc 0 hn
  have hl := h.1
  rw [List.getElem?_eq_getElem (by omega)] at hx
  exact World.block_lt_of_cell? _ _ hx
theorem list5 : ∀ (l : List Value), l.length = 5 → ∃ c0 c1 c2 c3 c4, l = [c0, c1, c2, c3, c4]
  | [a, b, c, d, e], _ => ⟨a, b, c, d, e, rfl⟩
abbrev VA := { x : Array Value × V // x.1.size = 5 }
section
variable {H : Type} {enc : TypeId × Value → H} {W : World} {base : Nat} {spare : Nat → Bool} {held : Bool}
set_option maxRecDepth 20000 in
theorem val_at : ∀ (n : Nat) (cs : List Value) (y : DataW H × List MemPlace), cs.length = 5 → DataW.trod enc Tryz.prog W base spare held n 25 cs = some y → (∀ k ∈ y.1.weights Tryz.prog 25, k ≤ reachBytes) → ∃ v, RdV (fun b => b < W.heap.size) W cs.toArray v := by
  intro n
  induction n using Nat.strongRecOn with
  | _ n ih =>
    intro cs y hl h hw
    obtain ⟨xs, m, hnm, hx, _, hxl, hf⟩ := DataW.trod_struct Tryz.underlying25 h
    obtain ⟨c0, c1, c2, c3, c4, rfl⟩ := list5 cs hl
    obtain ⟨y0, y1, y2, y3, y4, rfl⟩ : ∃ y0 y1 y2 y3 y4, xs = [y0, y1, y2, y3, y4] := by
      have hxl2 : xs.length = 5 := hxl
      match xs, hxl2 with
      | [a, b, c, d, e], _ => exact ⟨a, b, c, d, e, rfl⟩
    have h0 : DataW.trod enc Tryz.prog W base spare held m 3 (([c0, c1, c2, c3, c4].drop 0).take (Tryz.prog.cellsOf 3)) = some y0 := by simpa using hf 0 _ rfl
    have h1 : DataW.trod enc Tryz.prog W base spare held m 2 (([c0, c1, c2, c3, c4].drop 1).take (Tryz.prog.cellsOf 2)) = some y1 := by simpa using hf 1 _ rfl
    have h2 : DataW.trod enc Tryz.prog W base spare held m 9 (([c0, c1, c2, c3, c4].drop 2).take (Tryz.prog.cellsOf 9)) = some y2 := by simpa using hf 2 _ rfl
    have h3 : DataW.trod enc Tryz.prog W base spare held m 22 (([c0, c1, c2, c3, c4].drop 3).take (Tryz.prog.cellsOf 22)) = some y3 := by simpa using hf 3 _ rfl
    have h4 : DataW.trod enc Tryz.prog W base spare held m 23 (([c0, c1, c2, c3, c4].drop 4).take (Tryz.prog.cellsOf 23)) = some y4 := by simpa using hf 4 _ rfl
    rw [show Tryz.prog.cellsOf 3 = 1 by kernel_rfl] at h0
    rw [show Tryz.prog.cellsOf 2 = 1 by kernel_rfl] at h1
    rw [show Tryz.prog.cellsOf 9 = 1 by kernel_rfl] at h2
    rw [show Tryz.prog.cellsOf 22 = 1 by kernel_rfl] at h3
    rw [show Tryz.prog.cellsOf 23 = 1 by kernel_rfl] at h4
    obtain ⟨a0, e0, -, w0⟩ := DataW.trod_int Tryz.underlying3 h0
    obtain ⟨a1, e1, -, w1⟩ := DataW.trod_int Tryz.underlying2 h1
    obtain ⟨a2, e2, q2, w2⟩ := DataW.trod_string Tryz.underlying9 h2
    have b0 := bounds_i64 w0
    have b1 := bounds_i64 w1
    have hx1 : y.1 = .agg [y0.1, y1.1, y2.1, y3.1, y4.1] := by rw [hx]; rfl
    have g2 : a2.data.toList.length ≤ reachBytes := hw _ (by rw [hx1, q2]; simp [DataW.weights, DataW.weightsEach, Tryz.underlying25])
    have g3 : ∀ k ∈ y3.1.weights Tryz.prog 22, k ≤ reachBytes := fun k hk => hw k (by rw [hx1]; simp [DataW.weights, DataW.weightsEach, Tryz.underlying25, hk])
    have g4 : ∀ k ∈ y4.1.weights Tryz.prog 23, k ≤ reachBytes := fun k hk => hw k (by rw [hx1]; simp [DataW.weights, DataW.weightsEach, Tryz.underlying25, hk])
    unfold reachBytes at g2
    simp at e0 e1 e2
    subst e0 e1 e2
    have h3 : DataW.trod enc Tryz.prog W base spare held m 22 [c3] = some y3 := h3
    have h4 : DataW.trod enc Tryz.prog W base spare held m 23 [c4] = some y4 := h4
    obtain ⟨A3, n3, k3, e3⟩ := Joins.slice_form Tryz.underlying22 h3
    obtain ⟨A4, n4, k4, e4⟩ := Joins.slice_form Tryz.underlying23 h4
    cases e3
    cases e4
    obtain ⟨l1, l2, ks, l3, l4, l5⟩ := open_elems (α := List UInt8) [] (fun s => [.string (strOf s)]) (fun s => s.length ≤ 140737488355328) Tryz.underlying23 (by kernel_rfl) (by omega : 0 < 1) (of_decide_eq_true (by kernel_rfl)) (fun _ => rfl)
      (fun n' hn' cs' y' hl' hy' hw' => by
        obtain ⟨u, rfl⟩ : ∃ u, cs' = [u] := by
          match cs', hl' with
          | [u], _ => exact ⟨u, rfl⟩
        obtain ⟨s, es, qs, _⟩ := DataW.trod_string Tryz.underlying9 hy'
        have gs : s.data.toList.length ≤ reachBytes := hw' _ (by rw [qs]; simp [DataW.weights])
        unfold reachBytes at gs
        cases es
        exact ⟨s.data.toList, by omega, by rw [strOf_of]⟩) h4 g4
    obtain ⟨m1, m2, vs, m3, m4, m5⟩ := open_elems (α := VA) ⟨(vcs 0 0 [] none 0 0 none 0 0, V.zero), rfl⟩ (fun x => x.1.1.toList) (fun x => RdV (fun b => b < W.heap.size) W x.1.1 x.1.2) Tryz.underlying22 (by kernel_rfl) (by omega : 0 < 5) (of_decide_eq_true (by kernel_rfl)) (fun x => by rw [Array.length_toList]; exact x.2)
      (fun n' hn' cs' y' hl' hy' hw' => by
        obtain ⟨v, hv⟩ := ih n' (by omega) cs' y' hl' hy' hw'
        exact ⟨⟨(cs'.toArray, v), by simpa using hl'⟩, hv, by simp⟩) h3 g3
    subst l3
    have hkr : Rd W A4 ks.length (strs ks) := by
      rw [Nat.mul_one, one_flat] at l4
      exact l4
    have hln : (vs.map (·.1.2)).length = n3 := by rw [List.length_map]; exact m3
    have hfl : flat (vs.map (·.1.1)) = vs.flatMap (fun x => x.1.1.toList) := by
      unfold flat
      rw [List.flatMap_map]
    have hlr : Rd W A3 ((vs.map (·.1.2)).length * 5) (flat (vs.map (·.1.1))) := by
      rw [hln, hfl]
      exact m4
    refine ⟨.mk a0 a1 a2.data.toList (vs.map (·.1.2)) ks, ?_⟩
    have hb : VB a0 a1 a2.data.toList (vs.map (·.1.2)).length ks := ⟨b0.1, b0.2, b1.1, b1.2, by omega, by rw [hln]; exact m2, l2, l5⟩
    have := RdV.mk (D := fun b => b < W.heap.size) (w := W) (Al := A3) (cl := k3) (Ak := A4) (ck := k4) (vs.map (·.1.1)) hb hkr (fun hn b hb' => rd_lt hkr hn b hb') l1 (by simp) (fun C hC => by
      obtain ⟨x, _, rfl⟩ := List.mem_map.1 hC
      exact x.2) hlr (fun hn b hb' => rd_lt hlr (by omega) b hb') (by rw [hln]; exact m1) (fun i C x h1 h2 => by
      rw [List.getElem?_map] at h1 h2
      cases hx' : vs[i]? with
      | none => rw [hx'] at h1; cases h1
      | some z =>
        rw [hx'] at h1 h2
        cases h1
        cases h2
        exact m5 z (List.mem_of_getElem? hx'))
    rw [hln] at this
    have e : (vcs a0 a1 a2.data.toList A3 n3 k3 A4 ks.length k4) = #[.int .i64 a0, .int .i64 a1, .string a2, .slice A3 n3 k3, .slice A4 ks.length k4] := by
      unfold vcs
      rw [strOf_of]
    rw [e] at this
    exact this

set_option maxRecDepth 20000 in
theorem open_val {b0 : Nat} {r : Reach} {v : Value} {d : DataW H} {p : List MemPlace} (hv : Value.okWide Tryz.prog W r b0 25 v) (h : DataW.Trod enc Tryz.prog W base spare held 25 v d p) (hw : ∀ n ∈ d.weights Tryz.prog 25, n ≤ reachBytes) :
    ∃ C x, v = .agg C ∧ RdV (fun b => b < W.heap.size) W C x := by
  obtain ⟨xs, rfl, hs⟩ := okWide_struct Tryz.underlying25 hv
  obtain ⟨fuel, hf⟩ := h
  have hs5 : xs.toList.length = 5 := by rw [Array.length_toList, hs]; kernel_rfl
  obtain ⟨x, hx⟩ := val_at fuel xs.toList _ hs5 hf hw
  exact ⟨xs, x, rfl, by simpa using hx⟩
end
end Go.Proofs.YtnkfkicabgajmaaGreatDoor
