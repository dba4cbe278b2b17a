/-
  HOW A LAW's ARGUMENTS ARE OPENED: an Act, a slice of Acts, a slice of rows of Entries.
-/
import Derived.Test.YtillifkilkjpdaaDoorAwk
import Derived.ProofKit
import Derived.OpenShut
import Derived.Deep.Slices
import Derived.Deep.Fields
import Derived.Deep.Matrix
import Derived.ChangeSame
import Derived.ChangeVars
import Derived.RowKit
namespace Go.Proofs.YtillifkilkjpdaaDoor
set_option linter.unusedSimpArgs false
set_option linter.unusedVariables false
open Go Go.RowKit Go.ChangeShapes Go.WideShapes Go.Deep

theorem flat_at {α : Type} (f : α → List Value) (c : Nat) (hf : ∀ a, (f a).length = c) : ∀ (l : List α) (i : Nat) (h : i < l.length) (j : Nat), j < c → (l.flatMap f)[i * c + j]? = (f l[i])[j]?
  | a :: l, 0, _, j, hj => by
    rw [List.flatMap_cons, Nat.zero_mul, Nat.zero_add, List.getElem?_append_left (by rw [hf]; exact hj)]
    rfl
  | a :: l, i + 1, h, j, hj => by
    rw [List.flatMap_cons, List.getElem?_append_right (by rw [hf, Nat.add_mul]; omega), hf, show (i + 1) * c + j - c = i * c + j by rw [Nat.add_mul]; omega]
    exact flat_at f c hf l i (by simpa using h) j hj
theorem flat_len {α : Type} (f : α → List Value) (c : Nat) (hf : ∀ a, (f a).length = c) (l : List α) : (l.flatMap f).length = l.length * c := by
  induction l with
  | nil => simp
  | cons a l ih => rw [List.flatMap_cons, List.length_append, hf, ih, List.length_cons, Nat.add_mul]; omega
theorem rd_flat {α : Type} {W : World} {x : Addr} (f : α → List Value) (c : Nat) (hc : 0 < c) (hf : ∀ a, (f a).length = c) (l : List α) (h : ∀ (i : Nat) (hi : i < l.length) (j : Nat), j < c → W.cell? (x.add (i * c + j)) = (f l[i])[j]?) : Rd W (some x) (l.length * c) (l.flatMap f) := by
  refine ⟨flat_len f c hf l, fun _ => ⟨x, rfl, fun q u hu => ?_⟩⟩
  have hq : q < l.length * c := by rw [← flat_len f c hf l]; exact (List.getElem?_eq_some_iff.1 hu).1
  have hi : q / c < l.length := (Nat.div_lt_iff_lt_mul hc).2 hq
  have hj : q % c < c := Nat.mod_lt _ hc
  have e : q / c * c + q % c = q := by rw [Nat.mul_comm]; exact Nat.div_add_mod q c
  have h1 := h (q / c) hi (q % c) hj
  have h2 := flat_at f c hf l (q / c) hi (q % c) hj
  rw [e] at h1 h2
  rw [h1, ← h2, hu]
theorem weightsAll_mem {H : Type} {P : Program} {e : TypeId} : ∀ {l : List (DataW H)} {d : DataW H}, d ∈ l → ∀ n ∈ d.weights P e, n ∈ DataW.weightsAll P e l
  | x :: l, d, h, n, hn => by
    simp only [DataW.weightsAll, List.mem_append]
    rcases List.mem_cons.1 h with rfl | h
    · exact Or.inl hn
    · exact Or.inr (weightsAll_mem h n hn)

section
variable {H : Type} {enc : TypeId × Value → H} {P : Program} {W : World} {base : Nat} {spare : Nat → Bool} {held : Bool}
theorem open_elems {α : Type} (z : α) (f : α → List Value) (Ok : α → Prop) {t e : TypeId} {c : Nat} (ht : P.underlying t = some (.slice e)) (hC : P.cellsOf e = c) (hc : 0 < c) (hb : 1 ≤ P.bytesOf e) (hf : ∀ a, (f a).length = c)
    (hel : ∀ n cs y, cs.length = c → DataW.trod enc P W base spare held n e cs = some y → (∀ k ∈ y.1.weights P e, k ≤ reachBytes) → ∃ a, Ok a ∧ cs = f a)
    {a : Option Addr} {len cap : Nat} {d : DataW H} {p : List MemPlace} (h : DataW.Trod enc P W base spare held t (.slice a len cap) d p) (hw : ∀ n ∈ d.weights P t, n ≤ reachBytes) :
    len ≤ cap ∧ len ≤ 140737488355328 ∧ ∃ l : List α, l.length = len ∧ Rd W a (len * c) (l.flatMap f) ∧ ∀ x ∈ l, Ok x := by
  obtain ⟨fuel, hfu⟩ := h
  rcases open_slice ht hfu with ⟨hcs, _⟩ | ⟨x, l, c', m, n, D, Pl, hcs, _, hl, hm, hmm, hd, hi⟩
  · simp [Value.cells] at hcs
    obtain ⟨rfl, rfl, rfl⟩ := hcs
    exact ⟨Nat.le_refl _, by omega, [], rfl, by rw [Nat.zero_mul]; exact Rd.none_ _ _, fun _ h => by cases h⟩
  · simp [Value.cells] at hcs
    obtain ⟨rfl, rfl, rfl⟩ := hcs
    have hlm : len ≤ m := by rw [hmm]; split <;> omega
    have hd1 : d = .slice ((List.range len).map D) ((List.range (m - len)).map fun j => D (len + j)) := congrArg Prod.fst hd
    have hlb : len ≤ 140737488355328 := by
      have h1 := hw (((List.range len).map D).length * P.bytesOf e + (((List.range (m - len)).map fun j => D (len + j)).length) * P.bytesOf e) (by rw [hd1]; simp only [DataW.weights, ht]; rw [← Nat.add_mul]; exact List.mem_cons_self)
      rw [List.length_map, List.length_range] at h1
      have h2 := Nat.le_mul_of_pos_right len hb
      unfold reachBytes at h1
      omega
    have key : ∀ i, ∃ t : α, i < len → Ok t ∧ ∀ j, j < c → W.cell? (x.add (i * c + j)) = (f t)[j]? := by
      intro i
      by_cases hil : i < len
      · obtain ⟨cs', hc', ht'⟩ := hi i (by omega)
        rw [hC] at hc'
        obtain ⟨_, hcl, hat⟩ := World.cells?_some hc'
        obtain ⟨t, hok, rfl⟩ := hel n cs' _ hcl ht' (fun k hk => hw k (by
          rw [hd1]
          simp only [DataW.weights, ht, List.mem_cons, List.mem_append]
          exact Or.inr (Or.inl (weightsAll_mem (List.mem_map.2 ⟨i, List.mem_range.2 hil, rfl⟩) k hk))))
        refine ⟨t, fun _ => ⟨hok, fun j hj => ?_⟩⟩
        have := hat j hj
        rw [Go.Deep.add_add] at this
        rw [this]
      · exact ⟨z, fun h => absurd h hil⟩
    obtain ⟨g, hg⟩ := Classical.axiomOfChoice key
    refine ⟨hl, hlb, (List.range len).map g, by simp, ?_, fun t ht' => ?_⟩
    · have := rd_flat (W := W) (x := x) f c hc hf ((List.range len).map g) (fun i hi' j hj => by
        have hil : i < len := by simpa using hi'
        rw [(hg i hil).2 j hj]
        simp)
      simpa using this
    · obtain ⟨i, hi', rfl⟩ := List.mem_map.1 ht'
      exact (hg i (List.mem_range.1 hi')).1
end
theorem list4 : ∀ (l : List Value), l.length = 4 → ∃ c0 c1 c2 c3, l = [c0, c1, c2, c3]
  | [a, b, c, d], _ => ⟨a, b, c, d, rfl⟩
theorem list2 : ∀ (l : List Value), l.length = 2 → ∃ c0 c1, l = [c0, c1]
  | [a, b], _ => ⟨a, b, rfl⟩
theorem list1 : ∀ (l : List Value), l.length = 1 → ∃ c0, l = [c0]
  | [a], _ => ⟨a, rfl⟩
theorem flat_one (l : List (Value × Ents)) : l.flatMap (fun x => [x.1]) = l.map (·.1) := by
  induction l with
  | nil => rfl
  | cons a l ih => rw [List.flatMap_cons, List.map_cons, ih]; rfl
/-- An Act. -/
structure Ac where
  d : Int
  u : Int
  k : List UInt8
  t : List UInt8
def acell (a : Ac) : List Value := [.int .i64 a.d, .int .i64 a.u, .string (strOf a.k), .string (strOf a.t)]
structure Ac.Ok (a : Ac) : Prop where
  u0 : -9223372036854775808 ≤ a.u
  u1 : a.u ≤ 9223372036854775807
  k1 : a.k.length ≤ 140737488355328
  t1 : a.t.length ≤ 140737488355328
section
variable {H : Type} {enc : TypeId × Value → H} {W : World} {base : Nat} {spare : Nat → Bool} {held : Bool}
set_option maxRecDepth 20000 in
theorem act_at {cs : List Value} {n : Nat} {y : DataW H × List MemPlace} (hl : cs.length = 4) (h : DataW.trod enc Tryd.prog W base spare held n 29 cs = some y) (hw : ∀ k ∈ y.1.weights Tryd.prog 29, k ≤ reachBytes) : ∃ a : Ac, a.Ok ∧ cs = acell a := by
  obtain ⟨y0, y1, y2, y3, m, hx, _, h0, h1, h2, h3⟩ := Joins.trod_struct4 Tryd.underlying29 h
  obtain ⟨c0, c1, c2, c3, rfl⟩ := list4 cs hl
  · have h0 : DataW.trod enc Tryd.prog W base spare held m 3 (([c0, c1, c2, c3].drop 0).take (Tryd.prog.cellsOf 3)) = some y0 := h0
    have h1 : DataW.trod enc Tryd.prog W base spare held m 3 (([c0, c1, c2, c3].drop 1).take (Tryd.prog.cellsOf 3)) = some y1 := h1
    have h2 : DataW.trod enc Tryd.prog W base spare held m 9 (([c0, c1, c2, c3].drop 2).take (Tryd.prog.cellsOf 9)) = some y2 := h2
    have h3 : DataW.trod enc Tryd.prog W base spare held m 9 (([c0, c1, c2, c3].drop 3).take (Tryd.prog.cellsOf 9)) = some y3 := h3
    rw [show Tryd.prog.cellsOf 3 = 1 by kernel_rfl] at h0 h1
    rw [show Tryd.prog.cellsOf 9 = 1 by kernel_rfl] at h2 h3
    obtain ⟨a0, e0, -, w0⟩ := DataW.trod_int Tryd.underlying3 h0
    obtain ⟨a1, e1, -, w1⟩ := DataW.trod_int Tryd.underlying3 h1
    obtain ⟨a2, e2, q2, w2⟩ := DataW.trod_string Tryd.underlying9 h2
    obtain ⟨a3, e3, q3, w3⟩ := DataW.trod_string Tryd.underlying9 h3
    have b1 := bounds_i64 w1
    have hx1 : y.1 = .agg [y0.1, y1.1, y2.1, y3.1] := congrArg Prod.fst hx
    have g2 : a2.data.toList.length ≤ reachBytes := hw _ (by rw [hx1, q2]; simp [DataW.weights, DataW.weightsEach, Tryd.underlying29])
    have g3 : a3.data.toList.length ≤ reachBytes := hw _ (by rw [hx1, q3]; simp [DataW.weights, DataW.weightsEach, Tryd.underlying29])
    unfold reachBytes at g2 g3
    refine ⟨⟨a0, a1, a2.data.toList, a3.data.toList⟩, ⟨b1.1, b1.2, by show a2.data.toList.length ≤ _; omega, by show a3.data.toList.length ≤ _; omega⟩, ?_⟩
    simp at e0 e1 e2 e3
    subst e0 e1 e2 e3
    unfold acell
    simp only
    rw [strOf_of, strOf_of]
set_option maxRecDepth 20000 in
theorem ent_at {cs : List Value} {n : Nat} {y : DataW H × List MemPlace} (hl : cs.length = 2) (h : DataW.trod enc Tryd.prog W base spare held n 40 cs = some y) (hw : ∀ k ∈ y.1.weights Tryd.prog 40, k ≤ reachBytes) : ∃ a : List UInt8 × Int, (a.1.length ≤ 140737488355328) ∧ cs = [.string (strOf a.1), .int .i64 a.2] := by
  obtain ⟨xs, m, _, hx, _, hxl, hf⟩ := DataW.trod_struct Tryd.underlying40 h
  obtain ⟨c0, c1, rfl⟩ := list2 cs hl
  obtain ⟨y0, y1, rfl⟩ : ∃ y0 y1, xs = [y0, y1] := by
    have hxl2 : xs.length = 2 := hxl
    match xs, hxl2 with
    | [a, b], _ => exact ⟨a, b, rfl⟩
  · have h0 : DataW.trod enc Tryd.prog W base spare held m 9 (([c0, c1].drop 0).take (Tryd.prog.cellsOf 9)) = some y0 := by simpa using hf 0 _ rfl
    have h1 : DataW.trod enc Tryd.prog W base spare held m 3 (([c0, c1].drop 1).take (Tryd.prog.cellsOf 3)) = some y1 := by simpa using hf 1 _ rfl
    rw [show Tryd.prog.cellsOf 3 = 1 by kernel_rfl] at h1
    rw [show Tryd.prog.cellsOf 9 = 1 by kernel_rfl] at h0
    obtain ⟨a0, e0, q0, w0⟩ := DataW.trod_string Tryd.underlying9 h0
    obtain ⟨a1, e1, -, w1⟩ := DataW.trod_int Tryd.underlying3 h1
    have hx1 : y.1 = .agg [y0.1, y1.1] := by rw [hx]; rfl
    have g0 : a0.data.toList.length ≤ reachBytes := hw _ (by rw [hx1, q0]; simp [DataW.weights, DataW.weightsEach, Tryd.underlying40])
    unfold reachBytes at g0
    refine ⟨⟨a0.data.toList, a1⟩, by show a0.data.toList.length ≤ _; omega, ?_⟩
    simp at e0 e1
    subst e0 e1
    simp only
    rw [strOf_of]
theorem open_acts {a : Option Addr} {len cap : Nat} {d : DataW H} {p : List MemPlace} (h : DataW.Trod enc Tryd.prog W base spare held 22 (.slice a len cap) d p) (hw : ∀ n ∈ d.weights Tryd.prog 22, n ≤ reachBytes) :
    len ≤ cap ∧ len ≤ 140737488355328 ∧ ∃ l : List Ac, l.length = len ∧ Rd W a (len * 4) (l.flatMap acell) ∧ ∀ x ∈ l, x.Ok :=
  open_elems ⟨0, 0, [], []⟩ acell Ac.Ok Tryd.underlying22 (by kernel_rfl) (by omega) (of_decide_eq_true (by kernel_rfl)) (fun _ => rfl) (fun _ _ _ h1 h2 h3 => act_at h1 h2 h3) h hw
theorem open_entss {a : Option Addr} {len cap : Nat} {d : DataW H} {p : List MemPlace} (h : DataW.Trod enc Tryd.prog W base spare held 35 (.slice a len cap) d p) (hw : ∀ n ∈ d.weights Tryd.prog 35, n ≤ reachBytes) :
    len ≤ cap ∧ len ≤ 140737488355328 ∧ ∃ (vs : List Value) (ms : List Ents), vs.length = len ∧ Rd W a len vs ∧ RRs W vs ms ∧ (∀ m ∈ ms, ∀ e ∈ m, e.1.length ≤ 140737488355328) ∧ ∀ m ∈ ms, m.length ≤ 140737488355328 := by
  obtain ⟨h1, h2, l, h3, h4, h5⟩ := open_elems (α := Value × Ents) (.slice none 0 0, []) (fun x => [x.1]) (fun x => (∃ A c, x.1 = .slice A x.2.length c ∧ Rd W A (x.2.length * 2) (ec x.2) ∧ x.2.length ≤ c) ∧ (∀ e ∈ x.2, e.1.length ≤ 140737488355328) ∧ x.2.length ≤ 140737488355328) Tryd.underlying35 (by kernel_rfl) (by omega : 0 < 1) (of_decide_eq_true (by kernel_rfl)) (fun _ => rfl)
    (fun n cs y hl hy hyw => by
      obtain ⟨v, rfl⟩ := list1 cs hl
      obtain ⟨A, m, c, e1⟩ := Joins.slice_form Tryd.underlying38 hy
      cases e1
      obtain ⟨g1, g2, r, g3, g4, g5⟩ := open_elems (α := List UInt8 × Int) ([], 0) (fun e => [.string (strOf e.1), .int .i64 e.2]) (fun e => e.1.length ≤ 140737488355328) Tryd.underlying38 (by kernel_rfl) (by omega : 0 < 2) (of_decide_eq_true (by kernel_rfl)) (fun _ => rfl) (fun _ _ _ q1 q2 q3 => ent_at q1 q2 q3) (d := y.1) (p := y.2) ⟨n, hy⟩ hyw
      subst g3
      exact ⟨(_, r), ⟨⟨A, c, rfl, g4, g1⟩, g5, g2⟩, rfl⟩) h hw
  refine ⟨h1, h2, l.map (·.1), l.map (·.2), by rw [List.length_map]; exact h3, ?_, ⟨by simp, fun i v m q1 q2 => ?_⟩, fun m hm e he => ?_, fun m hm => ?_⟩
  · rw [Nat.mul_one] at h4
    rw [flat_one] at h4
    exact h4
  · rw [List.getElem?_map] at q1 q2
    cases hx : l[i]? with
    | none => rw [hx] at q1; cases q1
    | some x =>
      rw [hx] at q1 q2
      cases q1
      cases q2
      exact (h5 x (List.mem_of_getElem? hx)).1
  · obtain ⟨x, hx, rfl⟩ := List.mem_map.1 hm
    exact (h5 x hx).2.1 e he
  · obtain ⟨x, hx, rfl⟩ := List.mem_map.1 hm
    exact (h5 x hx).2.2
set_option maxRecDepth 20000 in
/-- An Act by value. -/
theorem open_act {b0 : Nat} {r : Reach} {v : Value} {d : DataW H} {p : List MemPlace} (hv : Value.okWide Tryd.prog W r b0 29 v) (h : DataW.Trod enc Tryd.prog W base spare held 29 v d p) (hw : ∀ n ∈ d.weights Tryd.prog 29, n ≤ reachBytes) :
    ∃ a : Ac, a.Ok ∧ v = .agg #[.int .i64 a.d, .int .i64 a.u, .string (strOf a.k), .string (strOf a.t)] := by
  obtain ⟨xs, rfl, hs⟩ := okWide_struct Tryd.underlying29 hv
  obtain ⟨fuel, hf⟩ := h
  have hs4 : xs.toList.length = 4 := by rw [Array.length_toList, hs]; kernel_rfl
  obtain ⟨a, hok, e⟩ := act_at (cs := xs.toList) hs4 hf hw
  refine ⟨a, hok, ?_⟩
  congr 1
  exact Array.toList_inj.1 e
end
end Go.Proofs.YtillifkilkjpdaaDoor
