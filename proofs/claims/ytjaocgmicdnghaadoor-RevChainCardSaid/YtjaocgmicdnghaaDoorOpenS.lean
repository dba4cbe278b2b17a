/-
  HOW A LAW's ARGUMENTS ARE OPENED: a slice of names.
-/
import Derived.Test.YtjaocgmicdnghaaDoorOpenR
import Derived.Test.YtjaocgmicdnghaaDoorChain
namespace Go.Proofs.YtjaocgmicdnghaaDoor
set_option linter.unusedSimpArgs false
set_option linter.unusedVariables false
open Go Go.RowKit Go.ChangeShapes Go.WideShapes Go.Deep

theorem flat_at {α : Type} (f : α → List Value) (c : Nat) (hf : ∀ a, (f a).length = c) : ∀ (l : List α) (i : Nat) (h : i < l.length) (j : Nat), j < c → (l.flatMap f)[i * c + j]? = (f l[i])[j]?
  | a :: l, 0, _, j, hj => by
    rw [List.flatMap_cons, Nat.zero_mul, Nat.zero_add, List.getElem?_append_left (by rw [hf]; exact hj)]
    rfl
  | a :: l, i + 1, h, j, hj => by
    rw [List.flatMap_cons, List.getElem?_append_right (by rw [hf, Nat.add_mul]; omega), hf, show (i + 1) * c + j - c = i * c + j by rw [Nat.add_mul]; omega]
    exact flat_at f c hf l i (by simpa using h) j hj
theorem flat_len {α : Type} (f : α → List Value) (c : Nat) (hf : ∀ a, (f a).length = c) (l : List α) : (l.flatMap f).length = l.length * c := by
  induction l with
  | nil => simp
  | cons a l ih => rw [List.flatMap_cons, List.length_append, hf, ih, List.length_cons, Nat.add_mul]; omega
theorem rd_flat {α : Type} {W : World} {x : Addr} (f : α → List Value) (c : Nat) (hc : 0 < c) (hf : ∀ a, (f a).length = c) (l : List α) (h : ∀ (i : Nat) (hi : i < l.length) (j : Nat), j < c → W.cell? (x.add (i * c + j)) = (f l[i])[j]?) : Rd W (some x) (l.length * c) (l.flatMap f) := by
  refine ⟨flat_len f c hf l, fun _ => ⟨x, rfl, fun q u hu => ?_⟩⟩
  have hq : q < l.length * c := by rw [← flat_len f c hf l]; exact (List.getElem?_eq_some_iff.1 hu).1
  have hi : q / c < l.length := (Nat.div_lt_iff_lt_mul hc).2 hq
  have hj : q % c < c := Nat.mod_lt _ hc
  have e : q / c * c + q % c = q := by rw [Nat.mul_comm]; exact Nat.div_add_mod q c
  have h1 := h (q / c) hi (q % c) hj
  have h2 := flat_at f c hf l (q / c) hi (q % c) hj
  rw [e] at h1 h2
  rw [h1, ← h2, hu]
theorem weightsAll_mem {H : Type} {P : Program} {e : TypeId} : ∀ {l : List (DataW H)} {d : DataW H}, d ∈ l → ∀ n ∈ d.weights P e, n ∈ DataW.weightsAll P e l
  | x :: l, d, h, n, hn => by
    simp only [DataW.weightsAll, List.mem_append]
    rcases List.mem_cons.1 h with rfl | h
    · exact Or.inl hn
    · exact Or.inr (weightsAll_mem h n hn)

section
variable {H : Type} {enc : TypeId × Value → H} {P : Program} {W : World} {base : Nat} {spare : Nat → Bool} {held : Bool}
theorem open_elems {α : Type} (z : α) (f : α → List Value) (Ok : α → Prop) {t e : TypeId} {c : Nat} (ht : P.underlying t = some (.slice e)) (hC : P.cellsOf e = c) (hc : 0 < c) (hb : 1 ≤ P.bytesOf e) (hf : ∀ a, (f a).length = c)
    (hel : ∀ n cs y, cs.length = c → DataW.trod enc P W base spare held n e cs = some y → (∀ k ∈ y.1.weights P e, k ≤ reachBytes) → ∃ a, Ok a ∧ cs = f a)
    {a : Option Addr} {len cap : Nat} {d : DataW H} {p : List MemPlace} (h : DataW.Trod enc P W base spare held t (.slice a len cap) d p) (hw : ∀ n ∈ d.weights P t, n ≤ reachBytes) :
    len ≤ cap ∧ len ≤ 140737488355328 ∧ ∃ l : List α, l.length = len ∧ Rd W a (len * c) (l.flatMap f) ∧ ∀ x ∈ l, Ok x := by
  obtain ⟨fuel, hfu⟩ := h
  rcases open_slice ht hfu with ⟨hcs, _⟩ | ⟨x, l, c', m, n, D, Pl, hcs, _, hl, hm, hmm, hd, hi⟩
  · simp [Value.cells] at hcs
    obtain ⟨rfl, rfl, rfl⟩ := hcs
    exact ⟨Nat.le_refl _, by omega, [], rfl, by rw [Nat.zero_mul]; exact Rd.none_ _ _, fun _ h => by cases h⟩
  · simp [Value.cells] at hcs
    obtain ⟨rfl, rfl, rfl⟩ := hcs
    have hlm : len ≤ m := by rw [hmm]; split <;> omega
    have hd1 : d = .slice ((List.range len).map D) ((List.range (m - len)).map fun j => D (len + j)) := congrArg Prod.fst hd
    have hlb : len ≤ 140737488355328 := by
      have h1 := hw (((List.range len).map D).length * P.bytesOf e + (((List.range (m - len)).map fun j => D (len + j)).length) * P.bytesOf e) (by rw [hd1]; simp only [DataW.weights, ht]; rw [← Nat.add_mul]; exact List.mem_cons_self)
      rw [List.length_map, List.length_range] at h1
      have h2 := Nat.le_mul_of_pos_right len hb
      unfold reachBytes at h1
      omega
    have key : ∀ i, ∃ t : α, i < len → Ok t ∧ ∀ j, j < c → W.cell? (x.add (i * c + j)) = (f t)[j]? := by
      intro i
      by_cases hil : i < len
      · obtain ⟨cs', hc', ht'⟩ := hi i (by omega)
        rw [hC] at hc'
        obtain ⟨_, hcl, hat⟩ := World.cells?_some hc'
        obtain ⟨t, hok, rfl⟩ := hel n cs' _ hcl ht' (fun k hk => hw k (by
          rw [hd1]
          simp only [DataW.weights, ht, List.mem_cons, List.mem_append]
          exact Or.inr (Or.inl (weightsAll_mem (List.mem_map.2 ⟨i, List.mem_range.2 hil, rfl⟩) k hk))))
        refine ⟨t, fun _ => ⟨hok, fun j hj => ?_⟩⟩
        have := hat j hj
        rw [Go.Deep.add_add] at this
        rw [this]
      · exact ⟨z, fun h => absurd h hil⟩
    obtain ⟨g, hg⟩ := Classical.axiomOfChoice key
    refine ⟨hl, hlb, (List.range len).map g, by simp, ?_, fun t ht' => ?_⟩
    · have := rd_flat (W := W) (x := x) f c hc hf ((List.range len).map g) (fun i hi' j hj => by
        have hil : i < len := by simpa using hi'
        rw [(hg i hil).2 j hj]
        simp)
      simpa using this
    · obtain ⟨i, hi', rfl⟩ := List.mem_map.1 ht'
      exact (hg i (List.mem_range.1 hi')).1
end
set_option maxRecDepth 100000 in
theorem rev_cells {H : Type} {enc : TypeId × Value → H} {W : World} {base : Nat} {sp : Nat → Bool} {held : Bool} {fuel : Nat} {cs : List Value} {x : DataW H × List MemPlace}
    (hf : DataW.trod enc Tryd.prog W base sp held fuel 25 cs = some x) : ∃ (g : Nat) (s : List UInt8), cs = rc g s ∧ s.length = 16 ∧ g < 18446744073709551616 := by
  obtain ⟨y0, y1, n, hx, hl, h0, h1⟩ := trod_struct2 Tryd.underlying25 hf
  rw [show Tryd.prog.cellsOf 25 = 17 by kernel_rfl] at hl
  have h0 : DataW.trod enc Tryd.prog W base sp held n 22 ((cs.drop 0).take (Tryd.prog.cellsOf 22)) = some y0 := h0
  have h1 : DataW.trod enc Tryd.prog W base sp held n 23 ((cs.drop 1).take (Tryd.prog.cellsOf 23)) = some y1 := h1
  rw [show Tryd.prog.cellsOf 22 = 1 by kernel_rfl] at h0
  rw [show Tryd.prog.cellsOf 23 = 16 by kernel_rfl] at h1
  obtain ⟨N, e0, -, wN⟩ := DataW.trod_int Tryd.underlying22 h0
  obtain ⟨l, hll, e1⟩ := open_arr Tryd.underlying23 Tryd.underlying5 (by kernel_rfl) (by kernel_rfl) h1
  have hN := wf_u64 wN
  refine ⟨N.toNat, l, ?_, hll, by omega⟩
  have hsp : cs = (cs.drop 0).take 1 ++ (cs.drop 1).take 16 := by
    rw [List.drop_zero, List.take_of_length_le (l := cs.drop 1) (by rw [List.length_drop]; omega), List.take_append_drop]
  rw [hsp, e0, e1]
  show _ = Value.int .u64 ((N.toNat : Nat) : Int) :: bv l
  rw [Int.toNat_of_nonneg hN.1]
  rfl
abbrev Nm16 := { x : Nm // NmOk x }
def nf (a : Nm16) : List Value := rc a.1.1 a.1.2
theorem nf_flat : ∀ l : List Nm16, l.flatMap nf = rcs (l.map (·.1))
  | [] => rfl
  | a :: l => by
    rw [List.flatMap_cons, nf_flat l]
    rfl
theorem open_revs {H : Type} {enc : TypeId × Value → H} {W : World} {base : Nat} {spare : Nat → Bool} {held : Bool} {a : Option Addr} {len cap : Nat} {d : DataW H} {p : List MemPlace}
    (h : DataW.Trod enc Tryd.prog W base spare held 37 (.slice a len cap) d p) (hw : ∀ n ∈ d.weights Tryd.prog 37, n ≤ reachBytes) :
    len ≤ cap ∧ len ≤ 140737488355328 ∧ ∃ l : List Nm, l.length = len ∧ Rd W a (len * 17) (rcs l) ∧ ∀ x ∈ l, NmOk x := by
  obtain ⟨h1, h2, l, hl, hr, -⟩ := open_elems (enc := enc) (P := Tryd.prog) (⟨(0, List.replicate 16 0), rfl, by decide⟩ : Nm16) nf (fun _ => True) (c := 17) Tryd.underlying37 (by kernel_rfl) (by omega) (by rw [show Tryd.prog.bytesOf 25 = 24 by kernel_rfl]; omega) (fun a => rc_len a.2.1)
    (fun n cs y _ hc _ => by
      obtain ⟨g, s, e, h1, h2⟩ := rev_cells hc
      exact ⟨⟨(g, s), h1, h2⟩, trivial, e⟩) h hw
  refine ⟨h1, h2, l.map (·.1), by rw [List.length_map]; exact hl, by rw [← nf_flat]; exact hr, fun x hx => ?_⟩
  obtain ⟨y, _, rfl⟩ := List.mem_map.1 hx
  exact y.2
end Go.Proofs.YtjaocgmicdnghaaDoor
