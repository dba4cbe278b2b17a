/-
  HOW A LAW's ARGUMENTS ARE OPENED: a slice of Calls; a slice of bytes.
-/
import Derived.Test.YtpgklhbbjbdejaaOpenC
import Derived.Test.YtpgklhbbjbdejaaOnA
import Derived.Deep.Matrix
namespace Go.Proofs.Ytpgklhbbjbdejaa
set_option linter.unusedSimpArgs false
set_option linter.unusedVariables false
open Go Go.RowKit Go.ChangeShapes Go.WideShapes Go.Deep

theorem rd_of_ints {W : World} {x : Addr} {len : Nat} {k : IntKind} {zs : List Int} (hl : len ≤ zs.length) (hcell : ∀ i, i < zs.length → W.cell? (x.add i) = some (.int k (zs.getD i 0))) : Rd W (some x) len ((zs.take len).map (Value.int k)) := by
  refine ⟨by simp; omega, fun _ => ⟨x, rfl, fun j u hu => ?_⟩⟩
  have hj : j < len := by
    rcases Nat.lt_or_ge j len with h | h
    · exact h
    · rw [List.getElem?_eq_none (by simp; omega)] at hu; cases hu
  rw [hcell j (by omega), ← hu, List.getElem?_map, List.getElem?_take, if_pos hj, List.getElem?_eq_getElem (by omega), List.getD_eq_getElem?_getD, List.getElem?_eq_getElem (by omega)]
  rfl
theorem bytes_of (zs : List Int) (h : ∀ n ∈ zs, 0 ≤ n ∧ n ≤ 255) : zs.map (Value.int .u8) = bv (zs.map fun n => UInt8.ofNat n.toNat) := by
  unfold bv
  rw [List.map_map]
  refine List.map_congr_left fun n hn => ?_
  have := h n hn
  show Value.int .u8 n = Value.int .u8 (((UInt8.ofNat n.toNat).toNat : Nat) : Int)
  congr 1
  have e : (UInt8.ofNat n.toNat).toNat = n.toNat % 256 := by simp
  omega
theorem weightsAll_mem {H : Type} {P : Program} {e : TypeId} : ∀ {l : List (DataW H)} {d : DataW H}, d ∈ l → ∀ n ∈ d.weights P e, n ∈ DataW.weightsAll P e l
  | x :: l, d, h, n, hn => by
    simp only [DataW.weightsAll, List.mem_append]
    rcases List.mem_cons.1 h with rfl | h
    · exact Or.inl hn
    · exact Or.inr (weightsAll_mem h n hn)

section
variable {H : Type} {enc : TypeId × Value → H} {P : Program} {W : World} {base : Nat} {held : Bool}
/-- A slice of bytes. -/
theorem open_u8s {t e : TypeId} (ht : P.underlying t = some (.slice e)) (he : P.underlying e = some (.int .u8)) (hc : P.cellsOf e = 1) (hb : P.bytesOf e = 1) {a : Option Addr} {len cap : Nat} {d : DataW H} {p : List MemPlace}
    (h : DataW.Trod enc P W base (fun _ => true) held t (.slice a len cap) d p) (hw : ∀ n ∈ d.weights P t, n ≤ reachBytes) : len ≤ cap ∧ cap ≤ 140737488355328 ∧ ∃ l : List UInt8, Rd W a len (bv l) := by
  obtain ⟨fuel, hf⟩ := h
  rcases open_ints ht he hc hf with ⟨hcs, _⟩ | ⟨x, l, c, zs, hcs, _, hl, hm, hz, hd, hcell, hwz⟩
  · simp [Value.cells] at hcs
    obtain ⟨rfl, rfl, rfl⟩ := hcs
    exact ⟨Nat.le_refl _, by omega, [], Rd.none_ _ _⟩
  · simp [Value.cells] at hcs
    obtain ⟨rfl, rfl, rfl⟩ := hcs
    have hwz2 : ∀ n ∈ zs.take len, 0 ≤ n ∧ n ≤ 255 := fun n hn => bounds_u8 (hwz n (List.mem_of_mem_take hn))
    have r := rd_of_ints (len := len) (by rw [hz]; simp; omega) hcell
    rw [bytes_of _ hwz2] at r
    simp only [if_true] at hz
    injection hd with hd _
    subst hd
    have := hw (cap * 1) (by simp [DataW.weights, ht, hb, lits, hz]; left; omega)
    unfold reachBytes at this
    exact ⟨hl, by omega, _, r⟩
end
theorem flat_at {α : Type} (f : α → List Value) (c : Nat) (hf : ∀ a, (f a).length = c) : ∀ (l : List α) (i : Nat) (h : i < l.length) (j : Nat), j < c → (l.flatMap f)[i * c + j]? = (f l[i])[j]?
  | a :: l, 0, _, j, hj => by
    rw [List.flatMap_cons, Nat.zero_mul, Nat.zero_add, List.getElem?_append_left (by rw [hf]; exact hj)]
    rfl
  | a :: l, i + 1, h, j, hj => by
    rw [List.flatMap_cons, List.getElem?_append_right (by rw [hf, Nat.add_mul]; omega), hf, show (i + 1) * c + j - c = i * c + j by rw [Nat.add_mul]; omega]
    exact flat_at f c hf l i (by simpa using h) j hj
theorem flat_len {α : Type} (f : α → List Value) (c : Nat) (hf : ∀ a, (f a).length = c) (l : List α) : (l.flatMap f).length = l.length * c := by
  induction l with
  | nil => simp
  | cons a l ih => rw [List.flatMap_cons, List.length_append, hf, ih, List.length_cons, Nat.add_mul]; omega
theorem rd_flat {α : Type} {W : World} {x : Addr} (f : α → List Value) (c : Nat) (hc : 0 < c) (hf : ∀ a, (f a).length = c) (l : List α) (h : ∀ (i : Nat) (hi : i < l.length) (j : Nat), j < c → W.cell? (x.add (i * c + j)) = (f l[i])[j]?) : Rd W (some x) (l.length * c) (l.flatMap f) := by
  refine ⟨flat_len f c hf l, fun _ => ⟨x, rfl, fun q u hu => ?_⟩⟩
  have hq : q < l.length * c := by rw [← flat_len f c hf l]; exact (List.getElem?_eq_some_iff.1 hu).1
  have hi : q / c < l.length := (Nat.div_lt_iff_lt_mul hc).2 hq
  have hj : q % c < c := Nat.mod_lt _ hc
  have e : q / c * c + q % c = q := by rw [Nat.mul_comm]; exact Nat.div_add_mod q c
  have h1 := h (q / c) hi (q % c) hj
  have h2 := flat_at f c hf l (q / c) hi (q % c) hj
  rw [e] at h1 h2
  rw [h1, ← h2, hu]
section
variable {H : Type} {enc : TypeId × Value → H} {P : Program} {W : World} {base : Nat} {spare : Nat → Bool} {held : Bool}
theorem open_elems {α : Type} (z : α) (f : α → List Value) (Ok : α → Prop) {t e : TypeId} {c : Nat} (ht : P.underlying t = some (.slice e)) (hC : P.cellsOf e = c) (hc : 0 < c) (hb : 1 ≤ P.bytesOf e) (hf : ∀ a, (f a).length = c)
    (hel : ∀ n cs y, cs.length = c → DataW.trod enc P W base spare held n e cs = some y → (∀ k ∈ y.1.weights P e, k ≤ reachBytes) → ∃ a, Ok a ∧ cs = f a)
    {a : Option Addr} {len cap : Nat} {d : DataW H} {p : List MemPlace} (h : DataW.Trod enc P W base spare held t (.slice a len cap) d p) (hw : ∀ n ∈ d.weights P t, n ≤ reachBytes) :
    len ≤ cap ∧ len ≤ 140737488355328 ∧ ∃ l : List α, l.length = len ∧ Rd W a (len * c) (l.flatMap f) ∧ ∀ x ∈ l, Ok x := by
  obtain ⟨fuel, hfu⟩ := h
  rcases open_slice ht hfu with ⟨hcs, _⟩ | ⟨x, l, c', m, n, D, Pl, hcs, _, hl, hm, hmm, hd, hi⟩
  · simp [Value.cells] at hcs
    obtain ⟨rfl, rfl, rfl⟩ := hcs
    exact ⟨Nat.le_refl _, by omega, [], rfl, by rw [Nat.zero_mul]; exact Rd.none_ _ _, fun _ h => by cases h⟩
  · simp [Value.cells] at hcs
    obtain ⟨rfl, rfl, rfl⟩ := hcs
    have hlm : len ≤ m := by rw [hmm]; split <;> omega
    have hd1 : d = .slice ((List.range len).map D) ((List.range (m - len)).map fun j => D (len + j)) := congrArg Prod.fst hd
    have hlb : len ≤ 140737488355328 := by
      have h1 := hw (((List.range len).map D).length * P.bytesOf e + (((List.range (m - len)).map fun j => D (len + j)).length) * P.bytesOf e) (by rw [hd1]; simp only [DataW.weights, ht]; rw [← Nat.add_mul]; exact List.mem_cons_self)
      rw [List.length_map, List.length_range] at h1
      have h2 := Nat.le_mul_of_pos_right len hb
      unfold reachBytes at h1
      omega
    have key : ∀ i, ∃ t : α, i < len → Ok t ∧ ∀ j, j < c → W.cell? (x.add (i * c + j)) = (f t)[j]? := by
      intro i
      by_cases hil : i < len
      · obtain ⟨cs', hc', ht'⟩ := hi i (by omega)
        rw [hC] at hc'
        obtain ⟨_, hcl, hat⟩ := World.cells?_some hc'
        obtain ⟨t, hok, rfl⟩ := hel n cs' _ hcl ht' (fun k hk => hw k (by
          rw [hd1]
          simp only [DataW.weights, ht, List.mem_cons, List.mem_append]
          exact Or.inr (Or.inl (weightsAll_mem (List.mem_map.2 ⟨i, List.mem_range.2 hil, rfl⟩) k hk))))
        refine ⟨t, fun _ => ⟨hok, fun j hj => ?_⟩⟩
        have := hat j hj
        rw [Go.Deep.add_add] at this
        rw [this]
      · exact ⟨z, fun h => absurd h hil⟩
    obtain ⟨g, hg⟩ := Classical.axiomOfChoice key
    refine ⟨hl, hlb, (List.range len).map g, by simp, ?_, fun t ht' => ?_⟩
    · have := rd_flat (W := W) (x := x) f c hc hf ((List.range len).map g) (fun i hi' j hj => by
        have hil : i < len := by simpa using hi'
        rw [(hg i hil).2 j hj]
        simp)
      simpa using this
    · obtain ⟨i, hi', rfl⟩ := List.mem_map.1 ht'
      exact (hg i (List.mem_range.1 hi')).1
end

def ccell (x : Cx) : List Value := [.int .i64 x.d, .int .i64 x.a, .int .i64 x.b, .int .u64 (x.id : Nat), .slice x.A x.m x.c]
section
variable {H : Type} {enc : TypeId × Value → H} {W : World} {base : Nat} {held : Bool}
set_option maxRecDepth 20000 in
theorem callx_at {cs : List Value} {n : Nat} {y : DataW H × List MemPlace} (hl : cs.length = 5) (h : DataW.trod enc Try.prog W base (fun _ => true) held n 35 cs = some y) (hw : ∀ k ∈ y.1.weights Try.prog 35, k ≤ reachBytes) :
    ∃ x : Cx, x.Ok W ∧ cs = ccell x := by
  obtain ⟨xs, m, _, hx, _, hxl, hf⟩ := DataW.trod_struct Try.underlying35 h
  obtain ⟨c0, c1, c2, c3, c4, rfl⟩ := list5 cs hl
  obtain ⟨y0, y1, y2, y3, y4, rfl⟩ : ∃ y0 y1 y2 y3 y4, xs = [y0, y1, y2, y3, y4] := by
    have hxl2 : xs.length = 5 := hxl
    match xs, hxl2 with
    | [a, b, c, d, e], _ => exact ⟨a, b, c, d, e, rfl⟩
  have h0 : DataW.trod enc Try.prog W base (fun _ => true) held m 3 (([c0, c1, c2, c3, c4].drop 0).take (Try.prog.cellsOf 3)) = some y0 := by simpa using hf 0 _ rfl
  have h1 : DataW.trod enc Try.prog W base (fun _ => true) held m 3 (([c0, c1, c2, c3, c4].drop 1).take (Try.prog.cellsOf 3)) = some y1 := by simpa using hf 1 _ rfl
  have h2 : DataW.trod enc Try.prog W base (fun _ => true) held m 3 (([c0, c1, c2, c3, c4].drop 2).take (Try.prog.cellsOf 3)) = some y2 := by simpa using hf 2 _ rfl
  have h3 : DataW.trod enc Try.prog W base (fun _ => true) held m 32 (([c0, c1, c2, c3, c4].drop 3).take (Try.prog.cellsOf 32)) = some y3 := by simpa using hf 3 _ rfl
  have h4 : DataW.trod enc Try.prog W base (fun _ => true) held m 33 (([c0, c1, c2, c3, c4].drop 4).take (Try.prog.cellsOf 33)) = some y4 := by simpa using hf 4 _ rfl
  rw [show Try.prog.cellsOf 3 = 1 by kernel_rfl] at h0 h1 h2
  rw [show Try.prog.cellsOf 32 = 1 by kernel_rfl] at h3
  rw [show Try.prog.cellsOf 33 = 1 by kernel_rfl] at h4
  obtain ⟨a0, e0, -, w0⟩ := DataW.trod_int Try.underlying3 h0
  obtain ⟨a1, e1, -, w1⟩ := DataW.trod_int Try.underlying3 h1
  obtain ⟨a2, e2, -, w2⟩ := DataW.trod_int Try.underlying3 h2
  obtain ⟨a3, e3, -, w3⟩ := DataW.trod_int Try.underlying32 h3
  obtain ⟨A, q, c, e4⟩ := Joins.slice_form Try.underlying33 h4
  simp at e0 e1 e2 e3 e4
  subst e0 e1 e2 e3 e4
  have hx1 : y.1 = .agg [y0.1, y1.1, y2.1, y3.1, y4.1] := by rw [hx]; rfl
  have b3 := bounds_u64 w3
  obtain ⟨g1, g2, l, g3⟩ := open_u8s Try.underlying33 Try.underlying5 (by kernel_rfl) (by kernel_rfl) (d := y4.1) (p := y4.2) ⟨m, h4⟩ (fun k hk => hw k (by
    rw [hx1]
    simp only [DataW.weights, Try.underlying35]
    simp [DataW.weightsEach, hk]))
  refine ⟨⟨a0, a1, a2, a3.toNat, A, q, c, l⟩, ⟨g3, by show q ≤ _; omega, by show a3.toNat < _; omega⟩, ?_⟩
  unfold ccell
  simp only
  rw [Int.toNat_of_nonneg b3.1]
/-- A slice of Calls. -/
theorem open_calls {a : Option Addr} {len cap : Nat} {d : DataW H} {p : List MemPlace} (h : DataW.Trod enc Try.prog W base (fun _ => true) held 22 (.slice a len cap) d p) (hw : ∀ n ∈ d.weights Try.prog 22, n ≤ reachBytes) :
    len ≤ 140737488355328 ∧ ∃ l : List Cx, RdC W a len l ∧ ∀ x ∈ l, x.Ok W := by
  obtain ⟨h1, h2, l, h3, h4, h5⟩ := open_elems (⟨0, 0, 0, 0, none, 0, 0, []⟩ : Cx) ccell (fun x => x.Ok W) Try.underlying22 (by kernel_rfl) (by omega : 0 < 5) (of_decide_eq_true (by kernel_rfl)) (fun _ => rfl) (fun _ _ _ q1 q2 q3 => callx_at q1 q2 q3) h hw
  refine ⟨h2, l, ⟨h3, fun hp => ?_⟩, h5⟩
  obtain ⟨x, hx, hc⟩ := h4.2 (by omega)
  obtain ⟨b, off, sp⟩ := x
  have hat : ∀ (k : Nat) (hk : k < l.length) (j : Nat), j < 5 → W.cell? ((⟨b, off, sp⟩ : Addr).add (k * 5 + j)) = (ccell l[k])[j]? := fun k hk j hj => by
    have e := flat_at ccell 5 (fun _ => rfl) l k hk j hj
    have hs : j < (ccell l[k]).length := hj
    rw [List.getElem?_eq_getElem hs] at e ⊢
    exact hc _ _ e
  have sp0 : sp = none := by
    have h0 := hat 0 (by omega) 0 (by omega)
    have h0 : W.cell? ⟨b, off, sp⟩ = some (.int .i64 (l[0]'(by omega)).d) := h0
    unfold World.cell? at h0
    cases sp with
    | none => rfl
    | some s =>
      simp at h0
      split at h0 <;> simp at h0
  subst sp0
  refine ⟨b, off, hx, fun k hk => ?_⟩
  have g := fun j (hj : j < 5) => hat k hk j hj
  have ha : ∀ n, (⟨b, off, none⟩ : Addr).add n = ⟨b, off + n, none⟩ := fun n => Addr.add_lit _ _ _
  have g0 := g 0 (by omega)
  have g1 := g 1 (by omega)
  have g2 := g 2 (by omega)
  have g3 := g 3 (by omega)
  have g4 := g 4 (by omega)
  rw [ha] at g0 g1 g2 g3 g4
  exact ⟨g0, g1, g2, g3, g4⟩
end
end Go.Proofs.Ytpgklhbbjbdejaa
