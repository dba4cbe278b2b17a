/-
  PLAIN parts of FrameGoesOn: rows of slices that came in; the payloads that fit.
-/
import Derived.Test.YtmaajihpkollcaaDoorFe
import Derived.Test.YtmaajihpkollcaaDoorRput
namespace Go.Proofs.YtmaajihpkollcaaDoor
set_option linter.unusedSimpArgs false
set_option linter.unusedVariables false
open Go Go.RowKit

/-- The values that lead to rows of bytes that came in. -/
def RowsV (w : World) (us : List Value) (ls : List (List UInt8)) : Prop :=
  us.length = ls.length ∧ ∀ i (h : i < ls.length), ∃ B c, us[i]? = some (.slice B ls[i].length c) ∧ Rd w B ls[i].length (bv ls[i]) ∧ ls[i].length ≤ c ∧ c ≤ maxLen
theorem RowsV.snoc {w : World} {us : List Value} {ls : List (List UInt8)} (h : RowsV w us ls) {p : List UInt8} {B : Option Addr} {n c : Nat} (hn : p.length = n) (hr : Rd w B n (bv p)) (h1 : n ≤ c) (h2 : c ≤ maxLen) : RowsV w (us ++ [.slice B n c]) (ls ++ [p]) := by
  subst hn
  refine ⟨by simp [h.1], fun i hi => ?_⟩
  rcases Nat.lt_or_ge i ls.length with hlt | hge
  · obtain ⟨B', c', g1, g2, g3, g4⟩ := h.2 i hlt
    have e : (ls ++ [p])[i] = ls[i] := List.getElem_append_left hlt
    rw [e]
    exact ⟨B', c', by rw [List.getElem?_append_left (by rw [h.1]; exact hlt)]; exact g1, g2, g3, g4⟩
  · have hi' : i = ls.length := by simp at hi; omega
    subst hi'
    have e : (ls ++ [p])[ls.length] = p := by simp
    rw [e]
    exact ⟨B, c, by rw [← h.1]; simp, hr, h1, h2⟩
theorem RowsV.fr {w w' : World} {us : List Value} {ls : List (List UInt8)} (h : RowsV w us ls) (hf : Fr (fun _ => False) w w') : RowsV w' us ls :=
  ⟨h.1, fun i hi => by
    obtain ⟨B, c, g1, g2, g3, g4⟩ := h.2 i hi
    exact ⟨B, c, g1, g2.far hf, g3, g4⟩⟩
theorem RowsV.rdB {w : World} {us : List Value} {ls : List (List UInt8)} (h : RowsV w us ls) {base n c : Nat} {A : Option Addr} (ho : w.ownsRow base 25 1 (.slice A n c) n us) : RdB w A n ls := by
  have hr := Rd.of_own (own_base ho (base' := 0) (fun _ _ => Nat.zero_le _))
  have hl : ls.length = n := by rw [← h.1]; exact hr.1
  refine ⟨hl, fun hpos => ?_⟩
  obtain ⟨b, off, rfl, hc⟩ := hr.lit hpos
  refine ⟨b, off, rfl, fun i hi => ?_⟩
  obtain ⟨B, c', g1, g2, g3, g4⟩ := h.2 i hi
  exact ⟨B, c', by rw [hc i (by omega)]; exact g1, g2, g3, g4⟩
/-- The values of rows that came in. -/
theorem RdB.vals {w : World} {A : Option Addr} {n : Nat} {ls : List (List UInt8)} (h : RdB w A n ls) : ∃ us, RowsV w us ls ∧ Rd w A n us := by
  rcases Nat.eq_zero_or_pos n with h0 | h0
  · subst h0
    obtain rfl : ls = [] := List.eq_nil_of_length_eq_zero h.1
    exact ⟨[], ⟨rfl, fun i hi => by cases hi⟩, Rd.none_ _ _⟩
  · obtain ⟨b, off, rfl, hc⟩ := h.2 h0
    let f : Nat → Value := fun i => (w.cell? ⟨b, off + i, none⟩).getD undef
    have hf : ∀ i (hi : i < ls.length), ∃ B c, f i = .slice B ls[i].length c ∧ w.cell? ⟨b, off + i, none⟩ = some (f i) ∧ Rd w B ls[i].length (bv ls[i]) ∧ ls[i].length ≤ c ∧ c ≤ maxLen := fun i hi => by
      obtain ⟨B, c, g1, g2⟩ := hc i hi
      have e : f i = .slice B ls[i].length c := by simp only [f]; rw [g1]; rfl
      exact ⟨B, c, e, by rw [e]; exact g1, g2⟩
    refine ⟨(List.range ls.length).map f, ⟨by simp, fun i hi => ?_⟩, ⟨by simp [h.1], fun _ => ⟨_, rfl, fun j u hu => ?_⟩⟩⟩
    · obtain ⟨B, c, g1, g2, g3⟩ := hf i hi
      exact ⟨B, c, by rw [List.getElem?_map, List.getElem?_range hi]; exact congrArg some g1, g3⟩
    · have hj : j < ls.length := by
        rcases Nat.lt_or_ge j ls.length with hl | hl
        · exact hl
        · rw [List.getElem?_eq_none (by simp; exact hl)] at hu; cases hu
      rw [List.getElem?_map, List.getElem?_range hj] at hu
      obtain ⟨B, c, g1, g2, g3⟩ := hf j hj
      rw [Addr.add_lit, g2]
      exact hu
theorem RowsV.one {w : World} {us : List Value} {ls : List (List UInt8)} (h : RowsV w us ls) : ∀ u ∈ us, u.oneCell' = true := by
  intro u hu
  obtain ⟨i, hi, rfl⟩ := List.getElem_of_mem hu
  obtain ⟨B, c, g1, -⟩ := h.2 i (by rw [← h.1]; exact hi)
  rw [List.getElem?_eq_getElem hi] at g1
  rw [Option.some.inj g1]
  rfl
/-- The payloads that are not too long. -/
def fits (l : List (List UInt8)) : List (List UInt8) := l.filter fun p => decide (p.length ≤ 16384)
theorem fits_snoc_yes (l : List (List UInt8)) (k : Nat) (hk : k < l.length) (h : l[k].length ≤ 16384) : fits (l.take (k + 1)) = fits (l.take k) ++ [l[k]] := by
  unfold fits
  rw [List.take_succ_eq_append_getElem hk, List.filter_append]
  congr 1
  simp [h]
theorem fits_snoc_no (l : List (List UInt8)) (k : Nat) (hk : k < l.length) (h : ¬ l[k].length ≤ 16384) : fits (l.take (k + 1)) = fits (l.take k) := by
  unfold fits
  rw [List.take_succ_eq_append_getElem hk, List.filter_append]
  simp; omega
theorem fits_le (l : List (List UInt8)) (k : Nat) : (fits (l.take k)).length ≤ k := by
  have h1 := List.length_filter_le (fun p : List UInt8 => decide (p.length ≤ 16384)) (l.take k)
  have h2 := List.length_take_le k l
  unfold fits
  omega
theorem sizes_fits : ∀ l : List (List UInt8), sizes (fits l) ≤ sizes l
  | [] => Nat.le_refl _
  | p :: l => by
    have := sizes_fits l
    unfold fits at *
    rw [List.filter_cons]
    split
    · simp only [sizes, List.map_cons, List.sum_cons] at *; omega
    · simp only [sizes, List.map_cons, List.sum_cons] at *; omega
theorem fits_all (l : List (List UInt8)) : ∀ p ∈ fits l, p.length ≤ 16384 := fun p hp => by
  have := (List.mem_filter.1 hp).2
  simpa using this
theorem recB_dec (s t : Nat) (p : List UInt8) (hs : s < 4294967296) (ht : t < 4294967296) : decide (recB s p = recB t p) = decide (s = t) := by
  by_cases h : s = t
  · subst h; simp
  · rw [decide_eq_false h, decide_eq_false]
    intro e
    apply h
    unfold recB at e
    rw [List.append_assoc, List.append_assoc] at e
    have e1 := List.append_cancel_left e
    have e2 := List.append_inj_left e1 (by rw [be_length, be_length])
    exact sumOf_inj s t p hs ht (be_inj 4 _ _ (by have := sumOf_lt s p; omega) (by have := sumOf_lt t p; omega) e2)
theorem own_empty_b (w : World) (base : Nat) (g cap : Nat) (cur : Array Value) (hb : base ≤ g) (h : w.heap[g]? = some (.cells cur 25 (0, 0))) (hc : cur.size = cap) (hm : cap ≤ maxLen) :
    w.ownsRow base 25 1 (.slice (some ⟨g, 0, none⟩) 0 cap) 0 [] :=
  ⟨rfl, .inr ⟨g, cap, cur, rfl, hb, h, Nat.zero_le _, hm, by rw [hc, Nat.mul_one], by simp⟩⟩
/-- What stands at a round's head: the log so far, its tail, all payloads. -/
structure GoS (w : World) (ls ms : List (List UInt8)) (i t8 : Nat) (bA aA : Option Addr) (bc ac L Z S : Nat) (all : List (List UInt8)) (us : List Value) (wr : World) : Prop where
  ha : all = ls ++ fits (ms.take i)
  hl : all.length = L
  hz : sizes all = Z
  hs : rowS 0 all = S
  rows : RowsV w us all
  ob : wr.ownsRow w.heap.size 5 1 (.slice bA Z bc) Z (bv (rowB 0 all))
  oa : wr.ownsRow w.heap.size 25 1 (.slice aA L ac) L us
  tl : Blk wr t8 30 #[.int .i64 (L : Int), .int .i64 (Z : Int), .int .u32 (S : Int)]
  fr : Fr (fun _ => False) w wr
theorem GoS.skip {w : World} {ls ms : List (List UInt8)} {i t8 : Nat} {bA aA : Option Addr} {bc ac L Z S : Nat} {all : List (List UInt8)} {us : List Value} {wr W : World} (h : GoS w ls ms i t8 bA aA bc ac L Z S all us wr) (hf : Fr (fun _ => False) wr W) (hk : i < ms.length) (hno : ¬ ms[i].length ≤ 16384) : GoS w ls ms (i + 1) t8 bA aA bc ac L Z S all us W :=
  ⟨by rw [fits_snoc_no ms i hk hno]; exact h.ha, h.hl, h.hz, h.hs, h.rows, own_fr h.ob hf (fun _ _ h => h), own_fr h.oa hf (fun _ _ h => h), h.tl.fr hf (fun h => h), h.fr.trans hf (fun _ _ h => h)⟩
theorem GoS.add {w : World} {ls ms : List (List UInt8)} {i t8 : Nat} {bA aA bA' aA' P : Option Addr} {bc ac bc' ac' L Z S M q x : Nat} {all : List (List UInt8)} {us : List Value} {wr W : World} {p : List UInt8} (h : GoS w ls ms i t8 bA aA bc ac L Z S all us wr) (hk : i < ms.length) (hp : ms[i] = p) (hM : p.length = M) (h16 : M ≤ 16384)
    (hx : sumOf S p = x) (rp : Rd w P M (bv p)) (h1 : M ≤ q) (h2 : q ≤ maxLen) (ob : W.ownsRow w.heap.size 5 1 (.slice bA' (Z + (8 + M)) bc') (Z + (8 + M)) (bv (rowB 0 all ++ recB S p))) (oa : W.ownsRow w.heap.size 25 1 (.slice aA' (L + 1) ac') (L + 1) (us ++ [.slice P M q]))
    (tl : Blk W t8 30 #[.int .i64 ((L : Int) + 1), .int .i64 ((Z : Int) + (8 + (M : Int))), .int .u32 (x : Int)]) (fr : Fr (fun _ => False) w W) : GoS w ls ms (i + 1) t8 bA' aA' bc' ac' (L + 1) (Z + (8 + M)) x (all ++ [p]) (us ++ [.slice P M q]) W := by
  have e : rowB 0 (all ++ [p]) = rowB 0 all ++ recB S p := by rw [rowB_append, h.hs]; simp [rowB]
  refine ⟨?_, by rw [List.length_append, h.hl]; rfl, by rw [sizes_append, h.hz]; simp [sizes, hM], by rw [rowS_append, h.hs, ← hx]; simp [rowS], h.rows.snoc hM rp h1 h2, by rw [e]; exact ob, oa, ?_, fr⟩
  · rw [fits_snoc_yes ms i hk (by rw [hp, hM]; exact h16), h.ha, hp, List.append_assoc]
  · have e1 : (((L + 1 : Nat)) : Int) = (L : Int) + 1 := by omega
    have e2 : (((Z + (8 + M) : Nat)) : Int) = (Z : Int) + (8 + (M : Int)) := by omega
    rw [e1, e2]
    exact tl
theorem heldG {W W' : World} {b t8 : Nat} {c z x u : Value} {off : Nat} (h : Blk W t8 30 #[c, z, x]) (h2 : W.cell? ⟨b, off, none⟩ = some u) (f : Fr (fun _ => False) W W') : W'.cell? ⟨t8, 0, none⟩ = some c ∧ W'.cell? ⟨t8, 1, none⟩ = some z ∧ W'.cell? ⟨t8, 2, none⟩ = some x ∧ W'.cell? ⟨b, off, none⟩ = some u := by
  have h' := h.fr f (fun h => h)
  exact ⟨h'.cell 0, h'.cell 1, h'.cell 2, by rw [f.cell (World.block_lt_of_cell? _ _ h2) (fun h => h)]; exact h2⟩
end Go.Proofs.YtmaajihpkollcaaDoor
