/-
  PLAIN parts of FrameRow: a row's records one by one; the tails' cells.
-/
import Derived.Test.YtmaajihpkollcaaDoorFgp
import Derived.Test.YtmaajihpkollcaaDoorJoin
namespace Go.Proofs.YtmaajihpkollcaaDoor
set_option linter.unusedSimpArgs false
set_option linter.unusedVariables false
open Go Go.RowKit

/-- The records of payloads, one by one. -/
def recl : Nat → List (List UInt8) → List (List UInt8)
  | _, [] => []
  | s, p :: r => recB s p :: recl (sumOf s p) r
theorem recl_length : ∀ (s : Nat) (l : List (List UInt8)), (recl s l).length = l.length
  | _, [] => rfl
  | s, p :: r => by simp [recl, recl_length (sumOf s p) r]
theorem recl_flat : ∀ (s : Nat) (l : List (List UInt8)), (recl s l).flatten = rowB s l
  | _, [] => rfl
  | s, p :: r => by simp [recl, rowB, recl_flat (sumOf s p) r]
theorem recl_append : ∀ (s : Nat) (l m : List (List UInt8)), recl s (l ++ m) = recl s l ++ recl (rowS s l) m
  | _, [], _ => rfl
  | s, p :: r, m => by simp [recl, rowS, recl_append (sumOf s p) r m]
theorem recl_take (s : Nat) (l : List (List UInt8)) (k : Nat) : (recl s l).take k = recl s (l.take k) := by
  rcases Nat.lt_or_ge k l.length with h | h
  · conv => lhs; rw [← List.take_append_drop k l]
    rw [recl_append, List.take_append_of_le_length (by rw [recl_length, List.length_take]; omega), List.take_of_length_le (by rw [recl_length, List.length_take]; omega)]
  · rw [List.take_of_length_le (by rw [recl_length]; exact h), List.take_of_length_le h]
theorem recl_drop (s : Nat) (l : List (List UInt8)) (k : Nat) (hk : k ≤ l.length) : (recl s l).drop k = recl (rowS s (l.take k)) (l.drop k) := by
  conv => lhs; rw [← List.take_append_drop k l]
  rw [recl_append]
  have e : (recl s (l.take k)).length = k := by rw [recl_length, List.length_take]; omega
  rw [List.drop_append_of_le_length (by omega), List.drop_of_length_le (by omega), List.nil_append]
theorem recl_get (s : Nat) (l : List (List UInt8)) (k : Nat) (hk : k < l.length) : (recl s l)[k]'(by rw [recl_length]; exact hk) = recB (rowS s (l.take k)) l[k] := by
  have h := recl_drop s l k (by omega)
  rw [← List.getElem_cons_drop (h := hk), ← List.getElem_cons_drop (h := by rw [recl_length]; exact hk), recl] at h
  exact (List.cons.inj h).1
theorem recl_snoc (l : List (List UInt8)) (k : Nat) (hk : k < l.length) : recl 0 (l.take (k + 1)) = recl 0 (l.take k) ++ [recB (rowS 0 (l.take k)) l[k]] := by
  rw [List.take_succ_eq_append_getElem hk, recl_append]
  rfl
/-- A tail's cells. -/
def tc3 (ls : List (List UInt8)) (j : Nat) : List Value := [.int .i64 (j : Int), .int .i64 (sizes (ls.take j) : Int), .int .u32 (rowS 0 (ls.take j) : Int)]
def tcs (ls : List (List UInt8)) : Nat → List Value
  | 0 => tc3 ls 0
  | i + 1 => tcs ls i ++ tc3 ls (i + 1)
theorem tcs_length (ls : List (List UInt8)) : ∀ i, (tcs ls i).length = (i + 1) * 3
  | 0 => rfl
  | i + 1 => by rw [tcs, List.length_append, tcs_length ls i]; simp [tc3]; omega
theorem tcs_get (ls : List (List UInt8)) : ∀ i j r, j ≤ i → r < 3 → (tcs ls i)[j * 3 + r]? = (tc3 ls j)[r]?
  | 0, j, r, hj, hr => by
    obtain rfl : j = 0 := by omega
    simp [tcs]
  | i + 1, j, r, hj, hr => by
    have hl := tcs_length ls i
    rcases Nat.lt_or_ge j (i + 1) with h | h
    · rw [tcs, List.getElem?_append_left (by omega)]
      exact tcs_get ls i j r (by omega) hr
    · obtain rfl : j = i + 1 := by omega
      rw [tcs, List.getElem?_append_right (by omega), hl]
      congr 1
      omega
/-- What a log tells from which a record is out. -/
theorem tells_out (ls : List (List UInt8)) (k : Nat) (hk : k < ls.length) (h : ∀ q ∈ ls, q.length ≤ 16384) (hne : k + 1 < ls.length → rowS 0 (ls.take k) ≠ rowS 0 (ls.take (k + 1))) :
    tells 0 ((recl 0 ls).take k ++ (recl 0 ls).drop (k + 1)).flatten = (ls.take k, rowS 0 (ls.take k)) := by
  have ht : ∀ q ∈ ls.take k, q.length ≤ 16384 := fun q hq => h q (List.mem_of_mem_take hq)
  rw [List.flatten_append, recl_take, recl_flat]
  rcases Nat.lt_or_ge (k + 1) ls.length with h1 | h1
  · rw [recl_drop _ _ _ (by omega), recl_flat, ← List.getElem_cons_drop (h := h1), rowB]
    exact tells_other _ _ _ _ _ ht (h _ (List.getElem_mem _)) (by omega) (rowS_lt _ _ (by omega)) (hne h1)
  · rw [List.drop_of_length_le (by rw [recl_length]; exact h1)]
    have htn : tells (rowS 0 (ls.take k)) [] = ([], rowS 0 (ls.take k)) := tells_none (by unfold one; rfl)
    rw [List.flatten_nil, tells_row _ _ _ ht, htn, List.append_nil]
/-- .. into which one is put once more, behind another sum. -/
theorem tells_in_no (ls : List (List UInt8)) (i p : Nat) (hi : i < ls.length) (hp : p ≤ ls.length) (h : ∀ q ∈ ls, q.length ≤ 16384) (hne : rowS 0 (ls.take p) ≠ rowS 0 (ls.take i)) :
    tells 0 ((recl 0 ls).take p ++ [(recl 0 ls)[i]'(by rw [recl_length]; exact hi)] ++ (recl 0 ls).drop p).flatten = (ls.take p, rowS 0 (ls.take p)) := by
  have ht : ∀ q ∈ ls.take p, q.length ≤ 16384 := fun q hq => h q (List.mem_of_mem_take hq)
  rw [List.append_assoc, List.flatten_append, recl_take, recl_flat, List.flatten_append, List.flatten_singleton, recl_get _ _ _ hi]
  exact tells_other _ _ _ _ _ ht (h _ (List.getElem_mem _)) (by omega) (rowS_lt _ _ (by omega)) hne
/-- .. behind its own one. -/
theorem tells_in_yes (ls : List (List UInt8)) (i p : Nat) (hi : i < ls.length) (hp : p ≤ ls.length) (h : ∀ q ∈ ls, q.length ≤ 16384) (he : rowS 0 (ls.take p) = rowS 0 (ls.take i)) :
    ∃ x y, tells 0 ((recl 0 ls).take p ++ [(recl 0 ls)[i]'(by rw [recl_length]; exact hi)] ++ (recl 0 ls).drop p).flatten = (ls.take p ++ ls[i] :: x, y) := by
  have ht : ∀ q ∈ ls.take p, q.length ≤ 16384 := fun q hq => h q (List.mem_of_mem_take hq)
  rw [List.append_assoc, List.flatten_append, recl_take, recl_flat, List.flatten_append, List.flatten_singleton, recl_get _ _ _ hi, ← he]
  exact tells_again _ _ _ _ ht (h _ (List.getElem_mem _))
theorem heldR {W W' : World} {b g o1 o2 o3 : Nat} {c z x u : Value} {off : Nat} (h0 : W.cell? ⟨g, o1, none⟩ = some c) (h1 : W.cell? ⟨g, o2, none⟩ = some z) (h3 : W.cell? ⟨g, o3, none⟩ = some x) (h2 : W.cell? ⟨b, off, none⟩ = some u) (f : Fr (fun _ => False) W W') : W'.cell? ⟨g, o1, none⟩ = some c ∧ W'.cell? ⟨g, o2, none⟩ = some z ∧ W'.cell? ⟨g, o3, none⟩ = some x ∧ W'.cell? ⟨b, off, none⟩ = some u :=
  ⟨by rw [f.cell (World.block_lt_of_cell? _ _ h0) (fun h => h)]; exact h0, by rw [f.cell (World.block_lt_of_cell? _ _ h1) (fun h => h)]; exact h1, by rw [f.cell (World.block_lt_of_cell? _ _ h3) (fun h => h)]; exact h3, by rw [f.cell (World.block_lt_of_cell? _ _ h2) (fun h => h)]; exact h2⟩
theorem OwnB.vals {w : World} {base : Nat} {v : Value} {ls : List (List UInt8)} (h : OwnB w base v ls) : ∃ us, w.ownsRow base 25 1 v ls.length us ∧ RowsV w us ls := by
  obtain ⟨us, h1, h2, h3⟩ := h
  refine ⟨us, h1, h2, fun i hi => ?_⟩
  obtain ⟨u, h4, h5⟩ := h3 i hi
  obtain ⟨B, c', rfl, g3, g4⟩ := own_slice h5
  exact ⟨B, c', h4, Rd.of_own (own_base h5 (base' := 0) (fun _ _ => Nat.zero_le _)), g3, g4⟩
theorem RowsV.take {w : World} {us : List Value} {ls : List (List UInt8)} (h : RowsV w us ls) (k : Nat) : RowsV w (us.take k) (ls.take k) := by
  refine ⟨by rw [List.length_take, List.length_take, h.1], fun i hi => ?_⟩
  rw [List.length_take] at hi
  obtain ⟨B, c, g1, g2, g3, g4⟩ := h.2 i (by omega)
  have e : (ls.take k)[i]'(by rw [List.length_take]; omega) = ls[i]'(by omega) := by simp
  rw [e]
  exact ⟨B, c, by rw [List.getElem?_take, if_pos (by omega)]; exact g1, g2, g3, g4⟩
theorem RowsV.drop {w : World} {us : List Value} {ls : List (List UInt8)} (h : RowsV w us ls) (k : Nat) : RowsV w (us.drop k) (ls.drop k) := by
  refine ⟨by rw [List.length_drop, List.length_drop, h.1], fun i hi => ?_⟩
  rw [List.length_drop] at hi
  obtain ⟨B, c, g1, g2, g3, g4⟩ := h.2 (k + i) (by omega)
  have e : (ls.drop k)[i]'(by rw [List.length_drop]; omega) = ls[k + i]'(by omega) := by simp
  rw [e]
  exact ⟨B, c, by rw [List.getElem?_drop]; exact g1, g2, g3, g4⟩
theorem RowsV.append {w : World} {us vs : List Value} {ls ms : List (List UInt8)} (h : RowsV w us ls) (h' : RowsV w vs ms) : RowsV w (us ++ vs) (ls ++ ms) := by
  refine ⟨by simp [h.1, h'.1], fun i hi => ?_⟩
  rcases Nat.lt_or_ge i ls.length with hlt | hge
  · obtain ⟨B, c, g1, g2, g3, g4⟩ := h.2 i hlt
    have e : (ls ++ ms)[i] = ls[i] := List.getElem_append_left hlt
    rw [e]
    exact ⟨B, c, by rw [List.getElem?_append_left (by rw [h.1]; exact hlt)]; exact g1, g2, g3, g4⟩
  · have hi2 : i - ls.length < ms.length := by rw [List.length_append] at hi; omega
    obtain ⟨B, c, g1, g2, g3, g4⟩ := h'.2 (i - ls.length) hi2
    have e : (ls ++ ms)[i] = ms[i - ls.length] := List.getElem_append_right hge
    rw [e]
    exact ⟨B, c, by rw [List.getElem?_append_right (by rw [h.1]; exact hge), h.1]; exact g1, g2, g3, g4⟩
theorem RowsV.one' {w : World} {us : List Value} {ls : List (List UInt8)} (h : RowsV w us ls) (i : Nat) (hi : i < ls.length) : ∃ u, us[i]? = some u ∧ RowsV w [u] [ls[i]] := by
  obtain ⟨B, c, g1, g2, g3, g4⟩ := h.2 i hi
  refine ⟨_, g1, rfl, fun j hj => ?_⟩
  obtain rfl : j = 0 := by simpa using hj
  exact ⟨B, c, rfl, g2, g3, g4⟩
/-- A slice's tail, whatever its address. -/
theorem Rd.cut' {w : World} {A A' : Option Addr} {n : Nat} {xs : List Value} (h : Rd w A n xs) {k : Nat} (hk : k ≤ n) (hA : n - k = 0 ∨ A' = A.map (·.add k)) : Rd w A' (n - k) (xs.drop k) := by
  rcases hA with h0 | rfl
  · have e : xs.drop k = [] := List.drop_of_length_le (by rw [h.1]; omega)
    rw [h0, e]
    exact Rd.none_ _ _
  · have := h.cut (k := k) (cap := n + k + 1) hk (by omega)
    rwa [if_neg (by omega)] at this
theorem blk_new1 (w : World) (o : Obj) (t : TypeId) (cs : Array Value) : Blk ((w.alloc o).alloc (.cells cs t)) (w.heap.size + 1) t cs := by
  have := Blk.new (w.alloc o) t cs
  rwa [World.size_alloc] at this
theorem Blk.empty {w : World} {g : Nat} (h : Blk w g 25 #[]) (base : Nat) (hb : base ≤ g) : w.ownsRow base 25 1 (.slice (some ⟨g, 0, none⟩) 0 0) 0 [] := own_empty_b w base g 0 #[] hb h rfl (by unfold maxLen; omega)
theorem sizeOf_bytes (W : World) : (sizeOf (Tryd.prog.elem 22)).run Tryd.prog W = .ok 1 W := by
  have e : Tryd.prog.elem 22 = 25 := by kernel_rfl
  rw [e]
  simp [go_sem]
theorem slice_from (A : Option Addr) (n c k : Nat) (l : Int) (hl : l = (k : Int)) (hk : k ≤ n) (hn : n ≤ c) :
    ∃ AD, (n - k = 0 ∨ AD = A.map (·.add k)) ∧ ∀ W, (Instr.sliceAt 22 (.slice A n c) (some (.int .i64 l)) none none).run Tryd.prog W = .ok (.slice AD (n - k) (c - k)) W := by
  subst hl
  refine ⟨if c = k then A else A.map (·.add k), ?_, fun W => ?_⟩
  · by_cases h : c = k
    · exact .inl (by omega)
    · rw [if_neg h]; exact .inr rfl
  · have ht : Tryd.prog.underlying 22 = some (.slice (Tryd.prog.elem 22)) := by kernel_rfl
    rw [run_sliceAt_slice _ _ _ _ _ _ ht, run_slice_l _ _ _ _ _ ht .i64 (k : Int) (by omega) (by omega), sizeOf_bytes]
    simp [sliced, Result.andThen]
theorem OwnB.rd {w : World} {base n c : Nat} {A : Option Addr} {ls : List (List UInt8)} (h : OwnB w base (.slice A n c) ls) : RdB w A n ls := by
  obtain ⟨A', c', e, h1, -, -⟩ := h.rdB
  injection e with e1 e2 e3
  rw [e1, e2]
  exact h1
theorem held1 {W W' : World} {a : Addr} {u : Value} (h : W.cell? a = some u) (f : Fr (fun _ => False) W W') : W'.cell? a = some u := by
  rw [f.cell (World.block_lt_of_cell? _ _ h) (fun h => h)]; exact h
theorem mem_flat_len : ∀ (l : List (List UInt8)) (x : List UInt8), x ∈ l → x.length ≤ l.flatten.length
  | y :: l, x, h => by
    rw [List.flatten_cons, List.length_append]
    rcases List.mem_cons.1 h with rfl | h
    · omega
    · have := mem_flat_len l x h; omega
theorem len_le_sizes : ∀ l : List (List UInt8), l.length ≤ sizes l
  | [] => Nat.le_refl _
  | p :: l => by
    have := len_le_sizes l
    simp only [sizes, List.map_cons, List.sum_cons, List.length_cons] at *
    omega
theorem recl_sum : ∀ (s : Nat) (l : List (List UInt8)), (recl s l).flatten.length = sizes l := fun s l => by rw [recl_flat, rowB_length]
end Go.Proofs.YtmaajihpkollcaaDoor
