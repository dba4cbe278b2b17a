/-
  A PATH's COMPONENTS, cut at the full stops one by one; where a component goes, found by any way. No program is walked here.
-/
import Derived.Test.YtnkfkicabgajmaaGreatDoorPutP
import Derived.Test.YtnkfkicabgajmaaGreatDoorPn
namespace Go.Proofs.YtnkfkicabgajmaaGreatDoor
set_option linter.unusedSimpArgs false
set_option linter.unusedVariables false
open Go Go.RowKit

theorem comps_none {c : List UInt8} (h : (46 : UInt8) ∉ c) : comps c = [c] := by
  unfold comps
  have hc : Lib.countB (strOf c) (strOf [46]) = 0 := by
    show Lib.count (strOf c).data.toList (strOf [46]).data.toList = 0
    rw [strOf_data, strOf_data, Lib.count_one]
    exact List.count_eq_zero.2 h
  rw [hc, Lib.splitB_zero]
  rfl
theorem index_cut {a r : List UInt8} (h : (46 : UInt8) ∉ a) : Lib.index (a ++ 46 :: r) [46] = (a.length : Int) := by
  refine Lib.index_first (by simp) ?_ (fun j hj => ?_)
  · simp [Lib.occAt]
  · unfold Lib.occAt
    rw [List.drop_append_of_le_length (by omega), List.drop_eq_getElem_cons hj]
    have : a[j] ≠ 46 := fun e => h (e ▸ List.getElem_mem hj)
    show ((46 : UInt8) == a[j] && ([] : List UInt8).isPrefixOf _) = false
    rw [show ((46 : UInt8) == a[j]) = false by simpa using this.symm]
    rfl
theorem comps_cut {a r : List UInt8} (h : (46 : UInt8) ∉ a) : comps (a ++ 46 :: r) = a :: comps r := by
  have hix : Lib.indexB (strOf (a ++ 46 :: r)) (strOf [46]) = (a.length : Int) := index_cut h
  have hd : (strOf (a ++ 46 :: r)).extract (a.length + (strOf [46]).size) (strOf (a ++ 46 :: r)).size = strOf r := by
    rw [show a.length + (strOf [46]).size = a.length + 1 from rfl, strOf_drop _ _ (by simp)]
    congr 1
    rw [List.drop_append]
    simp
  have ht : (strOf (a ++ 46 :: r)).extract 0 (a.length + 0) = strOf a := by
    rw [Nat.add_zero, strOf_take _ _ (by simp)]
    congr 1
    simp
  unfold comps
  rw [Lib.countB_hit _ _ a.length (by decide) hix, hd, Nat.add_comm, Lib.splitB_hit _ _ _ _ a.length hix, hd, ht]
  rfl
/-- Does place j answer to this component? -/
def mt (v : V) (c : List UInt8) (j : Nat) : Bool := (v.k == 6 && v.ks.getD j [] == c) || (v.k == 5 && decI j == c)
theorem posV_mt {v : V} {c : List UInt8} {j : Nat} (hf : fieldsV v = true) (hj : j < v.l.length) (hl : v.l.length ≤ 140737488355328) (h : mt v c j = true) : posV v c = some j := by
  obtain ⟨k, n, t, l, ks⟩ := v
  have hj' : j < l.length := hj
  have hl' : l.length ≤ 140737488355328 := hl
  obtain ⟨hu, -, hr, -⟩ := fields_kids hf
  have U := uses_iff.1 hu
  unfold mt at h
  simp only [V.k, V.ks, Bool.or_eq_true, Bool.and_eq_true, beq_iff_eq] at h
  rcases h with ⟨rfl, h⟩ | ⟨rfl, h⟩
  · have hlen := U.obj rfl
    have hjk : j < ks.length := by omega
    rw [posV, if_pos rfl]
    refine ixO_some hjk (by simpa [hjk] using h) (fun i hi hij e => ?_)
    have h2 := rising_lt2 hr (j - i - 1) i (by omega)
    rw [show i + (j - i - 1) + 1 = j by omega, h] at h2
    have e2 : ks.getD i [] = c := by simpa [hi] using e
    rw [e2, kl_irr] at h2
    cases h2
  · rw [posV, if_neg (by decide), if_pos rfl]
    have hp : Lib.parseIntB 64 c = .ok (j : Int) := by
      rw [← h]
      exact parseIntB_itoa _ (by omega) (by omega)
    rw [hp]
    show (if 0 ≤ (j : Int) ∧ (j : Int) < (l.length : Int) ∧ decI (j : Int) = c then some (j : Int).toNat else none) = some j
    rw [if_pos ⟨by omega, by omega, h⟩]
    simp
theorem posV_no {v : V} {c : List UInt8} (hf : fieldsV v = true) (h : ∀ j, j < v.l.length → mt v c j = false) : posV v c = none := by
  obtain ⟨k, n, t, l, ks⟩ := v
  have h' : ∀ j, j < l.length → mt (.mk k n t l ks) c j = false := h
  obtain ⟨hu, -, hr, -⟩ := fields_kids hf
  have U := uses_iff.1 hu
  rw [posV]
  by_cases h6 : k = 6
  · subst h6
    rw [if_pos rfl]
    have hlen := U.obj rfl
    refine ixO_none (fun j hj e => ?_)
    have h1 := h' j (by omega)
    unfold mt at h1
    have e2 : ks.getD j [] = c := by simpa [hj] using e
    simp [V.k, V.ks, e2] at h1
    simp [hj, e] at h1
  · rw [if_neg h6]
    by_cases h5 : k = 5
    · subst h5
      rw [if_pos rfl]
      split
      · rename_i i hi
        split
        · rename_i hc
          have h1 := h' i.toNat (by omega)
          unfold mt at h1
          rw [show ((i.toNat : Nat) : Int) = i by omega] at h1
          simp [V.k, V.ks, hc.2.2] at h1
        · rfl
      · rfl
    · rw [if_neg h5]
theorem atV_some {v : V} {c : List UInt8} {cs : List (List UInt8)} {j : Nat} (hp : posV v c = some j) (hj : j < v.l.length) : atV v (c :: cs) = atV v.l[j] cs := atV_step hp hj
theorem atV_no {v : V} {c : List UInt8} {cs : List (List UInt8)} (hp : posV v c = none) : atV v (c :: cs) = none := by
  conv => lhs; unfold atV
  rw [hp]
theorem atV_nil (v : V) : atV v [] = some v := by unfold atV; rfl
/-- A piece of a path. -/
theorem strOf_sub (s : List UInt8) (i j : Nat) (hij : i ≤ j) (h : j ≤ s.length) : (strOf s).extract i j = strOf ((s.drop i).take (j - i)) := by
  apply ByteArray.ext
  apply Array.toList_inj.1
  simp [strOf, ByteArray.data_extract, List.extract_eq_take_drop]
theorem comps_at {p : List UInt8} {f i : Nat} (hfi : f ≤ i) (hi : i < p.length) (h : p[i] = 46) (hn : (46 : UInt8) ∉ (p.drop f).take (i - f)) : comps (p.drop f) = (p.drop f).take (i - f) :: comps (p.drop (i + 1)) := by
  have e : p.drop f = (p.drop f).take (i - f) ++ 46 :: p.drop (i + 1) := by
    conv => lhs; rw [← List.take_append_drop (i - f) (p.drop f)]
    rw [List.drop_drop, show f + (i - f) = i by omega, List.drop_eq_getElem_cons hi, h]
  rw [e, comps_cut hn]
  congr 1
  rw [← e]
theorem noDot_snoc {p : List UInt8} {f i : Nat} (hfi : f ≤ i) (hi : i < p.length) (h : p[i] ≠ 46) (hn : (46 : UInt8) ∉ (p.drop f).take (i - f)) : (46 : UInt8) ∉ (p.drop f).take (i + 1 - f) := by
  have hl : i - f < (p.drop f).length := by rw [List.length_drop]; omega
  rw [show i + 1 - f = i - f + 1 by omega, List.take_succ_eq_append_getElem hl]
  intro hm
  rcases List.mem_append.1 hm with hm | hm
  · exact hn hm
  · rw [List.mem_singleton] at hm
    rw [List.getElem_drop] at hm
    apply h
    rw [hm]
    congr 1
    omega

/-! What the reference's Put has made when i of the old ones are through. -/
def ptk {α : Type} (P h : Nat) (x : α) (l : List α) (i : Nat) : List α := if i ≤ P then l.take i else l.take P ++ x :: (l.take i).drop (P + h)
section
variable {α : Type} {P h : Nat} {x : α} {l : List α}
theorem ptk_0 : ptk P h x l 0 = [] := by simp [ptk]
theorem ptk_lt {i : Nat} (hi : i < P) (hl : i < l.length) : ptk P h x l (i + 1) = ptk P h x l i ++ [l[i]] := by
  unfold ptk
  rw [if_pos (by omega), if_pos (by omega), List.take_succ_eq_append_getElem hl]
theorem ptk_gt {i : Nat} (hi : P < i) (hh : P + h ≤ i) (hl : i < l.length) : ptk P h x l (i + 1) = ptk P h x l i ++ [l[i]] := by
  unfold ptk
  rw [if_neg (by omega), if_neg (by omega), List.take_succ_eq_append_getElem hl, List.drop_append_of_le_length (by rw [List.length_take]; omega)]
  simp
theorem ptk_at0 (hl : P < l.length) : ptk P 0 x l (P + 1) = (ptk P 0 x l P ++ [x]) ++ [l[P]] := by
  unfold ptk
  rw [if_neg (by omega), if_pos (by omega), List.take_succ_eq_append_getElem hl, List.drop_append_of_le_length (by rw [List.length_take]; omega), List.drop_eq_nil_of_le (by rw [List.length_take]; omega)]
  simp
theorem ptk_at1 : ptk P 1 x l (P + 1) = ptk P 1 x l P ++ [x] := by
  unfold ptk
  rw [if_neg (by omega), if_pos (by omega), List.drop_eq_nil_of_le (by rw [List.length_take]; omega)]
theorem ptk_end1 (hl : P < l.length) : ptk P h x l l.length = l.take P ++ x :: l.drop (P + h) := by
  unfold ptk
  rw [if_neg (by omega), List.take_length]
theorem ptk_end0 (hl : P = l.length) : ptk P h x l l.length ++ [x] = l.take P ++ x :: l.drop (P + h) := by
  unfold ptk
  rw [if_pos (by omega), List.take_length, List.drop_eq_nil_of_le (by omega), hl, List.take_length]
theorem ptk_len_le {i : Nat} (hi : i ≤ l.length) : (ptk P h x l i).length ≤ i + 1 := by
  unfold ptk
  split
  · rw [List.length_take]; omega
  · simp only [List.length_append, List.length_cons, List.length_take, List.length_drop]
    omega
end
def hK (ks : List (List UInt8)) (key : List UInt8) : Nat := if hasK ks key then 1 else 0
theorem putV_ptk {n : Int} {t : List UInt8} {l : List V} {ks : List (List UInt8)} {key : List UInt8} {x : V} (hf : fieldsV (.mk 6 n t l ks) = true) :
    putV (.mk 6 n t l ks) key x = .mk 6 0 [] (l.take (posK ks key) ++ x :: l.drop (posK ks key + hK ks key)) (ks.take (posK ks key) ++ key :: ks.drop (posK ks key + hK ks key)) := by
  obtain ⟨hu, -, hr, -⟩ := fields_kids hf
  have U := uses_iff.1 hu
  obtain rfl : n = 0 := U.num (by decide)
  obtain rfl : t = [] := U.txt (by decide)
  have hlen := U.obj rfl
  rw [put_mk]
  unfold hK
  cases hh : hasK ks key with
  | false => simp
  | true =>
    have hh2 := hh
    unfold hasK at hh2
    rw [decide_eq_true_eq] at hh2
    simp only [if_true]
    congr 1
    · rw [List.set_eq_take_append_cons_drop, if_pos (by omega)]
    · have e := List.take_append_drop (posK ks key) ks
      rw [List.drop_eq_getElem_cons hh2.1] at e
      have e2 : ks[posK ks key] = key := by have := hh2.2; simpa [hh2.1] using this
      rw [e2] at e
      exact e.symm
theorem fields_mem {v x : V} (hf : fieldsV v = true) (hx : x ∈ v.l) : fieldsV x = true := fields_el hf hx
theorem deps_mem : ∀ {l : List V} {x : V}, x ∈ l → dep x ≤ deps l
  | v :: l, x, h => by
    rw [deps]
    rcases List.mem_cons.1 h with rfl | h
    · omega
    · have := deps_mem h
      omega
theorem psz_mem1 : ∀ {l : List V} {x : V}, x ∈ l → psz x ≤ pszs l
  | v :: l, x, h => by
    rw [pszs]
    rcases List.mem_cons.1 h with rfl | h
    · omega
    · have := psz_mem1 h
      omega
theorem may_el {v x : V} (hm : mayV v = true) (hx : x ∈ v.l) : mayV x = true := by
  obtain ⟨k, n, t, l, ks⟩ := v
  have hx' : x ∈ l := hx
  unfold mayV at hm ⊢
  simp only [Bool.and_eq_true, decide_eq_true_eq] at hm ⊢
  refine ⟨⟨?_, fields_el hm.1.2 hx⟩, ?_⟩
  · have h1 := hm.1.1
    rw [dep] at h1
    have := deps_mem hx'
    omega
  · have h1 := hm.2
    rw [psz] at h1
    have := psz_mem1 hx'
    omega
theorem put_mem {n : Int} {t : List UInt8} {l : List V} {ks : List (List UInt8)} {key : List UInt8} {x : V} (hf : fieldsV (.mk 6 n t l ks) = true) : x ∈ (putV (.mk 6 n t l ks) key x).l := by
  rw [putV_ptk hf]
  show x ∈ l.take _ ++ x :: l.drop _
  simp
/-- Put goes through just where the object and what comes of it may be. -/
theorem putO_iff {v x : V} {key : List UInt8} : putO v key x = if v.k = 6 ∧ mayV v = true ∧ mayV (putV v key x) = true then some (putV v key x) else none := by
  unfold putO
  by_cases h : v.k = 6 ∧ mayV v = true ∧ mayV (putV v key x) = true
  · obtain ⟨h6, hm, ho⟩ := h
    have hx : mayV x = true := by
      obtain ⟨k, n, t, l, ks⟩ := v
      have h6' : k = 6 := h6
      subst h6'
      exact may_el ho (put_mem (may_fields hm).1)
    rw [if_pos ⟨h6, hm, hx, ho⟩, if_pos ⟨h6, hm, ho⟩]
  · rw [if_neg h, if_neg (fun h2 => h ⟨h2.1, h2.2.1, h2.2.2.2⟩)]
end Go.Proofs.YtnkfkicabgajmaaGreatDoor
