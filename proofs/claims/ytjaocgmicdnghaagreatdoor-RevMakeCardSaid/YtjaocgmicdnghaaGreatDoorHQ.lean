/-
  Eqr, Rpp, in one text (merge.py).
-/
import Derived.Test.YtjaocgmicdnghaaGreatDoorHP
import Derived.Laws.StructEq

/-
  WHEN TWO NAMES ARE EQUAL.
-/
namespace Go.Proofs.YtjaocgmicdnghaaGreatDoor
set_option linter.unusedSimpArgs false
set_option linter.unusedVariables false
open Go Go.RowKit Go.Shelf
theorem loop_eq {P : Program} (p : Nat → Bool) (f : Nat → Option Bool × Unit → Sem (ForInStep (Option Bool × Unit))) (w : World) : ∀ (n k : Nat), (∀ i, k ≤ i → i < k + n → (f i (none, ())).run P w = .ok (if p i then .yield (none, ()) else .done (some false, ())) w) →
    (forIn (List.range' k n) ((none, ()) : Option Bool × Unit) f).run P w = .ok (if (List.range' k n).all p then (none, ()) else (some false, ())) w
  | 0, k, h => by simp [Sem.run_pure]
  | n + 1, k, h => by
    have h0 := h k (Nat.le_refl _) (by omega)
    have ih := loop_eq p f w n (k + 1) (fun i h1 h2 => h i (by omega) (by omega))
    rw [List.range'_succ, List.forIn_cons, Sem.run_bind, h0, Result.andThen_ok, List.all_cons]
    cases hp : p k
    · simp [Sem.run_pure]
    · simp only [if_true, Bool.true_and]
      exact ih
theorem eq_arr (l m : List UInt8) (hl : l.length = 16) (hm : m.length = 16) (d : Nat) (w : World) : (Op.equalIn (d + 2) 23 (.agg (bv l).toArray) (.agg (bv m).toArray)).run Tryz.prog w = .ok (decide (l = m)) w := by
  rw [show d + 2 = (d + 1) + 1 from rfl, Op.equalIn]
  simp only [Sem.run_bind, run_underlying Tryz.underlying23, Result.andThen_ok]
  simp only [Std.Legacy.Range.forIn_eq_forIn_range', Std.Legacy.Range.size, Nat.sub_zero, Nat.add_sub_cancel, Nat.div_one]
  rw [Tryz.sizeOf5 w, Result.andThen_ok]
  rw [loop_eq (fun i => decide (l[i]? = m[i]?)) _ w 16 0 (fun i _ hi => ?_)]
  · have e : (List.range' 0 16).all (fun i => decide (l[i]? = m[i]?)) = decide (l = m) := by
      rw [Bool.eq_iff_iff, decide_eq_true_eq, List.all_eq_true]
      constructor
      · intro h
        apply List.ext_getElem?
        intro i
        by_cases hi : i < 16
        · simpa using h i (by simp; omega)
        · rw [List.getElem?_eq_none (by omega), List.getElem?_eq_none (by omega)]
      · rintro rfl i _
        simp
    rw [e]
    by_cases h : l = m
    · simp [h, Sem.run_pure]
    · simp [h, Sem.run_pure]
  · have h1 : i < l.length := by omega
    have h2 : i < m.length := by omega
    have ha : ∀ W, (isAgg 5).run Tryz.prog W = .ok false W := Tryz.isAgg5
    have e1 : (part 5 (bv l).toArray (i * 1)).run Tryz.prog w = .ok (.int .u8 ((l[i]).toNat : Nat)) w := by
      simp [part, Sem.run_bind, ha, Result.andThen_ok, bv, h1, Sem.run_pure]
    have e2 : (part 5 (bv m).toArray (i * 1)).run Tryz.prog w = .ok (.int .u8 ((m[i]).toNat : Nat)) w := by
      simp [part, Sem.run_bind, ha, Result.andThen_ok, bv, h2, Sem.run_pure]
    simp only [Sem.run_bind, e1, e2, Result.andThen_ok, run_equalIn_int w d 5 .u8 .u8 _ _ Tryz.underlying5]
    have e3 : (((l[i]).toNat : Int) == ((m[i]).toNat : Int)) = decide (l[i]? = m[i]?) := by
      rw [Bool.eq_iff_iff, beq_iff_eq, decide_eq_true_eq, List.getElem?_eq_getElem h1, List.getElem?_eq_getElem h2]
      constructor
      · intro h
        exact congrArg some (UInt8.toNat_inj.1 (Int.ofNat_inj.1 h))
      · intro h
        rw [Option.some.inj h]
    rw [e3]
    cases decide (l[i]? = m[i]?) <;> simp [Sem.run_pure]
theorem revFields : (Tryz.prog.fieldsOf 25).toList = [⟨"Gen", 22, 0, false, "", "", 0⟩, ⟨"Sum", 23, 1, false, "", "", 8⟩] := by kernel_rfl
theorem revU : Tryz.prog.underlying 25 = some (.struct (Tryz.prog.fieldsOf 25)) := by kernel_rfl
theorem revHeld : Tryz.prog.stoodInHeld 25 = false := by kernel_rfl
theorem eq_revd (d : Nat) (g g' : Nat) (s s' : List UInt8) (hs : s.length = 16) (hs' : s'.length = 16) (w : World) : (Op.equalIn (d + 3) 25 (.agg (rc g s).toArray) (.agg (rc g' s').toArray)).run Tryz.prog w = .ok (decide (g = g' ∧ s = s')) w := by
  have ha : ∀ W, (isAgg 22).run Tryz.prog W = .ok false W := Tryz.isAgg22
  have hb : ∀ W, (isAgg 23).run Tryz.prog W = .ok true W := Tryz.isAgg23
  have hz : ∀ W, (Go.sizeOf 23).run Tryz.prog W = .ok 16 W := Tryz.sizeOf23
  have p1 : ∀ (h : Nat) (r : List UInt8), (part 22 (rc h r).toArray 0).run Tryz.prog w = .ok (.int .u64 (h : Nat)) w := fun h r => by
    simp [part, Sem.run_bind, ha, Result.andThen_ok, rc, Sem.run_pure]
  have p2 : ∀ (h : Nat) (r : List UInt8), r.length = 16 → (part 23 (rc h r).toArray 1).run Tryz.prog w = .ok (.agg (bv r).toArray) w := fun h r hr => by
    have e : (rc h r).toArray.extract 1 (1 + 16) = (bv r).toArray := by
      rw [List.extract_toArray]
      congr 1
      show List.take 16 (bv r) = bv r
      rw [List.take_of_length_le (by rw [bv_length]; omega)]
    unfold part
    simp only [Sem.run_bind, hb, hz, Result.andThen_ok, if_true, e, Sem.run_pure]
  rw [show d + 3 = (d + 2) + 1 from rfl, run_equalIn_struct w (d + 2) 25 _ _ revU revHeld, revFields]
  obtain ⟨C, hC⟩ : ∃ C, (rc g s).toArray = C := ⟨_, rfl⟩
  obtain ⟨C', hC'⟩ : ∃ C, (rc g' s').toArray = C := ⟨_, rfl⟩
  have q1 := p1 g s
  have q1' := p1 g' s'
  have q2 := p2 g s hs
  have q2' := p2 g' s' hs'
  rw [hC] at q1 q2 ⊢
  rw [hC'] at q1' q2' ⊢
  have e0 := run_equalIn_int w (d + 1) 22 .u64 .u64 (g : Nat) (g' : Nat) Tryz.underlying22
  have e1 := eq_arr s s' hs hs' d w
  clear p1 p2 hC hC' ha hb hz
  have n1 : ("Gen" ≠ "_") := by decide
  have n2 : ("Sum" ≠ "_") := by decide
  have e3 : (((g : Nat) : Int) == ((g' : Nat) : Int)) = decide (g = g') := by
    rw [Bool.eq_iff_iff, beq_iff_eq, decide_eq_true_eq]
    omega
  rw [Op.eqFields, if_pos n1, Sem.run_bind, q1, Result.andThen_ok, Sem.run_bind, q1', Result.andThen_ok, Sem.run_bind, e0, Result.andThen_ok, e3]
  by_cases h1 : g = g'
  · rw [decide_eq_true h1, if_neg (by decide), Op.eqFields, if_pos n2, Sem.run_bind, q2, Result.andThen_ok, Sem.run_bind, q2', Result.andThen_ok, Sem.run_bind, e1, Result.andThen_ok]
    by_cases h2 : s = s'
    · rw [decide_eq_true h2, if_neg (by decide), Op.eqFields, Sem.run_pure, decide_eq_true ⟨h1, h2⟩]
    · rw [decide_eq_false h2, if_pos (by decide), Sem.run_pure, decide_eq_false (fun h => h2 h.2)]
  · rw [decide_eq_false h1, if_pos (by decide), Sem.run_pure, decide_eq_false (fun h => h1 h.1)]
theorem eq_rev (g g' : Nat) (s s' : List UInt8) (hs : s.length = 16) (hs' : s'.length = 16) (w : World) : (Op.equalIn 10000 25 (.agg (rc g s).toArray) (.agg (rc g' s').toArray)).run Tryz.prog w = .ok (decide (g = g' ∧ s = s')) w := eq_revd 9997 g g' s s' hs hs' w
theorem run_eql_rev (g g' : Nat) (s s' : List UInt8) (hs : s.length = 16) (hs' : s'.length = 16) (w : World) : (binOp .eql 25 (.agg (rc g s).toArray) (.agg (rc g' s').toArray)).run Tryz.prog w = .ok (.bool (decide (g = g' ∧ s = s'))) w := by
  rw [run_eql_struct, eq_rev g g' s s' hs hs' w]
  rfl
theorem run_neq_rev (g g' : Nat) (s s' : List UInt8) (hs : s.length = 16) (hs' : s'.length = 16) (w : World) : (binOp .neq 25 (.agg (rc g s).toArray) (.agg (rc g' s').toArray)).run Tryz.prog w = .ok (.bool (!decide (g = g' ∧ s = s'))) w := by
  rw [run_neq_struct, eq_rev g g' s s' hs hs' w]
  rfl
end Go.Proofs.YtjaocgmicdnghaaGreatDoor

/-
  WHAT A TEXT IS READ AS, step by step, on lists. No program is named here.
-/
namespace Go.Proofs.YtjaocgmicdnghaaGreatDoor
set_option linter.unusedSimpArgs false
set_option linter.unusedVariables false
open Go Go.RowKit Go.Lib

/-- A whole array or struct, loaded under a guard that says yes. -/
theorem wpList_load_g {P : Program} {ops : Array Oper} {rest : List Oper} {op : Oper} {a : Act} {w : World} {Q : Exit → Act → World → Prop} (hw : Region.wanted op (yielded ops a.tmps) = true) (ty : TypeId) (x : Operand) (ho : op.op = .load ty x)
    (b o : Nat) (hx : a.eval x = .pointer (some ⟨b, o, none⟩)) (cs : List Value) (d : TypeDesc) (hc : w.rangeAt b o cs)
    (hu : P.underlying ty = some d) (hd : d.isRow = true) (hi : (P.info? ty).map (·.size) = some cs.length)
    (h : wpList P ops Q rest (a.put op.dst (.agg cs.toArray)) w) : wpList P ops Q (op :: rest) a w :=
  wpList_step fun K hK => by rw [if_pos hw]; exact wp_load_mid ty x ho b o hx cs d hc hu hd hi (hK _ _ h)
def isDig (c : UInt8) : Prop := 48 ≤ c.toNat ∧ c.toNat ≤ 57
def isHex (c : UInt8) : Prop := (48 ≤ c.toNat ∧ c.toNat ≤ 57) ∨ (97 ≤ c.toNat ∧ c.toNat ≤ 102)
def gstep (a : Nat) (c : UInt8) : Nat := (a * 10 + (c.toNat - 48)) % 18446744073709551616
theorem fold_dec (u : Nat) (hu : u < 18446744073709551616) : (decDigits u).foldl gstep 0 = u := by
  induction u using Nat.strongRecOn with
  | _ u ih =>
    rw [decDigits]
    split
    · rename_i h
      simp only [List.foldl_cons, List.foldl_nil, gstep, digit_toNat h]
      omega
    · rename_i h
      rw [List.foldl_append, ih (u / 10) (by omega) (by omega)]
      simp only [List.foldl_cons, List.foldl_nil, gstep, digit_toNat (show u % 10 < 10 by omega)]
      omega
theorem fold_lt : ∀ (l : List UInt8) (a : Nat), a < 18446744073709551616 → l.foldl gstep a < 18446744073709551616
  | [], a, h => h
  | c :: l, a, _ => fold_lt l (gstep a c) (by unfold gstep; omega)
theorem hexL_hex : ∀ (s : List UInt8), ∀ c ∈ hexL s, isHex c
  | [], c, h => by simp [hexL] at h
  | x :: s, c, h => by
    have hk : ∀ k : Fin 16, isHex (hxd k.val) := by unfold isHex; decide +kernel
    have hx := x.toNat_lt
    simp only [hexL, List.mem_cons] at h
    rcases h with rfl | rfl | h
    · exact hk ⟨x.toNat / 16, by omega⟩
    · exact hk ⟨x.toNat % 16, by omega⟩
    · exact hexL_hex s c h
theorem scan_end {g : Nat} {sum s : List UInt8} {k : Nat} (h : isName g sum s) (hk : k ≤ s.length) (hd : ∀ (j : Nat) (hj : j < k), isDig (s[j]'(Nat.lt_of_lt_of_le hj hk)))
    (he : k = s.length ∨ k = 20 ∨ ∃ hl : k < s.length, ¬ isDig (s[k]'hl)) : (s.take k).foldl gstep 0 = g ∧ s.drop (k + 1) = hexL sum ∧ s.length = k + 33 ∧ s[k]? = some 45 := by
  obtain ⟨h1, h2, h3⟩ := h
  have hl : (decDigits g).length ≤ 20 := by
    rw [decDigits_length]
    exact nDigits_le20 g (by omega)
  have hdd := decDigits_digit g
  have hfd := fold_dec g (by omega)
  have hhl : (hexL sum).length = 32 := by rw [hexL_length, h2]
  unfold txt at h3
  obtain ⟨D, hD⟩ : ∃ D, decDigits g = D := ⟨_, rfl⟩
  rw [hD] at hl hdd hfd h3
  obtain ⟨H, hH⟩ : ∃ H, hexL sum = H := ⟨_, rfl⟩
  rw [hH] at hhl h3 ⊢
  subst h3
  have e : k = D.length := by
    rcases Nat.lt_trichotomy k D.length with hlt | heq | hgt
    · exfalso
      rcases he with he | he | ⟨hl2, he⟩
      · simp at he; omega
      · omega
      · refine he ?_
        rw [List.getElem_append_left hlt]
        exact hdd _ (List.getElem_mem _)
    · exact heq
    · exfalso
      have := hd D.length hgt
      rw [List.getElem_append_right (Nat.le_refl _)] at this
      simp [isDig] at this
  subst e
  refine ⟨by rw [List.take_left]; exact hfd, ?_, by simp [hhl], by simp⟩
  rw [show D ++ 45 :: H = (D ++ [45]) ++ H by simp, show D.length + 1 = (D ++ [45]).length by simp, List.drop_left]
theorem name_of {g : Nat} {sum s : List UInt8} (h : isName g sum s) : parse s = some (g, sum) := parse_txt h
/-- The sixteen bytes while their digits come: q of them whole, o digits of the next. -/
def mid2 (L : List UInt8) (q o : Nat) : List UInt8 := if o = 0 then mid L q else (mid L q).set q (UInt8.ofNat (dgt (L.getD (2 * q) 0)))
theorem mid_at {L : List UInt8} (h : L.length = 32) {q : Nat} (hq : q < 16) : (mid L q)[q]? = some 0 := by
  unfold mid
  have hl : (unhex (L.take (2 * q))).length = q := by rw [unhex_length, List.length_take]; omega
  rw [List.getElem?_append_right (by omega), hl, Nat.sub_self, List.getElem?_eq_getElem (by rw [List.length_replicate]; omega), List.getElem_replicate]
theorem mid2_len {L : List UInt8} (h : L.length = 32) {q o : Nat} (hq : q ≤ 16) : (mid2 L q o).length = 16 := by
  unfold mid2
  split
  · exact mid_len h hq
  · rw [List.length_set]; exact mid_len h hq
theorem mid2_at0 {L : List UInt8} (h : L.length = 32) {q : Nat} (hq : q < 16) : (mid2 L q 0)[q]? = some 0 := mid_at h hq
theorem mid2_at1 {L : List UInt8} (h : L.length = 32) {q : Nat} (hq : q < 16) : (mid2 L q 1)[q]? = some (UInt8.ofNat (dgt (L.getD (2 * q) 0))) := by
  show ((mid L q).set q _)[q]? = _
  rw [List.getElem?_set_self (by rw [mid_len h (by omega)]; omega)]
theorem mid2_set0 {L : List UInt8} {q : Nat} : (mid2 L q 0).set q (UInt8.ofNat (dgt (L.getD (2 * q) 0))) = mid2 L q 1 := rfl
theorem mid2_set1 {L : List UInt8} (h : L.length = 32) {q : Nat} (hq : q < 16) : (mid2 L q 1).set q (UInt8.ofNat (dgt (L.getD (2 * q) 0) * 16 + dgt (L.getD (2 * q + 1) 0))) = mid2 L (q + 1) 0 := by
  show ((mid L q).set q _).set q _ = mid L (q + 1)
  rw [List.set_set, ← mid_succ h hq]
  simp [show 2 * q < L.length by omega, show 2 * q + 1 < L.length by omega]
def midI (L : List UInt8) (i : Nat) : List UInt8 := mid2 L (i / 2) (i % 2)
theorem midI_zero (L : List UInt8) : midI L 0 = zN := mid_zero L
theorem midI_end {L : List UInt8} (h : L.length = 32) : midI L 32 = unhex L := mid_end h
theorem midI_len {L : List UInt8} (h : L.length = 32) {i : Nat} (hi : i ≤ 32) : (midI L i).length = 16 := mid2_len h (by omega)
theorem nib_step {L : List UInt8} (h : L.length = 32) {i : Nat} (hi : i < 32) : ∃ a, a < 16 ∧ (midI L i)[i / 2]? = some (UInt8.ofNat a) ∧ (midI L i).set (i / 2) (UInt8.ofNat (a * 16 + dgt (L.getD i 0))) = midI L (i + 1) := by
  rcases Nat.mod_two_eq_zero_or_one i with ho | ho
  · obtain ⟨q, rfl⟩ : ∃ q, i = 2 * q := ⟨i / 2, by omega⟩
    refine ⟨0, by omega, ?_, ?_⟩
    · unfold midI
      rw [show 2 * q / 2 = q by omega, ho, mid2_at0 h (by omega)]
      rfl
    · unfold midI
      rw [show 2 * q / 2 = q by omega, ho, show (2 * q + 1) / 2 = q by omega, show (2 * q + 1) % 2 = 1 by omega, Nat.zero_mul, Nat.zero_add]
      exact mid2_set0
  · obtain ⟨q, rfl⟩ : ∃ q, i = 2 * q + 1 := ⟨i / 2, by omega⟩
    refine ⟨dgt (L.getD (2 * q) 0), by have := dgt_lt (L.getD (2 * q) 0); omega, ?_, ?_⟩
    · unfold midI
      rw [show (2 * q + 1) / 2 = q by omega, ho, mid2_at1 h (by omega)]
    · unfold midI
      rw [show (2 * q + 1) / 2 = q by omega, ho, show (2 * q + 1 + 1) / 2 = q + 1 by omega, show (2 * q + 1 + 1) % 2 = 0 by omega]
      exact mid2_set1 h (by omega)
theorem dgt_num {c : UInt8} (h : 48 ≤ c.toNat ∧ c.toNat ≤ 57) : c.toNat - 48 = dgt c := by unfold dgt; rw [if_pos h]
theorem dgt_let {c : UInt8} (h : 97 ≤ c.toNat ∧ c.toNat ≤ 102) : c.toNat - 97 + 10 = dgt c := by
  unfold dgt
  rw [if_neg (by omega), if_pos h]
  omega
end Go.Proofs.YtjaocgmicdnghaaGreatDoor
