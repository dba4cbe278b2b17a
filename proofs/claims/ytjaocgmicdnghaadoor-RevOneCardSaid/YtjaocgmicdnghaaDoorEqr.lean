/-
  WHEN TWO NAMES ARE EQUAL.
-/
import Derived.Test.YtjaocgmicdnghaaDoorParse
import Derived.Laws.StructEq
namespace Go.Proofs.YtjaocgmicdnghaaDoor
set_option linter.unusedSimpArgs false
set_option linter.unusedVariables false
open Go Go.RowKit Go.Shelf
theorem loop_eq {P : Program} (p : Nat → Bool) (f : Nat → Option Bool × Unit → Sem (ForInStep (Option Bool × Unit))) (w : World) : ∀ (n k : Nat), (∀ i, k ≤ i → i < k + n → (f i (none, ())).run P w = .ok (if p i then .yield (none, ()) else .done (some false, ())) w) →
    (forIn (List.range' k n) ((none, ()) : Option Bool × Unit) f).run P w = .ok (if (List.range' k n).all p then (none, ()) else (some false, ())) w
  | 0, k, h => by simp [Sem.run_pure]
  | n + 1, k, h => by
    have h0 := h k (Nat.le_refl _) (by omega)
    have ih := loop_eq p f w n (k + 1) (fun i h1 h2 => h i (by omega) (by omega))
    rw [List.range'_succ, List.forIn_cons, Sem.run_bind, h0, Result.andThen_ok, List.all_cons]
    cases hp : p k
    · simp [Sem.run_pure]
    · simp only [if_true, Bool.true_and]
      exact ih
theorem eq_arr (l m : List UInt8) (hl : l.length = 16) (hm : m.length = 16) (d : Nat) (w : World) : (Op.equalIn (d + 2) 23 (.agg (bv l).toArray) (.agg (bv m).toArray)).run Tryd.prog w = .ok (decide (l = m)) w := by
  rw [show d + 2 = (d + 1) + 1 from rfl, Op.equalIn]
  simp only [Sem.run_bind, run_underlying Tryd.underlying23, Result.andThen_ok]
  simp only [Std.Legacy.Range.forIn_eq_forIn_range', Std.Legacy.Range.size, Nat.sub_zero, Nat.add_sub_cancel, Nat.div_one]
  rw [Tryd.sizeOf5 w, Result.andThen_ok]
  rw [loop_eq (fun i => decide (l[i]? = m[i]?)) _ w 16 0 (fun i _ hi => ?_)]
  · have e : (List.range' 0 16).all (fun i => decide (l[i]? = m[i]?)) = decide (l = m) := by
      rw [Bool.eq_iff_iff, decide_eq_true_eq, List.all_eq_true]
      constructor
      · intro h
        apply List.ext_getElem?
        intro i
        by_cases hi : i < 16
        · simpa using h i (by simp; omega)
        · rw [List.getElem?_eq_none (by omega), List.getElem?_eq_none (by omega)]
      · rintro rfl i _
        simp
    rw [e]
    by_cases h : l = m
    · simp [h, Sem.run_pure]
    · simp [h, Sem.run_pure]
  · have h1 : i < l.length := by omega
    have h2 : i < m.length := by omega
    have ha : ∀ W, (isAgg 5).run Tryd.prog W = .ok false W := Tryd.isAgg5
    have e1 : (part 5 (bv l).toArray (i * 1)).run Tryd.prog w = .ok (.int .u8 ((l[i]).toNat : Nat)) w := by
      simp [part, Sem.run_bind, ha, Result.andThen_ok, bv, h1, Sem.run_pure]
    have e2 : (part 5 (bv m).toArray (i * 1)).run Tryd.prog w = .ok (.int .u8 ((m[i]).toNat : Nat)) w := by
      simp [part, Sem.run_bind, ha, Result.andThen_ok, bv, h2, Sem.run_pure]
    simp only [Sem.run_bind, e1, e2, Result.andThen_ok, run_equalIn_int w d 5 .u8 .u8 _ _ Tryd.underlying5]
    have e3 : (((l[i]).toNat : Int) == ((m[i]).toNat : Int)) = decide (l[i]? = m[i]?) := by
      rw [Bool.eq_iff_iff, beq_iff_eq, decide_eq_true_eq, List.getElem?_eq_getElem h1, List.getElem?_eq_getElem h2]
      constructor
      · intro h
        exact congrArg some (UInt8.toNat_inj.1 (Int.ofNat_inj.1 h))
      · intro h
        rw [Option.some.inj h]
    rw [e3]
    cases decide (l[i]? = m[i]?) <;> simp [Sem.run_pure]
theorem revFields : (Tryd.prog.fieldsOf 25).toList = [⟨"Gen", 22, 0, false, "", "", 0⟩, ⟨"Sum", 23, 1, false, "", "", 8⟩] := by kernel_rfl
theorem revU : Tryd.prog.underlying 25 = some (.struct (Tryd.prog.fieldsOf 25)) := by kernel_rfl
theorem revHeld : Tryd.prog.stoodInHeld 25 = false := by kernel_rfl
theorem eq_revd (d : Nat) (g g' : Nat) (s s' : List UInt8) (hs : s.length = 16) (hs' : s'.length = 16) (w : World) : (Op.equalIn (d + 3) 25 (.agg (rc g s).toArray) (.agg (rc g' s').toArray)).run Tryd.prog w = .ok (decide (g = g' ∧ s = s')) w := by
  have ha : ∀ W, (isAgg 22).run Tryd.prog W = .ok false W := Tryd.isAgg22
  have hb : ∀ W, (isAgg 23).run Tryd.prog W = .ok true W := Tryd.isAgg23
  have hz : ∀ W, (Go.sizeOf 23).run Tryd.prog W = .ok 16 W := Tryd.sizeOf23
  have p1 : ∀ (h : Nat) (r : List UInt8), (part 22 (rc h r).toArray 0).run Tryd.prog w = .ok (.int .u64 (h : Nat)) w := fun h r => by
    simp [part, Sem.run_bind, ha, Result.andThen_ok, rc, Sem.run_pure]
  have p2 : ∀ (h : Nat) (r : List UInt8), r.length = 16 → (part 23 (rc h r).toArray 1).run Tryd.prog w = .ok (.agg (bv r).toArray) w := fun h r hr => by
    have e : (rc h r).toArray.extract 1 (1 + 16) = (bv r).toArray := by
      rw [List.extract_toArray]
      congr 1
      show List.take 16 (bv r) = bv r
      rw [List.take_of_length_le (by rw [bv_length]; omega)]
    unfold part
    simp only [Sem.run_bind, hb, hz, Result.andThen_ok, if_true, e, Sem.run_pure]
  rw [show d + 3 = (d + 2) + 1 from rfl, run_equalIn_struct w (d + 2) 25 _ _ revU revHeld, revFields]
  obtain ⟨C, hC⟩ : ∃ C, (rc g s).toArray = C := ⟨_, rfl⟩
  obtain ⟨C', hC'⟩ : ∃ C, (rc g' s').toArray = C := ⟨_, rfl⟩
  have q1 := p1 g s
  have q1' := p1 g' s'
  have q2 := p2 g s hs
  have q2' := p2 g' s' hs'
  rw [hC] at q1 q2 ⊢
  rw [hC'] at q1' q2' ⊢
  have e0 := run_equalIn_int w (d + 1) 22 .u64 .u64 (g : Nat) (g' : Nat) Tryd.underlying22
  have e1 := eq_arr s s' hs hs' d w
  clear p1 p2 hC hC' ha hb hz
  have n1 : ("Gen" ≠ "_") := by decide
  have n2 : ("Sum" ≠ "_") := by decide
  have e3 : (((g : Nat) : Int) == ((g' : Nat) : Int)) = decide (g = g') := by
    rw [Bool.eq_iff_iff, beq_iff_eq, decide_eq_true_eq]
    omega
  rw [Op.eqFields, if_pos n1, Sem.run_bind, q1, Result.andThen_ok, Sem.run_bind, q1', Result.andThen_ok, Sem.run_bind, e0, Result.andThen_ok, e3]
  by_cases h1 : g = g'
  · rw [decide_eq_true h1, if_neg (by decide), Op.eqFields, if_pos n2, Sem.run_bind, q2, Result.andThen_ok, Sem.run_bind, q2', Result.andThen_ok, Sem.run_bind, e1, Result.andThen_ok]
    by_cases h2 : s = s'
    · rw [decide_eq_true h2, if_neg (by decide), Op.eqFields, Sem.run_pure, decide_eq_true ⟨h1, h2⟩]
    · rw [decide_eq_false h2, if_pos (by decide), Sem.run_pure, decide_eq_false (fun h => h2 h.2)]
  · rw [decide_eq_false h1, if_pos (by decide), Sem.run_pure, decide_eq_false (fun h => h1 h.1)]
theorem eq_rev (g g' : Nat) (s s' : List UInt8) (hs : s.length = 16) (hs' : s'.length = 16) (w : World) : (Op.equalIn 10000 25 (.agg (rc g s).toArray) (.agg (rc g' s').toArray)).run Tryd.prog w = .ok (decide (g = g' ∧ s = s')) w := eq_revd 9997 g g' s s' hs hs' w
theorem run_eql_rev (g g' : Nat) (s s' : List UInt8) (hs : s.length = 16) (hs' : s'.length = 16) (w : World) : (binOp .eql 25 (.agg (rc g s).toArray) (.agg (rc g' s').toArray)).run Tryd.prog w = .ok (.bool (decide (g = g' ∧ s = s'))) w := by
  rw [run_eql_struct, eq_rev g g' s s' hs hs' w]
  rfl
theorem run_neq_rev (g g' : Nat) (s s' : List UInt8) (hs : s.length = 16) (hs' : s'.length = 16) (w : World) : (binOp .neq 25 (.agg (rc g s).toArray) (.agg (rc g' s').toArray)).run Tryd.prog w = .ok (.bool (!decide (g = g' ∧ s = s'))) w := by
  rw [run_neq_struct, eq_rev g g' s s' hs hs' w]
  rfl
end Go.Proofs.YtjaocgmicdnghaaDoor
