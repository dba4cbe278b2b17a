/-
  A REGION IN THE ORDER OF THE TEXT, GUARDED OPERATIONS TOO, over whatever program. No program is named here.
-/
import Derived.Test.YtjaocgmicdnghaaGreatDoorPar2
namespace Go.Proofs.YtjaocgmicdnghaaGreatDoor
set_option linter.unusedSimpArgs false
set_option linter.unusedVariables false
open Go Go.RowKit
/-- The operations that each one waits for, at once or by others: a number's bits. -/
def msOk (md : Region.Mode) (ops : Array Oper) (ms : List Nat) : Bool :=
  (List.range ops.size).all fun i => match ops[i]? with
    | none => true
    | some o => (o.after.toList.all fun e => !Region.binds md e || decide (e.on < i)) && ms.getD i 0 == o.after.toList.foldl (fun m e => if Region.binds md e then (m ||| 2 ^ e.on) ||| ms.getD e.on 0 else m) 0
def Anc (ms : List Nat) (i j : Nat) : Bool := (ms.getD i 0).testBit j
theorem fold_bit {α : Type} (b : α → Bool) (f g : α → Nat) (j : Nat) : ∀ (l : List α) (m : Nat), (l.foldl (fun m e => if b e then (m ||| 2 ^ f e) ||| g e else m) m).testBit j = true → m.testBit j = true ∨ ∃ e ∈ l, b e = true ∧ (j = f e ∨ (g e).testBit j = true)
  | [], m, h => .inl h
  | x :: r, m, h => by
    rcases fold_bit b f g j r _ h with h1 | ⟨e, he, h2⟩
    · dsimp only at h1
      by_cases hb : b x = true
      · rw [if_pos hb, Nat.testBit_or, Nat.testBit_or, Nat.testBit_two_pow, Bool.or_eq_true, Bool.or_eq_true, decide_eq_true_eq] at h1
        rcases h1 with (h1 | h1) | h1
        · exact .inl h1
        · exact .inr ⟨x, by simp, hb, .inl h1.symm⟩
        · exact .inr ⟨x, by simp, hb, .inr h1⟩
      · rw [if_neg hb] at h1
        exact .inl h1
    · exact .inr ⟨e, by simp [he], h2⟩
theorem closed_anc {md : Region.Mode} {ops : Array Oper} {ms : List Nat} {listed : Array Bool} (hm : msOk md ops ms = true) (hc : Closed md ops listed) :
    ∀ {i j : Nat} {o : Oper}, ops[i]? = some o → (∀ e ∈ o.after, Region.binds md e = true → listed.getD e.on false = true) → Anc ms i j = true → listed.getD j false = true := by
  intro i
  induction i using Nat.strongRecOn with
  | _ i ih =>
    intro j o ho ha h
    have hi : i < ops.size := by
      rcases Nat.lt_or_ge i ops.size with h | h
      · exact h
      · rw [Array.getElem?_eq_none h] at ho
        cases ho
    have h1 := List.all_eq_true.1 hm i (List.mem_range.2 hi)
    simp only [ho, Bool.and_eq_true, beq_iff_eq] at h1
    obtain ⟨h2, h3⟩ := h1
    unfold Anc at h
    rw [h3] at h
    rcases fold_bit _ _ _ j _ _ h with h4 | ⟨e, he, hb, h5⟩
    · simp at h4
    · have hme : e ∈ o.after := by simpa using he
      have hl := ha e hme hb
      rcases h5 with h5 | h5
      · rw [h5]; exact hl
      · have hlt := List.all_eq_true.1 h2 e he
        simp only [hb, Bool.not_true, Bool.false_or, decide_eq_true_eq] at hlt
        cases ho2 : ops[e.on]? with
        | none =>
          rw [Array.getElem?_eq_none_iff] at ho2
          omega
        | some o2 => exact ih e.on hlt ho2 (fun e2 he2 hb2 => hc e.on o2 hl ho2 e2 he2 hb2) h5
/-- What is asked of the region, once: its first k operations have temporaries of their own; who looks at one of these waits for it; the others wait for all of these. -/
def parOg (md : Region.Mode) (ops : Array Oper) (ms : List Nat) (k size : Nat) : Bool :=
  (msOk md ops ms && decide (k ≤ ops.size)) &&
  ((List.range k).all fun i => match ops[i]? with
    | none => false
    | some o => (match o.guard with | none => true | some (j, _) => decide (j < i) && Anc ms i j) && (match o.op with | .select .. => false | .defer .. => false | _ => true) &&
      (match o.dst with
        | none => false
        | some d => decide (d < size) && (List.range k).all fun j => j == i || (match ops[j]? with
          | none => true
          | some o2 => o2.dst != some d && ((!o2.op.operands.any fun | .tmp t => t == d | _ => false) || (decide (i < j) && Anc ms j i) || (decide (j < i) && Anc ms i j)))) &&
      (o.op.operands.all fun | .tmp t => o.dst != some t | _ => true) &&
      o.after.all fun e => !Region.binds md e || decide (e.on < i)) &&
  ((List.range ops.size).all fun j => decide (j < k) || (List.range k).all fun i => Anc ms j i)

theorem parOg_op {md : Region.Mode} {ops : Array Oper} {ms : List Nat} {k size : Nat} (h : parOg md ops ms k size = true) {i : Nat} (hi : i < k) :
    ∃ o d, ops[i]? = some o ∧ (∀ j b, o.guard = some (j, b) → j < i ∧ Anc ms i j = true) ∧ (∀ cs b, o.op ≠ .select cs b) ∧ (∀ c, o.op ≠ .defer c) ∧ o.dst = some d ∧ d < size ∧
      (∀ j o2, j < k → j ≠ i → ops[j]? = some o2 → o2.dst ≠ some d ∧ ((.tmp d) ∈ o2.op.operands → (i < j ∧ Anc ms j i = true) ∨ (j < i ∧ Anc ms i j = true))) ∧
      (.tmp d) ∉ o.op.operands ∧ ∀ e ∈ o.after, Region.binds md e = true → e.on < i := by
  unfold parOg at h
  simp only [Bool.and_eq_true] at h
  have h1 := List.all_eq_true.1 h.1.2 i (List.mem_range.2 hi)
  cases ho : ops[i]? with
  | none => simp [ho] at h1
  | some o =>
    simp only [ho, Bool.and_eq_true] at h1
    obtain ⟨⟨⟨⟨hg, hs⟩, hd⟩, hown⟩, haft⟩ := h1
    cases hdst : o.dst with
    | none => simp [hdst] at hd
    | some d =>
      simp only [hdst, Bool.and_eq_true] at hd
      refine ⟨o, d, rfl, fun j b e => by simpa [e] using hg, ?_, ?_, hdst, of_decide_eq_true hd.1, ?_, ?_, ?_⟩
      · intro cs b e; simp [e] at hs
      · intro c e; simp [e] at hs
      · intro j o2 hj hne ho2
        have h2 := List.all_eq_true.1 hd.2 j (List.mem_range.2 hj)
        simp only [ho2, Bool.or_eq_true, beq_iff_eq, hne, false_or, Bool.and_eq_true, bne_iff_ne, ne_eq, decide_eq_true_eq, Bool.not_eq_true'] at h2
        refine ⟨h2.1, fun hm => ?_⟩
        rcases h2.2 with (h3 | h3) | h3
        · rw [Array.any_eq_false] at h3
          obtain ⟨n, hn, he⟩ := Array.mem_iff_getElem.1 hm
          have := h3 n hn
          rw [he] at this
          simp at this
        · exact .inl h3
        · exact .inr h3
      · intro hm
        rw [Array.all_eq_true] at hown
        obtain ⟨n, hn, he⟩ := Array.mem_iff_getElem.1 hm
        have := hown n hn
        rw [he] at this
        simp [hdst] at this
      · intro e he hb
        rw [Array.all_eq_true] at haft
        obtain ⟨n, hn, hee⟩ := Array.mem_iff_getElem.1 he
        have := haft n hn
        rw [hee] at this
        simpa [hb] using this
theorem parOg_ms {md : Region.Mode} {ops : Array Oper} {ms : List Nat} {k size : Nat} (h : parOg md ops ms k size = true) : msOk md ops ms = true := by
  unfold parOg at h
  simp only [Bool.and_eq_true] at h
  exact h.1.1.1
theorem parOg_tail {md : Region.Mode} {ops : Array Oper} {ms : List Nat} {k size : Nat} (h : parOg md ops ms k size = true) {i j : Nat} (hi : i < k) (hj : j < ops.size) (hk : k ≤ j) : Anc ms j i = true := by
  unfold parOg at h
  simp only [Bool.and_eq_true] at h
  have h1 := List.all_eq_true.1 h.2 j (List.mem_range.2 hj)
  simp only [Bool.or_eq_true, decide_eq_true_eq] at h1
  rcases h1 with h1 | h1
  · omega
  · exact List.all_eq_true.1 h1 i (List.mem_range.2 hi)
theorem parOg_le {md : Region.Mode} {ops : Array Oper} {ms : List Nat} {k size : Nat} (h : parOg md ops ms k size = true) : k ≤ ops.size := by
  unfold parOg at h
  simp only [Bool.and_eq_true] at h
  exact of_decide_eq_true h.1.1.2

/-- The frame where just the listed operations have come up. -/
structure Lyke (ops : Array Oper) (k : Nat) (val : Nat → Value) (l : Nat → Bool) (a0 a : Act) : Prop where
  d : a.defers = a0.defers
  s : a.tmps.size = a0.tmps.size
  o : ∀ i o d, i < k → ops[i]? = some o → o.dst = some d → a.tmps[d]? = if l i then some (val i) else a0.tmps[d]?
  r : ∀ t, (∀ i o, i < k → ops[i]? = some o → o.dst ≠ some t) → a.tmps[t]? = a0.tmps[t]?
section
variable {md : Region.Mode} {ops : Array Oper} {ms : List Nat} {k : Nat} {a0 : Act}
theorem Lyke.put {val : Nat → Value} {l : Nat → Bool} {a : Act} (hp : parOg md ops ms k a0.tmps.size = true) (h : Lyke ops k val l a0 a) {i : Nat} (hi : i < k) {o : Oper} (ho : ops[i]? = some o) (v : Value) :
    Lyke ops k (fun j => if j = i then v else val j) (fun j => j == i || l j) a0 (a.put o.dst v) := by
  obtain ⟨o', d, ho', _, _, _, hd, hds, hall, _, _⟩ := parOg_op hp hi
  rw [ho] at ho'
  cases ho'
  rw [hd]
  refine ⟨h.d, by simp [Act.put, h.s], fun j o2 d2 hj ho2 hd2 => ?_, fun t ht => ?_⟩
  · by_cases hji : j = i
    · subst hji
      rw [ho] at ho2
      cases ho2
      rw [hd] at hd2
      cases hd2
      simp [Act.put, h.s, hds]
    · have hne := (hall j o2 hj hji ho2).1
      have hdd : d ≠ d2 := fun e => hne (by rw [hd2, e])
      have := h.o j o2 d2 hj ho2 hd2
      simp only [Act.put, Array.getElem?_setIfInBounds_ne hdd, this]
      simp [hji]
  · have hdt : d ≠ t := fun e => ht i o hi ho (by rw [hd, e])
    simp only [Act.put, Array.getElem?_setIfInBounds_ne hdt]
    exact h.r t ht
theorem lyke_putAll (hp : parOg md ops ms k a0.tmps.size = true) (val : Nat → Value) : ∀ m, m ≤ k → Lyke ops k val (fun j => decide (j < m)) a0 (putAll ops val a0 m)
  | 0, _ => ⟨rfl, rfl, fun _ _ _ _ _ _ => by simp [putAll], fun _ _ => rfl⟩
  | m + 1, hm => by
    obtain ⟨o, d, ho, _, _, _, hd, hds, _, _, _⟩ := parOg_op hp (show m < k by omega)
    have h := (lyke_putAll hp val m (by omega)).put hp (show m < k by omega) ho (val m)
    have e1 : (fun j => if j = m then val m else val j) = val := by
      funext j
      by_cases hj : j = m
      · rw [if_pos hj, hj]
      · rw [if_neg hj]
    have e2 : (fun j => j == m || decide (j < m)) = fun j => decide (j < m + 1) := by
      funext j
      rw [Bool.eq_iff_iff]
      simp
      omega
    rw [e1, e2] at h
    simpa [putAll, ho] using h
theorem Lyke.ext {val val' : Nat → Value} {l l' : Nat → Bool} {a a' : Act} (h : Lyke ops k val l a0 a) (h' : Lyke ops k val' l' a0 a') (he : ∀ i, i < k → l i = l' i ∧ (l i = true → val i = val' i)) : a = a' := by
  obtain ⟨T, D⟩ := a
  obtain ⟨T', D'⟩ := a'
  have hd : D = D' := h.d.trans h'.d.symm
  subst hd
  have ht : T = T' := by
    apply Array.ext_getElem?
    intro t
    by_cases hx : ∃ i o, i < k ∧ ops[i]? = some o ∧ o.dst = some t
    · obtain ⟨i, o, hi, ho, hd⟩ := hx
      have h1 := h.o i o t hi ho hd
      have h2 := h'.o i o t hi ho hd
      obtain ⟨e1, e2⟩ := he i hi
      rw [← e1] at h2
      cases hl : l i with
      | true => rw [hl] at h1 h2; simp only [if_true] at h1 h2; rw [e2 hl] at h1; exact h1.trans h2.symm
      | false => rw [hl] at h1 h2; simp only [Bool.false_eq_true, if_false] at h1 h2; exact h1.trans h2.symm
    · have hx' : ∀ i o, i < k → ops[i]? = some o → o.dst ≠ some t := fun i o hi ho hd => hx ⟨i, o, hi, ho, hd⟩
      exact (h.r t hx').trans (h'.r t hx').symm
  subst ht
  rfl
/-- What an operation that is ready looks at is as it is in the order of the text. -/
theorem Lyke.looks {val : Nat → Value} {listed : Array Bool} {a : Act} (hp : parOg md ops ms k a0.tmps.size = true) (hc : Closed md ops listed) (h : Lyke ops k val (fun j => listed.getD j false) a0 a) {i : Nat} (hi : i < k) {o : Oper} (ho : ops[i]? = some o)
    (hr : ∀ e ∈ o.after, Region.binds md e = true → listed.getD e.on false = true) (hn : listed.getD i false = false) : ∀ x ∈ o.op.operands, a.eval x = (putAll ops val a0 i).eval x := by
  intro x hx
  cases x with
  | tmp t =>
    have hb := lyke_putAll hp val i (by omega)
    show a.tmps.getD t undef = (putAll ops val a0 i).tmps.getD t undef
    rw [Array.getD_eq_getD_getElem?, Array.getD_eq_getD_getElem?]
    congr 1
    by_cases hx2 : ∃ j o2, j < k ∧ ops[j]? = some o2 ∧ o2.dst = some t
    · obtain ⟨j, o2, hj, ho2, hd⟩ := hx2
      have h1 := h.o j o2 t hj ho2 hd
      have h2 := hb.o j o2 t hj ho2 hd
      obtain ⟨o3, d3, ho3, _, _, _, hd3, _, hall, hself, _⟩ := parOg_op hp hj
      rw [ho2] at ho3
      cases ho3
      rw [hd] at hd3
      cases hd3
      by_cases hij : i = j
      · subst hij
        rw [ho] at ho2
        cases ho2
        exact absurd hx hself
      · rcases (hall i o hi hij ho).2 hx with ⟨h3, h4⟩ | ⟨h3, h4⟩
        · have hl := closed_anc (parOg_ms hp) hc ho hr h4
          rw [h1, h2, hl]
          simp [h3]
        · have hl : listed.getD j false = false := by
            cases hl : listed.getD j false with
            | false => rfl
            | true =>
              have := closed_anc (parOg_ms hp) hc ho2 (fun e he hb => hc j o2 hl ho2 e he hb) h4
              rw [hn] at this
              cases this
          rw [h1, h2, hl]
          simp [show ¬ j < i by omega]
    · have hx' : ∀ j o2, j < k → ops[j]? = some o2 → o2.dst ≠ some t := fun j o2 hj ho2 hd => hx2 ⟨j, o2, hj, ho2, hd⟩
      exact (h.r t hx').trans (hb.r t hx').symm
  | _ => rfl
end

/-- Nor does it find its guard otherwise. -/
theorem Lyke.guards {md : Region.Mode} {ops : Array Oper} {ms : List Nat} {k : Nat} {a0 : Act} {val : Nat → Value} {listed : Array Bool} {a : Act} (hp : parOg md ops ms k a0.tmps.size = true) (hc : Closed md ops listed) (h : Lyke ops k val (fun j => listed.getD j false) a0 a) {i : Nat} (hi : i < k) {o : Oper} (ho : ops[i]? = some o)
    (hr : ∀ e ∈ o.after, Region.binds md e = true → listed.getD e.on false = true) (hg : ∀ j b, o.guard = some (j, b) → j < i ∧ Anc ms i j = true) : Region.wanted o (yielded ops a.tmps) = Region.wanted o (yielded ops (putAll ops val a0 i).tmps) := by
  unfold Region.wanted
  cases hgd : o.guard with
  | none => rfl
  | some x =>
    obtain ⟨j, b⟩ := x
    obtain ⟨h1, h2⟩ := hg j b hgd
    have hl := closed_anc (parOg_ms hp) hc ho hr h2
    obtain ⟨o2, d, ho2, _, _, _, hd, _⟩ := parOg_op hp (show j < k by omega)
    have e1 := h.o j o2 d (by omega) ho2 hd
    have e2 := (lyke_putAll hp val i (by omega)).o j o2 d (by omega) ho2 hd
    rw [hl] at e1
    have h1' : decide (j < i) = true := decide_eq_true h1
    rw [h1'] at e2
    simp only [yielded, ho2, Option.bind_some, hd, e1, e2]

section
variable {F : Fence} {n : Nat} {P : Program} {md : Region.Mode} {ops : Array Oper} {ms : List Nat} {Q : Exit → Act → World → Prop}
/-- An operation that runs to its end in one frame does so in another one that it can't tell from that. -/
theorem op_movesG {i : Nat} {o : Oper} {d : Tmp} {a b : Act} {w : World} {X : Value → World → Prop} {K : Act → World → Prop} (ho : ops[i]? = some o) (hg : Region.wanted o (yielded ops a.tmps) = Region.wanted o (yielded ops b.tmps)) (hs : ∀ cs b, o.op ≠ .select cs b) (hdf : ∀ c, o.op ≠ .defer c)
    (hd : o.dst = some d) (hds : d < b.tmps.size) (he : ∀ x ∈ o.op.operands, a.eval x = b.eval x)
    (h : ∀ K : Act → World → Prop, (∀ v w', X v w' → K (b.put o.dst v) w') → wpOpIn F n P ops (fun _ _ _ => False) i K b w) (hk : ∀ v w', X v w' → K (a.put o.dst v) w') : wpOpIn F n P ops Q i K a w := by
  have h1 := h (fun a' w' => a'.defers = b.defers ∧ ∃ v, a'.tmps[d]? = some v ∧ X v w') (fun v w' hx => ⟨by rw [hd]; rfl, v, by rw [hd]; simp [Act.put, hds], hx⟩)
  have hv : ∀ v v' : Value, (b.put o.dst v).tmps[d]? = some v' → v = v' := fun v v' e => by
    rw [hd] at e
    simpa [Act.put, hds] using e
  unfold wpOpIn at *
  simp only [ho, hg] at *
  by_cases hwt : Region.wanted o (yielded ops b.tmps) = true
  case neg =>
    rw [if_neg hwt] at h1 ⊢
    refine ⟨by rw [about_congr o w he]; exact h1.1, ?_⟩
    obtain ⟨_, v', e, x⟩ := h1.2
    have := hv undef v' e
    subst this
    exact hk _ _ x
  rw [if_pos hwt] at h1 ⊢
  unfold Oper.wpIn at *
  obtain ⟨ha, h1⟩ := h1
  refine ⟨by rw [about_congr o w he]; exact ha, ?_⟩
  rw [Oper.semAt_plain F _ _ hdf] at *
  rw [execOp_congr o hs he]
  have hx : ∀ (v : Value) (w' : World), (∃ v', (b.put o.dst v).tmps[d]? = some v' ∧ X v' w') → K (a.put o.dst v) w' := fun v w' ⟨v', e, x⟩ => by
    have := hv v v' e
    subst this
    exact hk _ _ x
  generalize (execOp b.eval o).run P w = r at *
  cases r with
  | ok x w' =>
    cases x with
    | value v => exact hx v w' h1.2
    | skip => exact hx undef w' h1.2
    | defer d2 =>
      exfalso
      have h2 := h1.1
      rw [hd] at h2
      have := congrArg List.length h2
      simp [Act.put] at this
    | enter f args =>
      refine ⟨h1.1, CallsIn.mono h1.2 (fun e w'' hh => ?_)⟩
      cases e with
      | returned v => exact hx v w'' hh.2
      | panicked c => exact hh.elim
      | outgrown => exact absurd hh (by unfold LetsOut; simp)
    | row r args => exact ⟨h1.1, RowsIn.mono h1.2 (fun v w'' hh => hx v w'' hh.2)⟩
    | round l f tmps assign body =>
      refine ⟨h1.1, RoundIn.mono h1.2 (fun e w'' hh => ?_)⟩
      cases e with
      | returned v => exact hx v w'' hh.2
      | panicked c => exact hh.elim
      | outgrown => exact absurd hh (by unfold LetsOut; simp)
    | _ => exact h1.elim
  | halt x w' => cases x <;> exact h1.elim

/-- **The same; Fp: what holds of a value in the world ahead of its operation.** -/
theorem wpAnyIn_parG {k : Nat} {a0 : Act} {w0 : World} (G : World → World → Prop) (Xs Fp : Nat → Value → World → Prop) (hp : parOg md ops ms k a0.tmps.size = true)
    (hG : ∀ a b c, G a b → G b c → G a c)
    (hX : ∀ i v w w', G w w' → Xs i v w → Xs i v w')
    (hop : ∀ i, i < k → ∀ val w, G w0 w → (∀ j, j < k → Anc ms i j = true → Xs j (val j) w) → ∀ K : Act → World → Prop, (∀ v w', G w w' → Xs i v w' → Fp i v w → K ((putAll ops val a0 i).put ((ops[i]?).bind (·.dst)) v) w') → wpOpIn F n P ops (fun _ _ _ => False) i K (putAll ops val a0 i) w)
    (hend : ∀ val w listed, G w0 w → (∀ i, i < k → Xs i (val i) w) → (∀ i j, i < k → j < k → i ≠ j → Met G Xs Fp w0 val i j) → listed.size = ops.size → (∀ i, listed.getD i false = decide (i < k)) → wpAnyIn F n P md ops Q (ops.size - k) listed (putAll ops val a0 k) w) :
    ∀ (m : Nat) (listed : Array Bool) (val : Nat → Value) (a : Act) (w : World), left k listed + (ops.size - k) = m → G w0 w → listed.size = ops.size → (∀ i, k ≤ i → listed.getD i false = false) → Closed md ops listed →
      Lyke ops k val (fun j => listed.getD j false) a0 a → (∀ i, i < k → listed.getD i false = true → Xs i (val i) w) → (∀ i j, i < k → j < k → i ≠ j → listed.getD i false = true → listed.getD j false = true → Met G Xs Fp w0 val i j) → wpAnyIn F n P md ops Q m listed a w := by
  intro m
  have hkle := parOg_le hp
  induction m with
  | zero =>
    intro listed val a w hm hg hsz hhi hc hl hr hmt
    have hall := left_zero (k := k) (listed := listed) (by omega)
    have hlist : ∀ i, listed.getD i false = decide (i < k) := fun i => by
      by_cases h : i < k
      · rw [hall i h]; simp [h]
      · rw [hhi i (by omega)]; simp [h]
    have ha : a = putAll ops val a0 k := hl.ext (lyke_putAll hp val k (Nat.le_refl _)) (fun i hi => ⟨hlist i, fun _ => rfl⟩)
    have := hend val w listed hg (fun i hi => hr i hi (hall i hi)) (fun i j hi hj hij => hmt i j hi hj hij (hall i hi) (hall j hj)) hsz hlist
    rw [show ops.size - k = 0 by omega] at this
    rw [ha]
    exact this
  | succ m ih =>
    intro listed val a w hm hg hsz hhi hc hl hr hmt
    by_cases h0 : left k listed = 0
    · have hall := left_zero h0
      have hlist : ∀ i, listed.getD i false = decide (i < k) := fun i => by
        by_cases h : i < k
        · rw [hall i h]; simp [h]
        · rw [hhi i (by omega)]; simp [h]
      have ha : a = putAll ops val a0 k := hl.ext (lyke_putAll hp val k (Nat.le_refl _)) (fun i hi => ⟨hlist i, fun _ => rfl⟩)
      have := hend val w listed hg (fun i hi => hr i hi (hall i hi)) (fun i j hi hj hij => hmt i j hi hj hij (hall i hi) (hall j hj)) hsz hlist
      rw [show ops.size - k = m + 1 by omega] at this
      rw [ha]
      exact this
    · have hready : ∀ i, i ∈ Region.ready md ops listed ↔ listed.getD i true = false ∧ ∃ o, ops[i]? = some o ∧ ∀ e ∈ o.after, Region.binds md e = true → listed.getD e.on false = true := fun i => mem_ready
      refine ⟨fun hnil => ?_, fun i hi => ?_⟩
      · exfalso
        obtain ⟨i, hik, hlf, hlow⟩ := left_some h0
        obtain ⟨o, d, ho, _, _, _, _, _, _, _, haft⟩ := parOg_op hp hik
        have hm : i ∈ Region.ready md ops listed := (hready i).2 ⟨by
          rw [Array.getD_eq_getD_getElem?, Array.getElem?_eq_getElem (by omega)] at hlf ⊢
          exact hlf, o, ho, fun e he hb => hlow _ (haft e he hb)⟩
        rw [hnil] at hm
        cases hm
      · obtain ⟨hun, o, ho, hdeps⟩ := (hready i).1 hi
        have hisz : i < listed.size := by
          rcases Nat.lt_or_ge i listed.size with h | h
          · exact h
          · rw [Array.getD_eq_getD_getElem?, Array.getElem?_eq_none h] at hun
            cases hun
        have hlf : listed.getD i false = false := by
          rw [Array.getD_eq_getD_getElem?, Array.getElem?_eq_getElem hisz] at hun ⊢
          exact hun
        have hik : i < k := by
          rcases Nat.lt_or_ge i k with h | h
          · exact h
          · exfalso
            obtain ⟨j, hj, hjl, _⟩ := left_some h0
            have := closed_anc (parOg_ms hp) hc ho hdeps (parOg_tail hp hj (by omega) h)
            rw [hjl] at this
            cases this
        obtain ⟨o', d, ho', hgd, hs, hdf, hd, hds, hall, _, haft⟩ := parOg_op hp hik
        rw [ho] at ho'
        cases ho'
        have hb := lyke_putAll hp val i (by omega)
        refine op_movesG (X := fun v w' => G w w' ∧ Xs i v w' ∧ Fp i v w) ho (hl.guards hp hc hik ho hdeps hgd) hs hdf hd (by rw [hb.s]; exact hds) (hl.looks hp hc hik ho hdeps hlf) (fun K hK => ?_) (fun v w' hx => ?_)
        · refine hop i hik val w hg (fun j hj hw => hr j hj (closed_anc (parOg_ms hp) hc ho hdeps hw)) K (fun v w' h1 h2 h3 => ?_)
          have := hK v w' ⟨h1, h2, h3⟩
          simpa [ho] using this
        · obtain ⟨hgw, hRi, hFi⟩ := hx
          have hl' := hl.put hp hik ho v
          refine ih (listed.setIfInBounds i true) (fun j => if j = i then v else val j) _ w' ?_ (hG _ _ _ hg hgw) (by simp [hsz]) ?_ ?_ ?_ ?_ ?_
          · have := left_set hik hisz hlf
            omega
          · intro j hj
            rw [getD_set hisz, hhi j hj]
            simp
            omega
          · intro j o2 hjl ho2 e he hbd
            rw [getD_set hisz] at hjl ⊢
            simp only [Bool.or_eq_true, beq_iff_eq] at hjl ⊢
            rcases hjl with rfl | hjl
            · rw [ho] at ho2
              cases ho2
              exact .inr (hdeps e he hbd)
            · exact .inr (hc j o2 hjl ho2 e he hbd)
          · have e : (fun j => (listed.setIfInBounds i true).getD j false) = fun j => j == i || listed.getD j false := funext fun j => getD_set hisz
            rw [e]
            exact hl'
          · intro j hj hjl
            rw [getD_set hisz] at hjl
            simp only [Bool.or_eq_true, beq_iff_eq] at hjl
            by_cases hji : j = i
            · subst hji
              simpa using hRi
            · have hjl2 : listed.getD j false = true := by rcases hjl with h | h; exact absurd h hji; exact h
              simpa [hji] using hX j _ w w' hgw (hr j hj hjl2)
          · intro p q hp1 hq1 hpq hpl hql
            rw [getD_set hisz] at hpl hql
            simp only [Bool.or_eq_true, beq_iff_eq] at hpl hql
            by_cases hpi : p = i
            · subst hpi
              have hqi : q ≠ p := fun e => hpq e.symm
              have hql2 : listed.getD q false = true := by rcases hql with h | h; exact absurd h hqi; exact h
              exact .inl ⟨w, hg, by simpa using hFi, by simpa [hqi] using hr q hq1 hql2⟩
            · have hpl2 : listed.getD p false = true := by rcases hpl with h | h; exact absurd h hpi; exact h
              by_cases hqi : q = i
              · subst hqi
                exact .inr ⟨w, hg, by simpa using hFi, by simpa [hpi] using hr p hp1 hpl2⟩
              · have hql2 : listed.getD q false = true := by rcases hql with h | h; exact absurd h hqi; exact h
                have := hmt p q hp1 hq1 hpq hpl2 hql2
                simpa [Met, hpi, hqi] using this

/-- The operations in the order of the text, each with its fact, and what holds of its value in the world ahead of it. -/
def factWalkG (F : Fence) (n : Nat) (P : Program) (ms : List Nat) (ops : Array Oper) (G : World → World → Prop) (w0 : World) (Xs Fp : Nat → Value → World → Prop) : Nat → List Oper → (Nat → Value) → Act → ((Nat → Value) → Act → Prop) → Prop
  | _, [], val, a, K => K val a
  | i, o :: rest, val, a, K => (∀ w, G w0 w → (∀ j, j < i → Anc ms i j = true → Xs j (val j) w) → ∀ K' : Act → World → Prop, (∀ v w', G w w' → Xs i v w' → Fp i v w → K' (a.put o.dst v) w') → if Region.wanted o (yielded ops a.tmps) then o.wpIn F n P a w K' (fun _ _ _ => False) else (∀ f, o.about P w a.eval = some f → F.fn f) ∧ K' (a.put o.dst undef) w) ∧
      ∀ v, factWalkG F n P ms ops G w0 Xs Fp (i + 1) rest (fun q => if q = i then v else val q) (a.put o.dst v) K
section
variable {G : World → World → Prop} {w0 : World} {Xs Fp : Nat → Value → World → Prop}
theorem factWalkG_nil {i : Nat} {val : Nat → Value} {a : Act} {K : (Nat → Value) → Act → Prop} (h : K val a) : factWalkG F n P ms ops G w0 Xs Fp i [] val a K := h
theorem factWalkG_cons {i : Nat} {o : Oper} {rest : List Oper} {val : Nat → Value} {a : Act} {K : (Nat → Value) → Act → Prop}
    (h1 : ∀ w, G w0 w → (∀ j, j < i → Anc ms i j = true → Xs j (val j) w) → ∀ K' : Act → World → Prop, (∀ v w', G w w' → Xs i v w' → Fp i v w → K' (a.put o.dst v) w') → Region.wanted o (yielded ops a.tmps) = true ∧ o.wpIn F n P a w K' (fun _ _ _ => False))
    (h3 : ∀ v, factWalkG F n P ms ops G w0 Xs Fp (i + 1) rest (fun q => if q = i then v else val q) (a.put o.dst v) K) : factWalkG F n P ms ops G w0 Xs Fp i (o :: rest) val a K := ⟨fun w hw hf K' hK' => by rw [if_pos (h1 w hw hf K' hK').1]; exact (h1 w hw hf K' hK').2, h3⟩
theorem fact_valsG {a0 : Act} {K : (Nat → Value) → Act → Prop} : ∀ (m k : Nat) (val val' : Nat → Value), m + k ≤ ops.size → (∀ j, j < k → val j = val' j) → factWalkG F n P ms ops G w0 Xs Fp k ((ops.toList.drop k).take m) val (putAll ops val' a0 k) K →
    (∀ i, k ≤ i → i < m + k → ∃ o, ops[i]? = some o ∧ ∀ w, G w0 w → (∀ j, j < i → Anc ms i j = true → Xs j (val' j) w) → ∀ K' : Act → World → Prop, (∀ v w', G w w' → Xs i v w' → Fp i v w → K' ((putAll ops val' a0 i).put o.dst v) w') → wpOpIn F n P ops (fun _ _ _ => False) i K' (putAll ops val' a0 i) w) ∧
      ∃ valF, (∀ j, j < m + k → valF j = val' j) ∧ K valF (putAll ops val' a0 (m + k))
  | 0, k, val, val', _, he, h => ⟨fun i h1 h2 => absurd h2 (by omega), val, by simpa using he, by simpa [factWalkG] using h⟩
  | m + 1, k, val, val', hk, he, h => by
    have hlt : k < ops.toList.length := by simp; omega
    rw [List.drop_eq_getElem_cons hlt, List.take_succ_cons] at h
    obtain ⟨hx, hrest⟩ := h
    have hko : ops[k]? = some ops.toList[k] := by simp
    have h2 := hrest (val' k)
    have e1 : putAll ops val' a0 (k + 1) = (putAll ops val' a0 k).put ops.toList[k].dst (val' k) := by
      rw [putAll, hko]
      rfl
    rw [← e1] at h2
    obtain ⟨h3, valF, h4, h5⟩ := fact_valsG m (k + 1) _ val' (by omega) (fun j hj => by
      by_cases hjk : j = k
      · subst hjk; simp
      · rw [if_neg hjk]; exact he j (by omega)) h2
    refine ⟨fun i hi hi2 => ?_, valF, fun j hj => h4 j (by omega), by rw [show m + 1 + k = m + (k + 1) by omega]; exact h5⟩
    by_cases hik : i = k
    · subst hik
      exact ⟨_, hko, fun w hw hf K' hK' => by unfold wpOpIn; simp only [hko]; exact hx w hw (fun j hj hwt => by rw [he j hj]; exact hf j hj hwt) K' hK'⟩
    · exact h3 i (by omega) (by omega)
end
/-- **A region in the order of the text, each operation with its fact; of two, the later one found the other one's.** -/
theorem wpIn_region_factsG {k id : Nat} {a0 : Act} {w0 : World} (G : World → World → Prop) (Xs Fp : Nat → Value → World → Prop) (hm : P.follows .mixedOrders = true) (hp : parOg .any ops ms k a0.tmps.size = true)
    (hrefl : G w0.drew w0.drew) (hG : ∀ a b c, G a b → G b c → G a c) (hX : ∀ i v w w', G w w' → Xs i v w → Xs i v w')
    (h : factWalkG F n P ms ops G w0.drew Xs Fp 0 (ops.toList.take k) (fun _ => undef) a0 fun val aF => ∀ w, G w0.drew w → (∀ i, i < k → Xs i (val i) w) → (∀ i j, i < k → j < k → i ≠ j → Met G Xs Fp w0.drew val i j) → wpAnyIn F n P .any ops Q (ops.size - k) (maskOf k ops.size) aF w) : (Code.region id ops true).wpIn F n P Q a0 w0 := by
  have hle := parOg_le hp
  refine wpIn_region_any hm ?_
  change wpAnyIn _ _ _ _ _ _ _ _ _ (World.drew _)
  have hgd : ∀ j, (Array.replicate ops.size false).getD j false = false := fun j => by
    rw [Array.getD_eq_getD_getElem?, Array.getElem?_replicate]
    split <;> rfl
  refine wpAnyIn_parG G Xs Fp hp hG hX (fun i hi v w hw hr K hK => ?_) (fun v w listed hw hr hmt h3 h4 => ?_) ops.size (Array.replicate ops.size false) (fun _ => undef) a0 w0.drew ?_ hrefl (by simp) (fun i _ => hgd i) ?_ ?_ ?_ ?_
  · obtain ⟨hs, -⟩ := fact_valsG (a0 := a0) k 0 (fun _ => undef) v (by omega) (fun j hj => by omega) h
    obtain ⟨o, ho, hx⟩ := hs i (by omega) (by omega)
    obtain ⟨o', d, ho', hgd, hsl, hdf, hd, hds, hall, hself, haft⟩ := parOg_op hp hi
    rw [ho] at ho'
    cases ho'
    refine hx w hw (fun j hj hwt => hr j (by omega) hwt) K (fun v' w' hg hx' hf' => ?_)
    have := hK v' w' hg hx' hf'
    simpa [ho] using this
  · rw [mask_eq hle h3 h4]
    obtain ⟨-, valF, hv, hK⟩ := fact_valsG (a0 := a0) k 0 (fun _ => undef) v (by omega) (fun j hj => by omega) h
    exact hK w hw (fun i hi => by rw [hv i (by omega)]; exact hr i hi) (fun i j hi hj hij => by
      have := hmt i j hi hj hij
      unfold Met at this ⊢
      rw [hv i (by omega), hv j (by omega)]
      exact this)
  · have : left k (Array.replicate ops.size false) = k := by
      unfold left
      rw [List.countP_eq_length.2 (fun i _ => by rw [hgd i]; rfl), List.length_range]
    omega
  · intro i o hl
    rw [hgd i] at hl
    cases hl
  · exact ⟨rfl, rfl, fun i o d _ _ _ => by rw [hgd i]; rfl, fun _ _ => rfl⟩
  · intro i _ hl
    rw [hgd i] at hl
    cases hl
  · intro i j _ _ _ hl
    rw [hgd i] at hl
    cases hl
end
end Go.Proofs.YtjaocgmicdnghaaGreatDoor
