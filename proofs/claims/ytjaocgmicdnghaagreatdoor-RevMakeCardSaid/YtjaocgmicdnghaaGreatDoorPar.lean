/-
  A REGION THAT DRAWS ITS ORDER, AS IF IN THE ORDER OF THE TEXT, over whatever program: each operation's fact holds on whatever has only grown; no program is named here.
-/
import Derived.Test.YtjaocgmicdnghaaGreatDoorMem
import Derived.OrdersIn
import Derived.OwnWalkIn
namespace Go.Proofs.YtjaocgmicdnghaaGreatDoor
set_option linter.unusedSimpArgs false
set_option linter.unusedVariables false
open Go Go.RowKit

/-- Operation i waits for operation j, at once or by others. -/
def waits (md : Region.Mode) (ops : Array Oper) : Nat → Nat → Nat → Bool
  | 0, _, _ => false
  | f + 1, i, j => match ops[i]? with
    | none => false
    | some o => o.after.any fun e => Region.binds md e && (e.on == j || waits md ops f e.on j)
/-- Is 'listed' closed towards what is waited for? -/
def Closed (md : Region.Mode) (ops : Array Oper) (listed : Array Bool) : Prop :=
  ∀ i o, listed.getD i false = true → ops[i]? = some o → ∀ e ∈ o.after, Region.binds md e = true → listed.getD e.on false = true
theorem closed_waits {md : Region.Mode} {ops : Array Oper} {listed : Array Bool} (hc : Closed md ops listed) {o : Oper} :
    ∀ (f i j : Nat), ops[i]? = some o → (∀ e ∈ o.after, Region.binds md e = true → listed.getD e.on false = true) → waits md ops f i j = true → listed.getD j false = true := by
  intro f
  induction f generalizing o with
  | zero => intro i j _ _ h; simp [waits] at h
  | succ f ih =>
    intro i j ho ha h
    simp only [waits, ho] at h
    rw [Array.any_eq_true] at h
    obtain ⟨x, hx, he⟩ := h
    simp only [Bool.and_eq_true, Bool.or_eq_true, beq_iff_eq] at he
    have hm : o.after[x] ∈ o.after := Array.getElem_mem hx
    have hl := ha _ hm he.1
    rcases he.2 with h1 | h1
    · rw [← h1]; exact hl
    · cases ho2 : ops[o.after[x].on]? with
      | none =>
        cases f with
        | zero => simp [waits] at h1
        | succ f => simp [waits, ho2] at h1
      | some o2 => exact ih _ _ ho2 (fun e he2 hb => hc _ o2 hl ho2 e he2 hb) h1
/-- The values of the operations whose numbers are below k, each in its temporary. -/
def putAll (ops : Array Oper) (val : Nat → Value) (a : Act) : Nat → Act
  | 0 => a
  | k + 1 => (putAll ops val a k).put ((ops[k]?).bind (·.dst)) (val k)
/-- What is asked of the region, once: its first k operations have temporaries of their own; who looks at one of these waits for it; the others wait for all of these. -/
def parOk (md : Region.Mode) (ops : Array Oper) (k size : Nat) : Bool :=
  decide (k ≤ ops.size) &&
  ((List.range k).all fun i => match ops[i]? with
    | none => false
    | some o => (o.guard == none) && (match o.op with | .select .. => false | .defer .. => false | _ => true) &&
      (match o.dst with
        | none => false
        | some d => decide (d < size) && (List.range k).all fun j => j == i || (match ops[j]? with
          | none => true
          | some o2 => o2.dst != some d && ((!o2.op.operands.any fun | .tmp t => t == d | _ => false) || (decide (i < j) && waits md ops ops.size j i) || (decide (j < i) && waits md ops ops.size i j)))) &&
      (o.op.operands.all fun | .tmp t => o.dst != some t | _ => true) &&
      o.after.all fun e => !Region.binds md e || decide (e.on < i)) &&
  ((List.range ops.size).all fun j => decide (j < k) || (List.range k).all fun i => waits md ops ops.size j i)

theorem parOk_op {md : Region.Mode} {ops : Array Oper} {k size : Nat} (h : parOk md ops k size = true) {i : Nat} (hi : i < k) :
    ∃ o d, ops[i]? = some o ∧ o.guard = none ∧ (∀ cs b, o.op ≠ .select cs b) ∧ (∀ c, o.op ≠ .defer c) ∧ o.dst = some d ∧ d < size ∧
      (∀ j o2, j < k → j ≠ i → ops[j]? = some o2 → o2.dst ≠ some d ∧ ((.tmp d) ∈ o2.op.operands → (i < j ∧ waits md ops ops.size j i = true) ∨ (j < i ∧ waits md ops ops.size i j = true))) ∧
      (.tmp d) ∉ o.op.operands ∧ ∀ e ∈ o.after, Region.binds md e = true → e.on < i := by
  unfold parOk at h
  simp only [Bool.and_eq_true] at h
  have h1 := List.all_eq_true.1 h.1.2 i (List.mem_range.2 hi)
  cases ho : ops[i]? with
  | none => simp [ho] at h1
  | some o =>
    simp only [ho, Bool.and_eq_true] at h1
    obtain ⟨⟨⟨⟨hg, hs⟩, hd⟩, hown⟩, haft⟩ := h1
    cases hdst : o.dst with
    | none => simp [hdst] at hd
    | some d =>
      simp only [hdst, Bool.and_eq_true] at hd
      refine ⟨o, d, rfl, by simpa using hg, ?_, ?_, hdst, of_decide_eq_true hd.1, ?_, ?_, ?_⟩
      · intro cs b e; simp [e] at hs
      · intro c e; simp [e] at hs
      · intro j o2 hj hne ho2
        have h2 := List.all_eq_true.1 hd.2 j (List.mem_range.2 hj)
        simp only [ho2, Bool.or_eq_true, beq_iff_eq, hne, false_or, Bool.and_eq_true, bne_iff_ne, ne_eq, decide_eq_true_eq, Bool.not_eq_true'] at h2
        refine ⟨h2.1, fun hm => ?_⟩
        rcases h2.2 with (h3 | h3) | h3
        · rw [Array.any_eq_false] at h3
          obtain ⟨n, hn, he⟩ := Array.mem_iff_getElem.1 hm
          have := h3 n hn
          rw [he] at this
          simp at this
        · exact .inl h3
        · exact .inr h3
      · intro hm
        rw [Array.all_eq_true] at hown
        obtain ⟨n, hn, he⟩ := Array.mem_iff_getElem.1 hm
        have := hown n hn
        rw [he] at this
        simp [hdst] at this
      · intro e he hb
        rw [Array.all_eq_true] at haft
        obtain ⟨n, hn, hee⟩ := Array.mem_iff_getElem.1 he
        have := haft n hn
        rw [hee] at this
        simpa [hb] using this
theorem parOk_tail {md : Region.Mode} {ops : Array Oper} {k size : Nat} (h : parOk md ops k size = true) {i j : Nat} (hi : i < k) (hj : j < ops.size) (hk : k ≤ j) : waits md ops ops.size j i = true := by
  unfold parOk at h
  simp only [Bool.and_eq_true] at h
  have h1 := List.all_eq_true.1 h.2 j (List.mem_range.2 hj)
  simp only [Bool.or_eq_true, decide_eq_true_eq] at h1
  rcases h1 with h1 | h1
  · omega
  · exact List.all_eq_true.1 h1 i (List.mem_range.2 hi)
theorem parOk_le {md : Region.Mode} {ops : Array Oper} {k size : Nat} (h : parOk md ops k size = true) : k ≤ ops.size := by
  unfold parOk at h
  simp only [Bool.and_eq_true] at h
  exact of_decide_eq_true h.1.1

/-- The frame where just the listed operations have come up. -/
structure Like (ops : Array Oper) (k : Nat) (val : Nat → Value) (l : Nat → Bool) (a0 a : Act) : Prop where
  d : a.defers = a0.defers
  s : a.tmps.size = a0.tmps.size
  o : ∀ i o d, i < k → ops[i]? = some o → o.dst = some d → a.tmps[d]? = if l i then some (val i) else a0.tmps[d]?
  r : ∀ t, (∀ i o, i < k → ops[i]? = some o → o.dst ≠ some t) → a.tmps[t]? = a0.tmps[t]?
section
variable {md : Region.Mode} {ops : Array Oper} {k : Nat} {a0 : Act}
theorem Like.put {val : Nat → Value} {l : Nat → Bool} {a : Act} (hp : parOk md ops k a0.tmps.size = true) (h : Like ops k val l a0 a) {i : Nat} (hi : i < k) {o : Oper} (ho : ops[i]? = some o) (v : Value) :
    Like ops k (fun j => if j = i then v else val j) (fun j => j == i || l j) a0 (a.put o.dst v) := by
  obtain ⟨o', d, ho', _, _, _, hd, hds, hall, _, _⟩ := parOk_op hp hi
  rw [ho] at ho'
  cases ho'
  rw [hd]
  refine ⟨h.d, by simp [Act.put, h.s], fun j o2 d2 hj ho2 hd2 => ?_, fun t ht => ?_⟩
  · by_cases hji : j = i
    · subst hji
      rw [ho] at ho2
      cases ho2
      rw [hd] at hd2
      cases hd2
      simp [Act.put, h.s, hds]
    · have hne := (hall j o2 hj hji ho2).1
      have hdd : d ≠ d2 := fun e => hne (by rw [hd2, e])
      have := h.o j o2 d2 hj ho2 hd2
      simp only [Act.put, Array.getElem?_setIfInBounds_ne hdd, this]
      simp [hji]
  · have hdt : d ≠ t := fun e => ht i o hi ho (by rw [hd, e])
    simp only [Act.put, Array.getElem?_setIfInBounds_ne hdt]
    exact h.r t ht
theorem like_putAll (hp : parOk md ops k a0.tmps.size = true) (val : Nat → Value) : ∀ m, m ≤ k → Like ops k val (fun j => decide (j < m)) a0 (putAll ops val a0 m)
  | 0, _ => ⟨rfl, rfl, fun _ _ _ _ _ _ => by simp [putAll], fun _ _ => rfl⟩
  | m + 1, hm => by
    obtain ⟨o, d, ho, _, _, _, hd, hds, _, _, _⟩ := parOk_op hp (show m < k by omega)
    have h := (like_putAll hp val m (by omega)).put hp (show m < k by omega) ho (val m)
    have e1 : (fun j => if j = m then val m else val j) = val := by
      funext j
      by_cases hj : j = m
      · rw [if_pos hj, hj]
      · rw [if_neg hj]
    have e2 : (fun j => j == m || decide (j < m)) = fun j => decide (j < m + 1) := by
      funext j
      rw [Bool.eq_iff_iff]
      simp
      omega
    rw [e1, e2] at h
    simpa [putAll, ho] using h
theorem Like.ext {val val' : Nat → Value} {l l' : Nat → Bool} {a a' : Act} (h : Like ops k val l a0 a) (h' : Like ops k val' l' a0 a') (he : ∀ i, i < k → l i = l' i ∧ (l i = true → val i = val' i)) : a = a' := by
  obtain ⟨T, D⟩ := a
  obtain ⟨T', D'⟩ := a'
  have hd : D = D' := h.d.trans h'.d.symm
  subst hd
  have ht : T = T' := by
    apply Array.ext_getElem?
    intro t
    by_cases hx : ∃ i o, i < k ∧ ops[i]? = some o ∧ o.dst = some t
    · obtain ⟨i, o, hi, ho, hd⟩ := hx
      have h1 := h.o i o t hi ho hd
      have h2 := h'.o i o t hi ho hd
      obtain ⟨e1, e2⟩ := he i hi
      rw [← e1] at h2
      cases hl : l i with
      | true => rw [hl] at h1 h2; simp only [if_true] at h1 h2; rw [e2 hl] at h1; exact h1.trans h2.symm
      | false => rw [hl] at h1 h2; simp only [Bool.false_eq_true, if_false] at h1 h2; exact h1.trans h2.symm
    · have hx' : ∀ i o, i < k → ops[i]? = some o → o.dst ≠ some t := fun i o hi ho hd => hx ⟨i, o, hi, ho, hd⟩
      exact (h.r t hx').trans (h'.r t hx').symm
  subst ht
  rfl
/-- What an operation that is ready looks at is as it is in the order of the text. -/
theorem Like.looks {val : Nat → Value} {listed : Array Bool} {a : Act} (hp : parOk md ops k a0.tmps.size = true) (hc : Closed md ops listed) (h : Like ops k val (fun j => listed.getD j false) a0 a) {i : Nat} (hi : i < k) {o : Oper} (ho : ops[i]? = some o)
    (hr : ∀ e ∈ o.after, Region.binds md e = true → listed.getD e.on false = true) (hn : listed.getD i false = false) : ∀ x ∈ o.op.operands, a.eval x = (putAll ops val a0 i).eval x := by
  intro x hx
  cases x with
  | tmp t =>
    have hb := like_putAll hp val i (by omega)
    show a.tmps.getD t undef = (putAll ops val a0 i).tmps.getD t undef
    rw [Array.getD_eq_getD_getElem?, Array.getD_eq_getD_getElem?]
    congr 1
    by_cases hx2 : ∃ j o2, j < k ∧ ops[j]? = some o2 ∧ o2.dst = some t
    · obtain ⟨j, o2, hj, ho2, hd⟩ := hx2
      have h1 := h.o j o2 t hj ho2 hd
      have h2 := hb.o j o2 t hj ho2 hd
      obtain ⟨o3, d3, ho3, _, _, _, hd3, _, hall, hself, _⟩ := parOk_op hp hj
      rw [ho2] at ho3
      cases ho3
      rw [hd] at hd3
      cases hd3
      by_cases hij : i = j
      · subst hij
        rw [ho] at ho2
        cases ho2
        exact absurd hx hself
      · rcases (hall i o hi hij ho).2 hx with ⟨h3, h4⟩ | ⟨h3, h4⟩
        · have hl := closed_waits hc _ _ _ ho hr h4
          rw [h1, h2, hl]
          simp [h3]
        · have hl : listed.getD j false = false := by
            cases hl : listed.getD j false with
            | false => rfl
            | true =>
              have := closed_waits hc _ _ _ ho2 (fun e he hb => hc j o2 hl ho2 e he hb) h4
              rw [hn] at this
              cases this
          rw [h1, h2, hl]
          simp [show ¬ j < i by omega]
    · have hx' : ∀ j o2, j < k → ops[j]? = some o2 → o2.dst ≠ some t := fun j o2 hj ho2 hd => hx2 ⟨j, o2, hj, ho2, hd⟩
      exact (h.r t hx').trans (hb.r t hx').symm
  | _ => rfl
end

section
variable {F : Fence} {n : Nat} {P : Program} {md : Region.Mode} {ops : Array Oper} {Q : Exit → Act → World → Prop}
/-- An operation that runs to its end in one frame does so in another one that it can't tell from that. -/
theorem op_moves {i : Nat} {o : Oper} {d : Tmp} {a b : Act} {w : World} {X : Value → World → Prop} {K : Act → World → Prop} (ho : ops[i]? = some o) (hg : o.guard = none) (hs : ∀ cs b, o.op ≠ .select cs b) (hdf : ∀ c, o.op ≠ .defer c)
    (hd : o.dst = some d) (hds : d < b.tmps.size) (he : ∀ x ∈ o.op.operands, a.eval x = b.eval x)
    (h : ∀ K : Act → World → Prop, (∀ v w', X v w' → K (b.put o.dst v) w') → wpOpIn F n P ops (fun _ _ _ => False) i K b w) (hk : ∀ v w', X v w' → K (a.put o.dst v) w') : wpOpIn F n P ops Q i K a w := by
  have h1 := h (fun a' w' => a'.defers = b.defers ∧ ∃ v, a'.tmps[d]? = some v ∧ X v w') (fun v w' hx => ⟨by rw [hd]; rfl, v, by rw [hd]; simp [Act.put, hds], hx⟩)
  have hv : ∀ v v' : Value, (b.put o.dst v).tmps[d]? = some v' → v = v' := fun v v' e => by
    rw [hd] at e
    simpa [Act.put, hds] using e
  unfold wpOpIn at *
  simp only [ho, Region.wanted, hg, if_true] at *
  unfold Oper.wpIn at *
  obtain ⟨ha, h1⟩ := h1
  refine ⟨by rw [about_congr o w he]; exact ha, ?_⟩
  rw [Oper.semAt_plain F _ _ hdf] at *
  rw [execOp_congr o hs he]
  have hx : ∀ (v : Value) (w' : World), (∃ v', (b.put o.dst v).tmps[d]? = some v' ∧ X v' w') → K (a.put o.dst v) w' := fun v w' ⟨v', e, x⟩ => by
    have := hv v v' e
    subst this
    exact hk _ _ x
  generalize (execOp b.eval o).run P w = r at *
  cases r with
  | ok x w' =>
    cases x with
    | value v => exact hx v w' h1.2
    | skip => exact hx undef w' h1.2
    | defer d2 =>
      exfalso
      have h2 := h1.1
      rw [hd] at h2
      have := congrArg List.length h2
      simp [Act.put] at this
    | enter f args =>
      refine ⟨h1.1, CallsIn.mono h1.2 (fun e w'' hh => ?_)⟩
      cases e with
      | returned v => exact hx v w'' hh.2
      | panicked c => exact hh.elim
      | outgrown => exact absurd hh (by unfold LetsOut; simp)
    | row r args => exact ⟨h1.1, RowsIn.mono h1.2 (fun v w'' hh => hx v w'' hh.2)⟩
    | round l f tmps assign body =>
      refine ⟨h1.1, RoundIn.mono h1.2 (fun e w'' hh => ?_)⟩
      cases e with
      | returned v => exact hx v w'' hh.2
      | panicked c => exact hh.elim
      | outgrown => exact absurd hh (by unfold LetsOut; simp)
    | _ => exact h1.elim
  | halt x w' => cases x <;> exact h1.elim

/-- How many of the first k have not come up. -/
def left (k : Nat) (listed : Array Bool) : Nat := (List.range k).countP fun i => !listed.getD i false
theorem countP_less {p q : Nat → Bool} {i : Nat} (hp : p i = true) (hq : q i = false) (he : ∀ j, j ≠ i → p j = q j) : ∀ l : List Nat, i ∈ l → l.Nodup → l.countP p = l.countP q + 1
  | [], h, _ => by cases h
  | x :: r, h, hn => by
    rw [List.nodup_cons] at hn
    by_cases hx : x = i
    · subst hx
      have hr : r.countP p = r.countP q := List.countP_congr fun j hj => by rw [he j (fun e => hn.1 (e ▸ hj))]
      rw [List.countP_cons_of_pos hp, List.countP_cons_of_neg (by simp [hq]), hr]
    · have hm : i ∈ r := by rcases List.mem_cons.1 h with h1 | h1; exact absurd h1.symm hx; exact h1
      have := countP_less hp hq he r hm hn.2
      rw [List.countP_cons, List.countP_cons, this, he x hx]
      omega
theorem left_set {k i : Nat} {listed : Array Bool} (hi : i < k) (hs : i < listed.size) (hl : listed.getD i false = false) : left k listed = left k (listed.setIfInBounds i true) + 1 := by
  unfold left
  refine countP_less (i := i) (by simp [hl]) ?_ ?_ _ (List.mem_range.2 hi) List.nodup_range
  · simp [Array.getD_eq_getD_getElem?, hs]
  · intro j hj
    simp [Array.getD_eq_getD_getElem?, Array.getElem?_setIfInBounds_ne (Ne.symm hj)]
theorem getD_set {i j : Nat} {listed : Array Bool} (hs : i < listed.size) : (listed.setIfInBounds i true).getD j false = (j == i || listed.getD j false) := by
  by_cases h : j = i
  · subst h; simp [Array.getD_eq_getD_getElem?, hs]
  · simp [Array.getD_eq_getD_getElem?, Array.getElem?_setIfInBounds_ne (Ne.symm h), h]
theorem left_zero {k : Nat} {listed : Array Bool} (h : left k listed = 0) : ∀ i, i < k → listed.getD i false = true := fun i hi => by
  have := List.countP_eq_zero.1 h i (List.mem_range.2 hi)
  simpa using this
theorem left_some {k : Nat} {listed : Array Bool} (h : left k listed ≠ 0) : ∃ i, i < k ∧ listed.getD i false = false ∧ ∀ j, j < i → listed.getD j false = true := by
  have hex : ∃ i, i < k ∧ listed.getD i false = false := by
    obtain ⟨i, hi, hp⟩ := List.countP_pos_iff.1 (Nat.pos_of_ne_zero h)
    exact ⟨i, List.mem_range.1 hi, by simpa using hp⟩
  obtain ⟨i0, hi0, hl0⟩ := hex
  have key : ∀ m, m < k → listed.getD m false = false → ∃ i, i < k ∧ listed.getD i false = false ∧ ∀ j, j < i → listed.getD j false = true := by
    intro m
    induction m using Nat.strongRecOn with
    | _ m ih =>
      intro hm hl
      by_cases hall : ∀ j, j < m → listed.getD j false = true
      · exact ⟨m, hm, hl, hall⟩
      · obtain ⟨j, hj⟩ := Classical.not_forall.1 hall
        obtain ⟨h1, h2⟩ := Classical.not_imp.1 hj
        exact ih j h1 (by omega) (by simpa using h2)
  exact key i0 hi0 hl0

/-- **The region, walked in the order of the text.** G: what may happen to the world between two operations; R i: what holds behind operation i, of the values and the world, and stays. -/
theorem wpAnyIn_par {k : Nat} {a0 : Act} {w0 : World} (G : World → World → Prop) (R : Nat → (Nat → Value) → World → Prop) (hp : parOk md ops k a0.tmps.size = true)
    (hG : ∀ a b c, G a b → G b c → G a c)
    (hR : ∀ i, i < k → ∀ val val' w w', (∀ j, j = i ∨ waits md ops ops.size i j = true → val j = val' j) → G w w' → R i val w → R i val' w')
    (hop : ∀ i, i < k → ∀ val w, G w0 w → (∀ j, j < k → waits md ops ops.size i j = true → R j val w) → ∀ K : Act → World → Prop, (∀ v w', G w w' → R i (fun j => if j = i then v else val j) w' → K ((putAll ops val a0 i).put ((ops[i]?).bind (·.dst)) v) w') → wpOpIn F n P ops (fun _ _ _ => False) i K (putAll ops val a0 i) w)
    (hend : ∀ val w listed, G w0 w → (∀ i, i < k → R i val w) → listed.size = ops.size → (∀ i, listed.getD i false = decide (i < k)) → wpAnyIn F n P md ops Q (ops.size - k) listed (putAll ops val a0 k) w) :
    ∀ (m : Nat) (listed : Array Bool) (val : Nat → Value) (a : Act) (w : World), left k listed + (ops.size - k) = m → G w0 w → listed.size = ops.size → (∀ i, k ≤ i → listed.getD i false = false) → Closed md ops listed →
      Like ops k val (fun j => listed.getD j false) a0 a → (∀ i, i < k → listed.getD i false = true → R i val w) → wpAnyIn F n P md ops Q m listed a w := by
  intro m
  have hkle := parOk_le hp
  induction m with
  | zero =>
    intro listed val a w hm hg hsz hhi hc hl hr
    have hall := left_zero (k := k) (listed := listed) (by omega)
    have hlist : ∀ i, listed.getD i false = decide (i < k) := fun i => by
      by_cases h : i < k
      · rw [hall i h]; simp [h]
      · rw [hhi i (by omega)]; simp [h]
    have ha : a = putAll ops val a0 k := hl.ext (like_putAll hp val k (Nat.le_refl _)) (fun i hi => ⟨hlist i, fun _ => rfl⟩)
    have := hend val w listed hg (fun i hi => hr i hi (hall i hi)) hsz hlist
    rw [show ops.size - k = 0 by omega] at this
    rw [ha]
    exact this
  | succ m ih =>
    intro listed val a w hm hg hsz hhi hc hl hr
    by_cases h0 : left k listed = 0
    · have hall := left_zero h0
      have hlist : ∀ i, listed.getD i false = decide (i < k) := fun i => by
        by_cases h : i < k
        · rw [hall i h]; simp [h]
        · rw [hhi i (by omega)]; simp [h]
      have ha : a = putAll ops val a0 k := hl.ext (like_putAll hp val k (Nat.le_refl _)) (fun i hi => ⟨hlist i, fun _ => rfl⟩)
      have := hend val w listed hg (fun i hi => hr i hi (hall i hi)) hsz hlist
      rw [show ops.size - k = m + 1 by omega] at this
      rw [ha]
      exact this
    · have hready : ∀ i, i ∈ Region.ready md ops listed ↔ listed.getD i true = false ∧ ∃ o, ops[i]? = some o ∧ ∀ e ∈ o.after, Region.binds md e = true → listed.getD e.on false = true := fun i => mem_ready
      refine ⟨fun hnil => ?_, fun i hi => ?_⟩
      · exfalso
        obtain ⟨i, hik, hlf, hlow⟩ := left_some h0
        obtain ⟨o, d, ho, _, _, _, _, _, _, _, haft⟩ := parOk_op hp hik
        have hm : i ∈ Region.ready md ops listed := (hready i).2 ⟨by
          rw [Array.getD_eq_getD_getElem?, Array.getElem?_eq_getElem (by omega)] at hlf ⊢
          exact hlf, o, ho, fun e he hb => hlow _ (haft e he hb)⟩
        rw [hnil] at hm
        cases hm
      · obtain ⟨hun, o, ho, hdeps⟩ := (hready i).1 hi
        have hisz : i < listed.size := by
          rcases Nat.lt_or_ge i listed.size with h | h
          · exact h
          · rw [Array.getD_eq_getD_getElem?, Array.getElem?_eq_none h] at hun
            cases hun
        have hlf : listed.getD i false = false := by
          rw [Array.getD_eq_getD_getElem?, Array.getElem?_eq_getElem hisz] at hun ⊢
          exact hun
        have hik : i < k := by
          rcases Nat.lt_or_ge i k with h | h
          · exact h
          · exfalso
            obtain ⟨j, hj, hjl, _⟩ := left_some h0
            have := closed_waits hc _ _ _ ho hdeps (parOk_tail hp hj (by omega) h)
            rw [hjl] at this
            cases this
        obtain ⟨o', d, ho', hgd, hs, hdf, hd, hds, hall, _, haft⟩ := parOk_op hp hik
        rw [ho] at ho'
        cases ho'
        have hb := like_putAll hp val i (by omega)
        refine op_moves (X := fun v w' => G w w' ∧ R i (fun j => if j = i then v else val j) w') ho hgd hs hdf hd (by rw [hb.s]; exact hds) (hl.looks hp hc hik ho hdeps hlf) (fun K hK => ?_) (fun v w' hx => ?_)
        · refine hop i hik val w hg (fun j hj hw => hr j hj (closed_waits hc _ _ _ ho hdeps hw)) K (fun v w' h1 h2 => ?_)
          have := hK v w' ⟨h1, h2⟩
          simpa [ho] using this
        · obtain ⟨hgw, hRi⟩ := hx
          have hl' := hl.put hp hik ho v
          refine ih (listed.setIfInBounds i true) (fun j => if j = i then v else val j) _ w' ?_ (hG _ _ _ hg hgw) (by simp [hsz]) ?_ ?_ ?_ ?_
          · have := left_set hik hisz hlf
            omega
          · intro j hj
            rw [getD_set hisz, hhi j hj]
            simp
            omega
          · intro j o2 hjl ho2 e he hbd
            rw [getD_set hisz] at hjl ⊢
            simp only [Bool.or_eq_true, beq_iff_eq] at hjl ⊢
            rcases hjl with rfl | hjl
            · rw [ho] at ho2
              cases ho2
              exact .inr (hdeps e he hbd)
            · exact .inr (hc j o2 hjl ho2 e he hbd)
          · have e : (fun j => (listed.setIfInBounds i true).getD j false) = fun j => j == i || listed.getD j false := funext fun j => getD_set hisz
            rw [e]
            exact hl'
          · intro j hj hjl
            rw [getD_set hisz] at hjl
            simp only [Bool.or_eq_true, beq_iff_eq] at hjl
            by_cases hji : j = i
            · subst hji
              exact hRi
            · have hjl2 : listed.getD j false = true := by rcases hjl with h | h; exact absurd h hji; exact h
              refine hR j hj val _ w w' (fun q hq => ?_) hgw (hr j hj hjl2)
              have hqi : q ≠ i := by
                rintro rfl
                rcases hq with h | h
                · exact hji h.symm
                · obtain ⟨o2, _, ho2, _⟩ := parOk_op hp hj
                  have := closed_waits hc _ _ _ ho2 (fun e he hbd => hc j o2 hjl2 ho2 e he hbd) h
                  rw [hlf] at this
                  cases this
              rw [if_neg hqi]

/-- The first k have come up. -/
def maskOf (k size : Nat) : Array Bool := ((List.range size).map fun i => decide (i < k)).toArray
theorem mask_eq {k size : Nat} {listed : Array Bool} (hk : k ≤ size) (hs : listed.size = size) (h : ∀ i, listed.getD i false = decide (i < k)) : listed = maskOf k size := by
  apply Array.ext
  · simp [maskOf, hs]
  · intro i h1 h2
    have := h i
    rw [Array.getD_eq_getD_getElem?, Array.getElem?_eq_getElem h1] at this
    simp only [Option.getD_some] at this
    rw [this]
    simp [maskOf]
theorem wpIn_region_par {k id : Nat} {a0 : Act} {w0 : World} (hm : P.follows .mixedOrders = true) (G : World → World → Prop) (R : Nat → (Nat → Value) → World → Prop) (hp : parOk .any ops k a0.tmps.size = true)
    (hrefl : G w0.drew w0.drew) (hG : ∀ a b c, G a b → G b c → G a c)
    (hR : ∀ i, i < k → ∀ val val' w w', (∀ j, j = i ∨ waits .any ops ops.size i j = true → val j = val' j) → G w w' → R i val w → R i val' w')
    (hop : ∀ i, i < k → ∀ val w, G w0.drew w → (∀ j, j < k → waits .any ops ops.size i j = true → R j val w) → ∀ K : Act → World → Prop, (∀ v w', G w w' → R i (fun j => if j = i then v else val j) w' → K ((putAll ops val a0 i).put ((ops[i]?).bind (·.dst)) v) w') → wpOpIn F n P ops (fun _ _ _ => False) i K (putAll ops val a0 i) w)
    (hend : ∀ val w, G w0.drew w → (∀ i, i < k → R i val w) → wpAnyIn F n P .any ops Q (ops.size - k) (maskOf k ops.size) (putAll ops val a0 k) w) :
    (Code.region id ops true).wpIn F n P Q a0 w0 := by
  have hkle := parOk_le hp
  refine wpIn_region_any hm ?_
  change wpAnyIn _ _ _ _ _ _ _ _ _ (World.drew _)
  have hgd : ∀ j, (Array.replicate ops.size false).getD j false = false := fun j => by
    rw [Array.getD_eq_getD_getElem?, Array.getElem?_replicate]
    split <;> rfl
  refine wpAnyIn_par G R hp hG hR hop (fun val w listed h1 h2 h3 h4 => ?_) ops.size (Array.replicate ops.size false) (fun _ => undef) a0 w0.drew ?_ hrefl (by simp) (fun i _ => hgd i) ?_ ?_ ?_
  · rw [mask_eq hkle h3 h4]
    exact hend val w h1 h2
  · have : left k (Array.replicate ops.size false) = k := by
      unfold left
      rw [List.countP_eq_length.2 (fun i _ => by rw [hgd i]; rfl), List.length_range]
    omega
  · intro i o hl
    rw [hgd i] at hl
    cases hl
  · exact ⟨rfl, rfl, fun i o d _ _ _ => by rw [hgd i]; rfl, fun _ _ => rfl⟩
  · intro i _ hl
    rw [hgd i] at hl
    cases hl

/-- The operations in the order of the text, each of which leaves the world as it is. -/
def quietWalk (F : Fence) (n : Nat) (P : Program) (w : World) : List Oper → Act → (Act → Prop) → Prop
  | [], a, K => K a
  | o :: rest, a, K => ∃ a', (∀ K : Act → World → Prop, K a' w → o.wpIn F n P a w K (fun _ _ _ => False)) ∧ (∃ v, a' = a.put o.dst v) ∧ quietWalk F n P w rest a' K
theorem quietWalk_nil {w : World} {a : Act} {K : Act → Prop} (h : K a) : quietWalk F n P w [] a K := h
theorem quietWalk_cons {w : World} {o : Oper} {rest : List Oper} {a a' : Act} {v : Value} {K : Act → Prop} (h1 : ∀ K : Act → World → Prop, K a' w → o.wpIn F n P a w K (fun _ _ _ => False)) (h2 : a' = a.put o.dst v) (h3 : quietWalk F n P w rest a' K) : quietWalk F n P w (o :: rest) a K := ⟨a', h1, ⟨v, h2⟩, h3⟩
theorem quiet_vals {w : World} {a0 : Act} {K : Act → Prop} : ∀ (m k : Nat) (val : Nat → Value), m + k ≤ ops.size → quietWalk F n P w ((ops.toList.drop k).take m) (putAll ops val a0 k) K →
    ∃ val' : Nat → Value, (∀ j, j < k → val' j = val j) ∧ (∀ i, k ≤ i → i < m + k → ∃ o, ops[i]? = some o ∧ ∀ K : Act → World → Prop, K ((putAll ops val' a0 i).put o.dst (val' i)) w → o.wpIn F n P (putAll ops val' a0 i) w K (fun _ _ _ => False)) ∧ K (putAll ops val' a0 (m + k))
  | 0, k, val, _, h => ⟨val, fun _ _ => rfl, fun i h1 h2 => absurd h2 (by omega), by simpa [quietWalk] using h⟩
  | m + 1, k, val, hk, h => by
    have hlt : k < ops.toList.length := by simp; omega
    rw [List.drop_eq_getElem_cons hlt, List.take_succ_cons] at h
    obtain ⟨a', hx, ⟨v, rfl⟩, hrest⟩ := h
    have hko : ops[k]? = some ops.toList[k] := by simp
    have hput : ∀ (q : Nat) (f g : Nat → Value), (∀ j, j < q → f j = g j) → putAll ops f a0 q = putAll ops g a0 q := by
      intro q
      induction q with
      | zero => intro f g _; rfl
      | succ q ih => intro f g hfg; rw [putAll, putAll, ih f g (fun j hj => hfg j (by omega)), hfg q (by omega)]
    have e1 : putAll ops (fun j => if j = k then v else val j) a0 (k + 1) = (putAll ops val a0 k).put ops.toList[k].dst v := by
      rw [putAll, hput k (fun j => if j = k then v else val j) val (fun j hj => if_neg (by omega)), hko]
      simp
    rw [← e1] at hrest
    obtain ⟨val', h1, h2, h3⟩ := quiet_vals m (k + 1) _ (by omega) hrest
    have hk1 : val' k = v := by rw [h1 k (by omega), if_pos rfl]
    have hlow : ∀ j, j < k → val' j = val j := fun j hj => by rw [h1 j (by omega), if_neg (by omega)]
    refine ⟨val', hlow, fun i hi hi2 => ?_, by rw [show m + 1 + k = m + (k + 1) by omega]; exact h3⟩
    by_cases hik : i = k
    · subst hik
      exact ⟨_, hko, by rw [hput i val' val hlow, hk1]; exact hx⟩
    · exact h2 i (by omega) (by omega)
/-- **A region whose first k operations leave the world as it is, in the order of the text.** -/
theorem wpIn_region_quietHead {k id : Nat} {a0 : Act} {w0 : World} (hm : P.follows .mixedOrders = true) (hp : parOk .any ops k a0.tmps.size = true)
    (h : quietWalk F n P w0.drew (ops.toList.take k) a0 fun aF => wpAnyIn F n P .any ops Q (ops.size - k) (maskOf k ops.size) aF w0.drew) : (Code.region id ops true).wpIn F n P Q a0 w0 := by
  obtain ⟨val, -, hval, hfin⟩ := quiet_vals (F := F) (n := n) (P := P) (ops := ops) (w := w0.drew) (a0 := a0) k 0 (fun _ => undef) (by have := parOk_le hp; omega) h
  refine wpIn_region_par hm (fun x y => y = x) (fun i v w => v i = val i) hp rfl (fun a b c h1 h2 => by rw [h2, h1]) (fun i hi v v' w w' he _ hr => by rw [← he i (.inl rfl)]; exact hr) (fun i hi v w hw hr K hK => ?_) (fun v w hw hr => ?_)
  · subst hw
    obtain ⟨o, ho, hx⟩ := hval i (by omega) (by omega)
    obtain ⟨o', d, ho', hgd, hs, hdf, hd, hds, hall, hself, haft⟩ := parOk_op hp hi
    rw [ho] at ho'
    cases ho'
    have hev : ∀ x ∈ o.op.operands, (putAll ops v a0 i).eval x = (putAll ops val a0 i).eval x := by
      intro x hxm
      cases x with
      | tmp t =>
        have hb1 := like_putAll hp v i (by omega)
        have hb2 := like_putAll hp val i (by omega)
        show (putAll ops v a0 i).tmps.getD t undef = (putAll ops val a0 i).tmps.getD t undef
        rw [Array.getD_eq_getD_getElem?, Array.getD_eq_getD_getElem?]
        congr 1
        by_cases hx2 : ∃ j o2, j < k ∧ ops[j]? = some o2 ∧ o2.dst = some t
        · obtain ⟨j, o2, hj, ho2, hd2⟩ := hx2
          have h1 := hb1.o j o2 t hj ho2 hd2
          have h2 := hb2.o j o2 t hj ho2 hd2
          obtain ⟨o3, d3, ho3, _, _, _, hd3, _, hall3, hself3, _⟩ := parOk_op hp hj
          rw [ho2] at ho3
          cases ho3
          rw [hd2] at hd3
          cases hd3
          by_cases hij : i = j
          · subst hij
            rw [ho] at ho2
            cases ho2
            exact absurd hxm hself3
          · rcases (hall3 i o hi hij ho).2 hxm with ⟨h3, h4⟩ | ⟨h3, h4⟩
            · rw [h1, h2]
              simp only [h3, decide_true, if_true]
              rw [hr j hj h4]
            · rw [h1, h2]
              simp [show ¬ j < i by omega]
        · have hx' : ∀ j o2, j < k → ops[j]? = some o2 → o2.dst ≠ some t := fun j o2 hj ho2 hd2 => hx2 ⟨j, o2, hj, ho2, hd2⟩
          exact (hb1.r t hx').trans (hb2.r t hx').symm
      | _ => rfl
    have hb2 := like_putAll hp val i (by omega)
    refine op_moves (X := fun v' w' => v' = val i ∧ w' = w0.drew) ho hgd hs hdf hd (by rw [hb2.s]; exact hds) hev (fun K' hK' => ?_) (fun v' w' hx' => ?_)
    · unfold wpOpIn
      simp only [ho, Region.wanted, hgd, if_true]
      exact hx K' (hK' _ _ ⟨rfl, rfl⟩)
    · obtain ⟨rfl, rfl⟩ := hx'
      have := hK (val i) w0.drew rfl (by simp)
      simpa [ho] using this
  · subst hw
    have hput : ∀ q, q ≤ k → putAll ops v a0 q = putAll ops val a0 q := by
      intro q
      induction q with
      | zero => intro _; rfl
      | succ q ih => intro hq; rw [putAll, putAll, ih (by omega), hr q (by omega)]
    rw [hput k (Nat.le_refl _)]
    exact hfin

/-- The operations in the order of the text: each yields one value, in whatever world that has only grown since the start, and lets it grow. -/
def growWalk (F : Fence) (n : Nat) (P : Program) (G : World → World → Prop) (w0 : World) : List Oper → Act → (Act → Prop) → Prop
  | [], a, K => K a
  | o :: rest, a, K => ∃ a', (∀ w, G w0 w → ∀ K : Act → World → Prop, (∀ w', G w w' → K a' w') → o.wpIn F n P a w K (fun _ _ _ => False)) ∧ (∃ v, a' = a.put o.dst v) ∧ growWalk F n P G w0 rest a' K
theorem growWalk_nil {G : World → World → Prop} {w : World} {a : Act} {K : Act → Prop} (h : K a) : growWalk F n P G w [] a K := h
theorem growWalk_cons {G : World → World → Prop} {w0 : World} {o : Oper} {rest : List Oper} {a a' : Act} {v : Value} {K : Act → Prop} (h1 : ∀ w, G w0 w → ∀ K : Act → World → Prop, (∀ w', G w w' → K a' w') → o.wpIn F n P a w K (fun _ _ _ => False)) (h2 : a' = a.put o.dst v) (h3 : growWalk F n P G w0 rest a' K) : growWalk F n P G w0 (o :: rest) a K := ⟨a', h1, ⟨v, h2⟩, h3⟩
theorem grow_vals {G : World → World → Prop} {w : World} {a0 : Act} {K : Act → Prop} : ∀ (m k : Nat) (val : Nat → Value), m + k ≤ ops.size → growWalk F n P G w ((ops.toList.drop k).take m) (putAll ops val a0 k) K →
    ∃ val' : Nat → Value, (∀ j, j < k → val' j = val j) ∧ (∀ i, k ≤ i → i < m + k → ∃ o, ops[i]? = some o ∧ ∀ w1, G w w1 → ∀ K : Act → World → Prop, (∀ w', G w1 w' → K ((putAll ops val' a0 i).put o.dst (val' i)) w') → o.wpIn F n P (putAll ops val' a0 i) w1 K (fun _ _ _ => False)) ∧ K (putAll ops val' a0 (m + k))
  | 0, k, val, _, h => ⟨val, fun _ _ => rfl, fun i h1 h2 => absurd h2 (by omega), by simpa [growWalk] using h⟩
  | m + 1, k, val, hk, h => by
    have hlt : k < ops.toList.length := by simp; omega
    rw [List.drop_eq_getElem_cons hlt, List.take_succ_cons] at h
    obtain ⟨a', hx, ⟨v, rfl⟩, hrest⟩ := h
    have hko : ops[k]? = some ops.toList[k] := by simp
    have hput : ∀ (q : Nat) (f g : Nat → Value), (∀ j, j < q → f j = g j) → putAll ops f a0 q = putAll ops g a0 q := by
      intro q
      induction q with
      | zero => intro f g _; rfl
      | succ q ih => intro f g hfg; rw [putAll, putAll, ih f g (fun j hj => hfg j (by omega)), hfg q (by omega)]
    have e1 : putAll ops (fun j => if j = k then v else val j) a0 (k + 1) = (putAll ops val a0 k).put ops.toList[k].dst v := by
      rw [putAll, hput k (fun j => if j = k then v else val j) val (fun j hj => if_neg (by omega)), hko]
      simp
    rw [← e1] at hrest
    obtain ⟨val', h1, h2, h3⟩ := grow_vals m (k + 1) _ (by omega) hrest
    have hk1 : val' k = v := by rw [h1 k (by omega), if_pos rfl]
    have hlow : ∀ j, j < k → val' j = val j := fun j hj => by rw [h1 j (by omega), if_neg (by omega)]
    refine ⟨val', hlow, fun i hi hi2 => ?_, by rw [show m + 1 + k = m + (k + 1) by omega]; exact h3⟩
    by_cases hik : i = k
    · subst hik
      exact ⟨_, hko, by rw [hput i val' val hlow, hk1]; exact hx⟩
    · exact h2 i (by omega) (by omega)
/-- **A region whose first k operations yield one value each, and let the world only grow, in the order of the text.** -/
theorem wpIn_region_growHead {k id : Nat} {a0 : Act} {w0 : World} (G : World → World → Prop) (hm : P.follows .mixedOrders = true) (hp : parOk .any ops k a0.tmps.size = true)
    (hrefl : G w0.drew w0.drew) (hG : ∀ a b c, G a b → G b c → G a c)
    (h : growWalk F n P G w0.drew (ops.toList.take k) a0 fun aF => ∀ w, G w0.drew w → wpAnyIn F n P .any ops Q (ops.size - k) (maskOf k ops.size) aF w) : (Code.region id ops true).wpIn F n P Q a0 w0 := by
  obtain ⟨val, -, hval, hfin⟩ := grow_vals (F := F) (n := n) (P := P) (ops := ops) (G := G) (w := w0.drew) (a0 := a0) k 0 (fun _ => undef) (by have := parOk_le hp; omega) h
  refine wpIn_region_par hm G (fun i v w => v i = val i) hp hrefl hG (fun i hi v v' w w' he _ hr => by rw [← he i (.inl rfl)]; exact hr) (fun i hi v w hw hr K hK => ?_) (fun v w hw hr => ?_)
  · obtain ⟨o, ho, hx⟩ := hval i (by omega) (by omega)
    obtain ⟨o', d, ho', hgd, hs, hdf, hd, hds, hall, hself, haft⟩ := parOk_op hp hi
    rw [ho] at ho'
    cases ho'
    have hev : ∀ x ∈ o.op.operands, (putAll ops v a0 i).eval x = (putAll ops val a0 i).eval x := by
      intro x hxm
      cases x with
      | tmp t =>
        have hb1 := like_putAll hp v i (by omega)
        have hb2 := like_putAll hp val i (by omega)
        show (putAll ops v a0 i).tmps.getD t undef = (putAll ops val a0 i).tmps.getD t undef
        rw [Array.getD_eq_getD_getElem?, Array.getD_eq_getD_getElem?]
        congr 1
        by_cases hx2 : ∃ j o2, j < k ∧ ops[j]? = some o2 ∧ o2.dst = some t
        · obtain ⟨j, o2, hj, ho2, hd2⟩ := hx2
          have h1 := hb1.o j o2 t hj ho2 hd2
          have h2 := hb2.o j o2 t hj ho2 hd2
          obtain ⟨o3, d3, ho3, _, _, _, hd3, _, hall3, hself3, _⟩ := parOk_op hp hj
          rw [ho2] at ho3
          cases ho3
          rw [hd2] at hd3
          cases hd3
          by_cases hij : i = j
          · subst hij
            rw [ho] at ho2
            cases ho2
            exact absurd hxm hself3
          · rcases (hall3 i o hi hij ho).2 hxm with ⟨h3, h4⟩ | ⟨h3, h4⟩
            · rw [h1, h2]
              simp only [h3, decide_true, if_true]
              rw [hr j hj h4]
            · rw [h1, h2]
              simp [show ¬ j < i by omega]
        · have hx' : ∀ j o2, j < k → ops[j]? = some o2 → o2.dst ≠ some t := fun j o2 hj ho2 hd2 => hx2 ⟨j, o2, hj, ho2, hd2⟩
          exact (hb1.r t hx').trans (hb2.r t hx').symm
      | _ => rfl
    have hb2 := like_putAll hp val i (by omega)
    refine op_moves (X := fun v' w' => v' = val i ∧ G w w') ho hgd hs hdf hd (by rw [hb2.s]; exact hds) hev (fun K' hK' => ?_) (fun v' w' hx' => ?_)
    · unfold wpOpIn
      simp only [ho, Region.wanted, hgd, if_true]
      exact hx w hw K' (fun w' hg => hK' _ _ ⟨rfl, hg⟩)
    · obtain ⟨rfl, hg⟩ := hx'
      have := hK (val i) w' hg (by simp)
      simpa [ho] using this
  · have hput : ∀ q, q ≤ k → putAll ops v a0 q = putAll ops val a0 q := by
      intro q
      induction q with
      | zero => intro _; rfl
      | succ q ih => intro hq; rw [putAll, putAll, ih (by omega), hr q (by omega)]
    rw [hput k (Nat.le_refl _)]
    exact hfin w hw

theorem putAll_congr {a0 : Act} : ∀ (q : Nat) (f g : Nat → Value), (∀ j, j < q → f j = g j) → putAll ops f a0 q = putAll ops g a0 q
  | 0, _, _, _ => rfl
  | q + 1, f, g, h => by rw [putAll, putAll, putAll_congr q f g (fun j hj => h j (by omega)), h q (by omega)]
/-- What an operation looks at hangs on the operations that it waits for alone. -/
theorem looks_same {k : Nat} {a0 : Act} (hp : parOk md ops k a0.tmps.size = true) {i : Nat} (hi : i < k) {o : Oper} (ho : ops[i]? = some o) {v val : Nat → Value} (hr : ∀ j, j < k → waits md ops ops.size i j = true → v j = val j) :
    ∀ x ∈ o.op.operands, (putAll ops v a0 i).eval x = (putAll ops val a0 i).eval x := by
  intro x hxm
  cases x with
  | tmp t =>
    have hb1 := like_putAll hp v i (by omega)
    have hb2 := like_putAll hp val i (by omega)
    show (putAll ops v a0 i).tmps.getD t undef = (putAll ops val a0 i).tmps.getD t undef
    rw [Array.getD_eq_getD_getElem?, Array.getD_eq_getD_getElem?]
    congr 1
    by_cases hx2 : ∃ j o2, j < k ∧ ops[j]? = some o2 ∧ o2.dst = some t
    · obtain ⟨j, o2, hj, ho2, hd2⟩ := hx2
      have h1 := hb1.o j o2 t hj ho2 hd2
      have h2 := hb2.o j o2 t hj ho2 hd2
      obtain ⟨o3, d3, ho3, _, _, _, hd3, _, hall3, hself3, _⟩ := parOk_op hp hj
      rw [ho2] at ho3
      cases ho3
      rw [hd2] at hd3
      cases hd3
      by_cases hij : i = j
      · subst hij
        rw [ho] at ho2
        cases ho2
        exact absurd hxm hself3
      · rcases (hall3 i o hi hij ho).2 hxm with ⟨h3, h4⟩ | ⟨h3, h4⟩
        · rw [h1, h2]
          simp only [h3, decide_true, if_true]
          rw [hr j hj h4]
        · rw [h1, h2]
          simp [show ¬ j < i by omega]
    · have hx' : ∀ j o2, j < k → ops[j]? = some o2 → o2.dst ≠ some t := fun j o2 hj ho2 hd2 => hx2 ⟨j, o2, hj, ho2, hd2⟩
      exact (hb1.r t hx').trans (hb2.r t hx').symm
  | _ => rfl
/-- **The same, and one operation behind them whose value hangs on the world (new memory): X says what holds of it, and stays.** -/
theorem wpIn_region_growMade {k id : Nat} {a0 : Act} {w0 : World} (G : World → World → Prop) (X : Value → World → Prop) {ok : Oper} (hk : ops[k]? = some ok) (hm : P.follows .mixedOrders = true) (hp : parOk .any ops (k + 1) a0.tmps.size = true)
    (hrefl : G w0.drew w0.drew) (hG : ∀ a b c, G a b → G b c → G a c) (hX : ∀ v w w', G w w' → X v w → X v w')
    (h : growWalk F n P G w0.drew (ops.toList.take k) a0 fun aF => (∀ w, G w0.drew w → ∀ K : Act → World → Prop, (∀ v w', G w w' → X v w' → K (aF.put ok.dst v) w') → ok.wpIn F n P aF w K (fun _ _ _ => False)) ∧
      ∀ v w, G w0.drew w → X v w → wpAnyIn F n P .any ops Q (ops.size - (k + 1)) (maskOf (k + 1) ops.size) (aF.put ok.dst v) w) : (Code.region id ops true).wpIn F n P Q a0 w0 := by
  obtain ⟨val, -, hval, hlast, hfin⟩ := grow_vals (F := F) (n := n) (P := P) (ops := ops) (G := G) (w := w0.drew) (a0 := a0) k 0 (fun _ => undef) (by have := parOk_le hp; omega) h
  rw [Nat.add_zero] at hlast hfin
  refine wpIn_region_par hm G (fun i v w => if i < k then v i = val i else X (v k) w) hp hrefl hG (fun i hi v v' w w' he hg hr => ?_) (fun i hi v w hw hr K hK => ?_) (fun v w hw hr => ?_)
  · split
    · rename_i h1
      rw [if_pos h1] at hr
      rw [← he i (.inl rfl)]; exact hr
    · rename_i h1
      rw [if_neg h1] at hr
      have : i = k := by omega
      rw [← he k (.inl this.symm)]
      exact hX _ _ _ hg hr
  · obtain ⟨o', d, ho', hgd, hs, hdf, hd, hds, hall, hself, haft⟩ := parOk_op hp hi
    have hb2 := like_putAll hp val i (by omega)
    have hrk : ∀ j, j < k + 1 → waits .any ops ops.size i j = true → j < k → v j = val j := fun j hj hw2 hjk => by
      have := hr j hj hw2
      rwa [if_pos hjk] at this
    by_cases hik : i < k
    · obtain ⟨o, ho, hx⟩ := hval i (by omega) (by omega)
      rw [ho'] at ho
      cases ho
      have hev : ∀ x ∈ o'.op.operands, (putAll ops v a0 i).eval x = (putAll ops (fun j => if j < k then val j else v j) a0 i).eval x := looks_same hp hi ho' (fun j hj hw2 => by
        split
        · rename_i hjk; exact hrk j hj hw2 hjk
        · rfl)
      have hpe : putAll ops (fun j => if j < k then val j else v j) a0 i = putAll ops val a0 i := putAll_congr i _ _ (fun j hj => by rw [if_pos (by omega)])
      rw [hpe] at hev
      refine op_moves (X := fun v' w' => v' = val i ∧ G w w') ho' hgd hs hdf hd (by rw [hb2.s]; exact hds) hev (fun K' hK' => ?_) (fun v' w' hx' => ?_)
      · unfold wpOpIn
        simp only [ho', Region.wanted, hgd, if_true]
        exact hx w hw K' (fun w' hg => hK' _ _ ⟨rfl, hg⟩)
      · obtain ⟨rfl, hg⟩ := hx'
        have := hK (val i) w' hg (by simp [hik])
        simpa [ho'] using this
    · have hike : i = k := by omega
      subst hike
      rw [hk] at ho'
      cases ho'
      have hev : ∀ x ∈ ok.op.operands, (putAll ops v a0 i).eval x = (putAll ops (fun j => if j < i then val j else v j) a0 i).eval x := looks_same hp hi hk (fun j hj hw2 => by
        split
        · rename_i hjk; exact hrk j hj hw2 hjk
        · rfl)
      have hpe : putAll ops (fun j => if j < i then val j else v j) a0 i = putAll ops val a0 i := putAll_congr i _ _ (fun j hj => by rw [if_pos (by omega)])
      rw [hpe] at hev
      refine op_moves (X := fun v' w' => G w w' ∧ X v' w') hk hgd hs hdf hd (by rw [hb2.s]; exact hds) hev (fun K' hK' => ?_) (fun v' w' hx' => ?_)
      · unfold wpOpIn
        simp only [hk, Region.wanted, hgd, if_true]
        exact hlast w hw K' (fun v' w' hg hx' => hK' _ _ ⟨hg, hx'⟩)
      · have := hK v' w' hx'.1 (by simp; exact hx'.2)
        simpa [hk] using this
  · have hpe : putAll ops v a0 (k + 1) = (putAll ops val a0 k).put ok.dst (v k) := by
      rw [putAll, putAll_congr k v val (fun j hj => by have := hr j (by omega); rwa [if_pos hj] at this), hk]
      rfl
    rw [hpe]
    have hxk := hr k (by omega)
    rw [if_neg (Nat.lt_irrefl k)] at hxk
    exact hfin (v k) w hw hxk

/-- The operations in the order of the text, each with a fact on its value that stays; an operation may use the facts of those that it waits for. -/
def factWalk (F : Fence) (n : Nat) (P : Program) (md : Region.Mode) (ops : Array Oper) (G : World → World → Prop) (w0 : World) (Xs : Nat → Value → World → Prop) : Nat → List Oper → (Nat → Value) → Act → ((Nat → Value) → Act → Prop) → Prop
  | _, [], val, a, K => K val a
  | i, o :: rest, val, a, K => (∀ w, G w0 w → (∀ j, j < i → waits md ops ops.size i j = true → Xs j (val j) w) → ∀ K' : Act → World → Prop, (∀ v w', G w w' → Xs i v w' → K' (a.put o.dst v) w') → o.wpIn F n P a w K' (fun _ _ _ => False)) ∧
      ∀ v, factWalk F n P md ops G w0 Xs (i + 1) rest (fun q => if q = i then v else val q) (a.put o.dst v) K
section
variable {G : World → World → Prop} {w0 : World} {Xs : Nat → Value → World → Prop}
theorem factWalk_nil {i : Nat} {val : Nat → Value} {a : Act} {K : (Nat → Value) → Act → Prop} (h : K val a) : factWalk F n P md ops G w0 Xs i [] val a K := h
theorem factWalk_cons {i : Nat} {o : Oper} {rest : List Oper} {val : Nat → Value} {a : Act} {K : (Nat → Value) → Act → Prop}
    (h1 : ∀ w, G w0 w → (∀ j, j < i → waits md ops ops.size i j = true → Xs j (val j) w) → ∀ K' : Act → World → Prop, (∀ v w', G w w' → Xs i v w' → K' (a.put o.dst v) w') → o.wpIn F n P a w K' (fun _ _ _ => False))
    (h3 : ∀ v, factWalk F n P md ops G w0 Xs (i + 1) rest (fun q => if q = i then v else val q) (a.put o.dst v) K) : factWalk F n P md ops G w0 Xs i (o :: rest) val a K := ⟨h1, h3⟩
theorem fact_vals {a0 : Act} {K : (Nat → Value) → Act → Prop} : ∀ (m k : Nat) (val val' : Nat → Value), m + k ≤ ops.size → (∀ j, j < k → val j = val' j) → factWalk F n P md ops G w0 Xs k ((ops.toList.drop k).take m) val (putAll ops val' a0 k) K →
    (∀ i, k ≤ i → i < m + k → ∃ o, ops[i]? = some o ∧ ∀ w, G w0 w → (∀ j, j < i → waits md ops ops.size i j = true → Xs j (val' j) w) → ∀ K' : Act → World → Prop, (∀ v w', G w w' → Xs i v w' → K' ((putAll ops val' a0 i).put o.dst v) w') → o.wpIn F n P (putAll ops val' a0 i) w K' (fun _ _ _ => False)) ∧
      ∃ valF, (∀ j, j < m + k → valF j = val' j) ∧ K valF (putAll ops val' a0 (m + k))
  | 0, k, val, val', _, he, h => ⟨fun i h1 h2 => absurd h2 (by omega), val, by simpa using he, by simpa [factWalk] using h⟩
  | m + 1, k, val, val', hk, he, h => by
    have hlt : k < ops.toList.length := by simp; omega
    rw [List.drop_eq_getElem_cons hlt, List.take_succ_cons] at h
    obtain ⟨hx, hrest⟩ := h
    have hko : ops[k]? = some ops.toList[k] := by simp
    have h2 := hrest (val' k)
    have e1 : putAll ops val' a0 (k + 1) = (putAll ops val' a0 k).put ops.toList[k].dst (val' k) := by
      rw [putAll, hko]
      rfl
    rw [← e1] at h2
    obtain ⟨h3, valF, h4, h5⟩ := fact_vals m (k + 1) _ val' (by omega) (fun j hj => by
      by_cases hjk : j = k
      · subst hjk; simp
      · rw [if_neg hjk]; exact he j (by omega)) h2
    refine ⟨fun i hi hi2 => ?_, valF, fun j hj => h4 j (by omega), by rw [show m + 1 + k = m + (k + 1) by omega]; exact h5⟩
    by_cases hik : i = k
    · subst hik
      exact ⟨_, hko, fun w hw hf K' hK' => hx w hw (fun j hj hwt => by rw [he j hj]; exact hf j hj hwt) K' hK'⟩
    · exact h3 i (by omega) (by omega)
end
/-- **A region in the order of the text, each operation with its fact.** -/
theorem wpIn_region_facts {k id : Nat} {a0 : Act} {w0 : World} (G : World → World → Prop) (Xs : Nat → Value → World → Prop) (hm : P.follows .mixedOrders = true) (hp : parOk .any ops k a0.tmps.size = true)
    (hrefl : G w0.drew w0.drew) (hG : ∀ a b c, G a b → G b c → G a c) (hX : ∀ i v w w', G w w' → Xs i v w → Xs i v w')
    (h : factWalk F n P .any ops G w0.drew Xs 0 (ops.toList.take k) (fun _ => undef) a0 fun val aF => ∀ w, G w0.drew w → (∀ i, i < k → Xs i (val i) w) → wpAnyIn F n P .any ops Q (ops.size - k) (maskOf k ops.size) aF w) : (Code.region id ops true).wpIn F n P Q a0 w0 := by
  have hle := parOk_le hp
  refine wpIn_region_par hm G (fun i v w => Xs i (v i) w) hp hrefl hG (fun i hi v v' w w' he hg hr => ?_) (fun i hi v w hw hr K hK => ?_) (fun v w hw hr => ?_)
  · rw [← he i (.inl rfl)]
    exact hX _ _ _ _ hg hr
  · obtain ⟨hs, -⟩ := fact_vals (a0 := a0) k 0 (fun _ => undef) v (by omega) (fun j hj => by omega) h
    obtain ⟨o, ho, hx⟩ := hs i (by omega) (by omega)
    obtain ⟨o', d, ho', hgd, hsl, hdf, hd, hds, hall, hself, haft⟩ := parOk_op hp hi
    rw [ho] at ho'
    cases ho'
    unfold wpOpIn
    simp only [ho, Region.wanted, hgd, if_true]
    refine hx w hw (fun j hj hwt => hr j (by omega) hwt) K (fun v' w' hg hx' => ?_)
    have := hK v' w' hg (by simpa using hx')
    simpa [ho] using this
  · obtain ⟨-, valF, hv, hK⟩ := fact_vals (a0 := a0) k 0 (fun _ => undef) v (by omega) (fun j hj => by omega) h
    exact hK w hw (fun i hi => by rw [hv i (by omega)]; exact hr i hi)
end
end Go.Proofs.YtjaocgmicdnghaaGreatDoor
