/-
  A REGION IN THE ORDER OF THE TEXT, and what two of its operations know of each other, over whatever program. No program is named here.
-/
import Derived.Test.YtjaocgmicdnghaaGreatDoorPar
namespace Go.Proofs.YtjaocgmicdnghaaGreatDoor
set_option linter.unusedSimpArgs false
set_option linter.unusedVariables false
open Go Go.RowKit
section
variable {F : Fence} {n : Nat} {P : Program} {md : Region.Mode} {ops : Array Oper} {Q : Exit → Act → World → Prop}

/-- Of two operations the later one found the other one's fact. -/
def Met (G : World → World → Prop) (Xs Fp : Nat → Value → World → Prop) (w0 : World) (val : Nat → Value) (i j : Nat) : Prop :=
  (∃ W, G w0 W ∧ Fp i (val i) W ∧ Xs j (val j) W) ∨ (∃ W, G w0 W ∧ Fp j (val j) W ∧ Xs i (val i) W)
/-- **The same; Fp: what holds of a value in the world ahead of its operation.** -/
theorem wpAnyIn_par2 {k : Nat} {a0 : Act} {w0 : World} (G : World → World → Prop) (Xs Fp : Nat → Value → World → Prop) (hp : parOk md ops k a0.tmps.size = true)
    (hG : ∀ a b c, G a b → G b c → G a c)
    (hX : ∀ i v w w', G w w' → Xs i v w → Xs i v w')
    (hop : ∀ i, i < k → ∀ val w, G w0 w → (∀ j, j < k → waits md ops ops.size i j = true → Xs j (val j) w) → ∀ K : Act → World → Prop, (∀ v w', G w w' → Xs i v w' → Fp i v w → K ((putAll ops val a0 i).put ((ops[i]?).bind (·.dst)) v) w') → wpOpIn F n P ops (fun _ _ _ => False) i K (putAll ops val a0 i) w)
    (hend : ∀ val w listed, G w0 w → (∀ i, i < k → Xs i (val i) w) → (∀ i j, i < k → j < k → i ≠ j → Met G Xs Fp w0 val i j) → listed.size = ops.size → (∀ i, listed.getD i false = decide (i < k)) → wpAnyIn F n P md ops Q (ops.size - k) listed (putAll ops val a0 k) w) :
    ∀ (m : Nat) (listed : Array Bool) (val : Nat → Value) (a : Act) (w : World), left k listed + (ops.size - k) = m → G w0 w → listed.size = ops.size → (∀ i, k ≤ i → listed.getD i false = false) → Closed md ops listed →
      Like ops k val (fun j => listed.getD j false) a0 a → (∀ i, i < k → listed.getD i false = true → Xs i (val i) w) → (∀ i j, i < k → j < k → i ≠ j → listed.getD i false = true → listed.getD j false = true → Met G Xs Fp w0 val i j) → wpAnyIn F n P md ops Q m listed a w := by
  intro m
  have hkle := parOk_le hp
  induction m with
  | zero =>
    intro listed val a w hm hg hsz hhi hc hl hr hmt
    have hall := left_zero (k := k) (listed := listed) (by omega)
    have hlist : ∀ i, listed.getD i false = decide (i < k) := fun i => by
      by_cases h : i < k
      · rw [hall i h]; simp [h]
      · rw [hhi i (by omega)]; simp [h]
    have ha : a = putAll ops val a0 k := hl.ext (like_putAll hp val k (Nat.le_refl _)) (fun i hi => ⟨hlist i, fun _ => rfl⟩)
    have := hend val w listed hg (fun i hi => hr i hi (hall i hi)) (fun i j hi hj hij => hmt i j hi hj hij (hall i hi) (hall j hj)) hsz hlist
    rw [show ops.size - k = 0 by omega] at this
    rw [ha]
    exact this
  | succ m ih =>
    intro listed val a w hm hg hsz hhi hc hl hr hmt
    by_cases h0 : left k listed = 0
    · have hall := left_zero h0
      have hlist : ∀ i, listed.getD i false = decide (i < k) := fun i => by
        by_cases h : i < k
        · rw [hall i h]; simp [h]
        · rw [hhi i (by omega)]; simp [h]
      have ha : a = putAll ops val a0 k := hl.ext (like_putAll hp val k (Nat.le_refl _)) (fun i hi => ⟨hlist i, fun _ => rfl⟩)
      have := hend val w listed hg (fun i hi => hr i hi (hall i hi)) (fun i j hi hj hij => hmt i j hi hj hij (hall i hi) (hall j hj)) hsz hlist
      rw [show ops.size - k = m + 1 by omega] at this
      rw [ha]
      exact this
    · have hready : ∀ i, i ∈ Region.ready md ops listed ↔ listed.getD i true = false ∧ ∃ o, ops[i]? = some o ∧ ∀ e ∈ o.after, Region.binds md e = true → listed.getD e.on false = true := fun i => mem_ready
      refine ⟨fun hnil => ?_, fun i hi => ?_⟩
      · exfalso
        obtain ⟨i, hik, hlf, hlow⟩ := left_some h0
        obtain ⟨o, d, ho, _, _, _, _, _, _, _, haft⟩ := parOk_op hp hik
        have hm : i ∈ Region.ready md ops listed := (hready i).2 ⟨by
          rw [Array.getD_eq_getD_getElem?, Array.getElem?_eq_getElem (by omega)] at hlf ⊢
          exact hlf, o, ho, fun e he hb => hlow _ (haft e he hb)⟩
        rw [hnil] at hm
        cases hm
      · obtain ⟨hun, o, ho, hdeps⟩ := (hready i).1 hi
        have hisz : i < listed.size := by
          rcases Nat.lt_or_ge i listed.size with h | h
          · exact h
          · rw [Array.getD_eq_getD_getElem?, Array.getElem?_eq_none h] at hun
            cases hun
        have hlf : listed.getD i false = false := by
          rw [Array.getD_eq_getD_getElem?, Array.getElem?_eq_getElem hisz] at hun ⊢
          exact hun
        have hik : i < k := by
          rcases Nat.lt_or_ge i k with h | h
          · exact h
          · exfalso
            obtain ⟨j, hj, hjl, _⟩ := left_some h0
            have := closed_waits hc _ _ _ ho hdeps (parOk_tail hp hj (by omega) h)
            rw [hjl] at this
            cases this
        obtain ⟨o', d, ho', hgd, hs, hdf, hd, hds, hall, _, haft⟩ := parOk_op hp hik
        rw [ho] at ho'
        cases ho'
        have hb := like_putAll hp val i (by omega)
        refine op_moves (X := fun v w' => G w w' ∧ Xs i v w' ∧ Fp i v w) ho hgd hs hdf hd (by rw [hb.s]; exact hds) (hl.looks hp hc hik ho hdeps hlf) (fun K hK => ?_) (fun v w' hx => ?_)
        · refine hop i hik val w hg (fun j hj hw => hr j hj (closed_waits hc _ _ _ ho hdeps hw)) K (fun v w' h1 h2 h3 => ?_)
          have := hK v w' ⟨h1, h2, h3⟩
          simpa [ho] using this
        · obtain ⟨hgw, hRi, hFi⟩ := hx
          have hl' := hl.put hp hik ho v
          refine ih (listed.setIfInBounds i true) (fun j => if j = i then v else val j) _ w' ?_ (hG _ _ _ hg hgw) (by simp [hsz]) ?_ ?_ ?_ ?_ ?_
          · have := left_set hik hisz hlf
            omega
          · intro j hj
            rw [getD_set hisz, hhi j hj]
            simp
            omega
          · intro j o2 hjl ho2 e he hbd
            rw [getD_set hisz] at hjl ⊢
            simp only [Bool.or_eq_true, beq_iff_eq] at hjl ⊢
            rcases hjl with rfl | hjl
            · rw [ho] at ho2
              cases ho2
              exact .inr (hdeps e he hbd)
            · exact .inr (hc j o2 hjl ho2 e he hbd)
          · have e : (fun j => (listed.setIfInBounds i true).getD j false) = fun j => j == i || listed.getD j false := funext fun j => getD_set hisz
            rw [e]
            exact hl'
          · intro j hj hjl
            rw [getD_set hisz] at hjl
            simp only [Bool.or_eq_true, beq_iff_eq] at hjl
            by_cases hji : j = i
            · subst hji
              simpa using hRi
            · have hjl2 : listed.getD j false = true := by rcases hjl with h | h; exact absurd h hji; exact h
              simpa [hji] using hX j _ w w' hgw (hr j hj hjl2)
          · intro p q hp1 hq1 hpq hpl hql
            rw [getD_set hisz] at hpl hql
            simp only [Bool.or_eq_true, beq_iff_eq] at hpl hql
            by_cases hpi : p = i
            · subst hpi
              have hqi : q ≠ p := fun e => hpq e.symm
              have hql2 : listed.getD q false = true := by rcases hql with h | h; exact absurd h hqi; exact h
              exact .inl ⟨w, hg, by simpa using hFi, by simpa [hqi] using hr q hq1 hql2⟩
            · have hpl2 : listed.getD p false = true := by rcases hpl with h | h; exact absurd h hpi; exact h
              by_cases hqi : q = i
              · subst hqi
                exact .inr ⟨w, hg, by simpa using hFi, by simpa [hpi] using hr p hp1 hpl2⟩
              · have hql2 : listed.getD q false = true := by rcases hql with h | h; exact absurd h hqi; exact h
                have := hmt p q hp1 hq1 hpq hpl2 hql2
                simpa [Met, hpi, hqi] using this

/-- The operations in the order of the text, each with its fact, and what holds of its value in the world ahead of it. -/
def factWalk2 (F : Fence) (n : Nat) (P : Program) (md : Region.Mode) (ops : Array Oper) (G : World → World → Prop) (w0 : World) (Xs Fp : Nat → Value → World → Prop) : Nat → List Oper → (Nat → Value) → Act → ((Nat → Value) → Act → Prop) → Prop
  | _, [], val, a, K => K val a
  | i, o :: rest, val, a, K => (∀ w, G w0 w → (∀ j, j < i → waits md ops ops.size i j = true → Xs j (val j) w) → ∀ K' : Act → World → Prop, (∀ v w', G w w' → Xs i v w' → Fp i v w → K' (a.put o.dst v) w') → o.wpIn F n P a w K' (fun _ _ _ => False)) ∧
      ∀ v, factWalk2 F n P md ops G w0 Xs Fp (i + 1) rest (fun q => if q = i then v else val q) (a.put o.dst v) K
section
variable {G : World → World → Prop} {w0 : World} {Xs Fp : Nat → Value → World → Prop}
theorem factWalk2_nil {i : Nat} {val : Nat → Value} {a : Act} {K : (Nat → Value) → Act → Prop} (h : K val a) : factWalk2 F n P md ops G w0 Xs Fp i [] val a K := h
theorem factWalk2_cons {i : Nat} {o : Oper} {rest : List Oper} {val : Nat → Value} {a : Act} {K : (Nat → Value) → Act → Prop}
    (h1 : ∀ w, G w0 w → (∀ j, j < i → waits md ops ops.size i j = true → Xs j (val j) w) → ∀ K' : Act → World → Prop, (∀ v w', G w w' → Xs i v w' → Fp i v w → K' (a.put o.dst v) w') → o.wpIn F n P a w K' (fun _ _ _ => False))
    (h3 : ∀ v, factWalk2 F n P md ops G w0 Xs Fp (i + 1) rest (fun q => if q = i then v else val q) (a.put o.dst v) K) : factWalk2 F n P md ops G w0 Xs Fp i (o :: rest) val a K := ⟨h1, h3⟩
theorem fact_vals2 {a0 : Act} {K : (Nat → Value) → Act → Prop} : ∀ (m k : Nat) (val val' : Nat → Value), m + k ≤ ops.size → (∀ j, j < k → val j = val' j) → factWalk2 F n P md ops G w0 Xs Fp k ((ops.toList.drop k).take m) val (putAll ops val' a0 k) K →
    (∀ i, k ≤ i → i < m + k → ∃ o, ops[i]? = some o ∧ ∀ w, G w0 w → (∀ j, j < i → waits md ops ops.size i j = true → Xs j (val' j) w) → ∀ K' : Act → World → Prop, (∀ v w', G w w' → Xs i v w' → Fp i v w → K' ((putAll ops val' a0 i).put o.dst v) w') → o.wpIn F n P (putAll ops val' a0 i) w K' (fun _ _ _ => False)) ∧
      ∃ valF, (∀ j, j < m + k → valF j = val' j) ∧ K valF (putAll ops val' a0 (m + k))
  | 0, k, val, val', _, he, h => ⟨fun i h1 h2 => absurd h2 (by omega), val, by simpa using he, by simpa [factWalk2] using h⟩
  | m + 1, k, val, val', hk, he, h => by
    have hlt : k < ops.toList.length := by simp; omega
    rw [List.drop_eq_getElem_cons hlt, List.take_succ_cons] at h
    obtain ⟨hx, hrest⟩ := h
    have hko : ops[k]? = some ops.toList[k] := by simp
    have h2 := hrest (val' k)
    have e1 : putAll ops val' a0 (k + 1) = (putAll ops val' a0 k).put ops.toList[k].dst (val' k) := by
      rw [putAll, hko]
      rfl
    rw [← e1] at h2
    obtain ⟨h3, valF, h4, h5⟩ := fact_vals2 m (k + 1) _ val' (by omega) (fun j hj => by
      by_cases hjk : j = k
      · subst hjk; simp
      · rw [if_neg hjk]; exact he j (by omega)) h2
    refine ⟨fun i hi hi2 => ?_, valF, fun j hj => h4 j (by omega), by rw [show m + 1 + k = m + (k + 1) by omega]; exact h5⟩
    by_cases hik : i = k
    · subst hik
      exact ⟨_, hko, fun w hw hf K' hK' => hx w hw (fun j hj hwt => by rw [he j hj]; exact hf j hj hwt) K' hK'⟩
    · exact h3 i (by omega) (by omega)
end
/-- **A region in the order of the text, each operation with its fact; of two, the later one found the other one's.** -/
theorem wpIn_region_facts2 {k id : Nat} {a0 : Act} {w0 : World} (G : World → World → Prop) (Xs Fp : Nat → Value → World → Prop) (hm : P.follows .mixedOrders = true) (hp : parOk .any ops k a0.tmps.size = true)
    (hrefl : G w0.drew w0.drew) (hG : ∀ a b c, G a b → G b c → G a c) (hX : ∀ i v w w', G w w' → Xs i v w → Xs i v w')
    (h : factWalk2 F n P .any ops G w0.drew Xs Fp 0 (ops.toList.take k) (fun _ => undef) a0 fun val aF => ∀ w, G w0.drew w → (∀ i, i < k → Xs i (val i) w) → (∀ i j, i < k → j < k → i ≠ j → Met G Xs Fp w0.drew val i j) → wpAnyIn F n P .any ops Q (ops.size - k) (maskOf k ops.size) aF w) : (Code.region id ops true).wpIn F n P Q a0 w0 := by
  have hle := parOk_le hp
  refine wpIn_region_any hm ?_
  change wpAnyIn _ _ _ _ _ _ _ _ _ (World.drew _)
  have hgd : ∀ j, (Array.replicate ops.size false).getD j false = false := fun j => by
    rw [Array.getD_eq_getD_getElem?, Array.getElem?_replicate]
    split <;> rfl
  refine wpAnyIn_par2 G Xs Fp hp hG hX (fun i hi v w hw hr K hK => ?_) (fun v w listed hw hr hmt h3 h4 => ?_) ops.size (Array.replicate ops.size false) (fun _ => undef) a0 w0.drew ?_ hrefl (by simp) (fun i _ => hgd i) ?_ ?_ ?_ ?_
  · obtain ⟨hs, -⟩ := fact_vals2 (a0 := a0) k 0 (fun _ => undef) v (by omega) (fun j hj => by omega) h
    obtain ⟨o, ho, hx⟩ := hs i (by omega) (by omega)
    obtain ⟨o', d, ho', hgd, hsl, hdf, hd, hds, hall, hself, haft⟩ := parOk_op hp hi
    rw [ho] at ho'
    cases ho'
    unfold wpOpIn
    simp only [ho, Region.wanted, hgd, if_true]
    refine hx w hw (fun j hj hwt => hr j (by omega) hwt) K (fun v' w' hg hx' hf' => ?_)
    have := hK v' w' hg hx' hf'
    simpa [ho] using this
  · rw [mask_eq hle h3 h4]
    obtain ⟨-, valF, hv, hK⟩ := fact_vals2 (a0 := a0) k 0 (fun _ => undef) v (by omega) (fun j hj => by omega) h
    exact hK w hw (fun i hi => by rw [hv i (by omega)]; exact hr i hi) (fun i j hi hj hij => by
      have := hmt i j hi hj hij
      unfold Met at this ⊢
      rw [hv i (by omega), hv j (by omega)]
      exact this)
  · have : left k (Array.replicate ops.size false) = k := by
      unfold left
      rw [List.countP_eq_length.2 (fun i _ => by rw [hgd i]; rfl), List.length_range]
    omega
  · intro i o hl
    rw [hgd i] at hl
    cases hl
  · exact ⟨rfl, rfl, fun i o d _ _ _ => by rw [hgd i]; rfl, fun _ _ => rfl⟩
  · intro i _ hl
    rw [hgd i] at hl
    cases hl
  · intro i j _ _ _ hl
    rw [hgd i] at hl
    cases hl
end
end Go.Proofs.YtjaocgmicdnghaaGreatDoor
