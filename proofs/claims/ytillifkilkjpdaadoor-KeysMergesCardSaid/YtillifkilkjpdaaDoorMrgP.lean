/-
  WHAT MERGE GOES OVER, as lists; an index as a map. No program is named here.
-/
import Derived.Test.YtillifkilkjpdaaDoorHp7
namespace Go.Proofs.YtillifkilkjpdaaDoor
set_option linter.unusedSimpArgs false
set_option linter.unusedVariables false
open Go Go.RowKit

/-- What stands at a key. -/
def lk (m : Ents) (k : List UInt8) : Option Int := (m.find? fun e => e.1 == k).map (·.2)
theorem lk_nil (k : List UInt8) : lk [] k = none := rfl
theorem lk_cons (e : List UInt8 × Int) (m : Ents) (k : List UInt8) : lk (e :: m) k = if e.1 = k then some e.2 else lk m k := by
  unfold lk
  rw [List.find?_cons]
  by_cases h : e.1 = k
  · simp [h]
  · have : (e.1 == k) = false := by simpa using h
    simp [this, h]
theorem lk_append (a b : Ents) (k : List UInt8) : lk (a ++ b) k = (lk a k).or (lk b k) := by
  induction a with
  | nil => simp [lk_nil]
  | cons e a ih =>
    rw [List.cons_append, lk_cons, lk_cons, ih]
    split <;> simp
theorem lk_none {m : Ents} {k : List UInt8} : lk m k = none ↔ ∀ e ∈ m, e.1 ≠ k := by
  unfold lk
  simp [List.find?_eq_none]
theorem lk_in {m : Ents} {k : List UInt8} {v : Int} (h : lk m k = some v) : (k, v) ∈ m := by
  induction m with
  | nil => cases h
  | cons e m ih =>
    rw [lk_cons] at h
    split at h
    · rename_i he
      cases h
      subst he
      exact List.mem_cons_self
    · exact List.mem_cons_of_mem _ (ih h)
theorem lk_of {m : Ents} (hs : Srt m) {k : List UInt8} {v : Int} (h : (k, v) ∈ m) : lk m k = some v := by
  induction m with
  | nil => cases h
  | cons e m ih =>
    have hs1 := List.pairwise_cons.1 hs
    rw [lk_cons]
    rcases List.mem_cons.1 h with h | h
    · subst h
      rw [if_pos rfl]
    · rw [if_neg (kl_ne (hs1.1 _ h))]
      exact ih hs1.2 h
theorem fnd_lk (m : Ents) (k : List UInt8) : fnd m k = (lk m k).isSome := by
  rw [Bool.eq_iff_iff]
  simp only [fnd, List.any_eq_true, beq_iff_eq]
  constructor
  · rintro ⟨e, he, hk⟩
    cases h : lk m k with
    | none => exact absurd hk (lk_none.1 h e he)
    | some v => rfl
  · intro h
    obtain ⟨v, hv⟩ := Option.isSome_iff_exists.1 h
    exact ⟨_, lk_in hv, rfl⟩
theorem gv_lk {m : Ents} (hs : Srt m) (k : List UInt8) : gv m k = (lk m k).getD 0 := by
  unfold gv
  cases h : lk m k with
  | none => rw [fnd_lk, h]; rfl
  | some v =>
    have hf : fnd m k = true := by rw [fnd_lk, h]; rfl
    have hlt := fnd_lt hs hf
    have he := fnd_pos m hs k hlt
    rw [hf] at he
    have he : m[pos m k].1 = k := by simpa using he.symm
    rw [hf, if_pos rfl, List.getElem?_eq_getElem hlt]
    have hm : (k, m[pos m k].2) ∈ m := by
      have := List.getElem_mem hlt
      rw [show m[pos m k] = (k, m[pos m k].2) from Prod.ext he rfl] at this
      exact this
    rw [lk_of hs hm] at h
    cases h
    rfl
theorem lk_take_pos {m : Ents} (hs : Srt m) (key : List UInt8) : lk (m.take (pos m key)) key = none := by
  rw [lk_none]
  intro e he
  obtain ⟨j, hj, rfl⟩ := List.mem_iff_getElem.1 he
  rw [List.getElem_take]
  rw [List.length_take] at hj
  have := srt_pos m hs key j (by omega)
  rw [decide_eq_true (by omega)] at this
  exact kl_ne this
theorem fnd_split {m : Ents} (hs : Srt m) {key : List UInt8} (hf : fnd m key = true) : ∃ v, m = m.take (pos m key) ++ (key, v) :: m.drop (pos m key + 1) := by
  have hlt := fnd_lt hs hf
  have he := fnd_pos m hs key hlt
  rw [hf] at he
  have he : m[pos m key].1 = key := by simpa using he.symm
  refine ⟨m[pos m key].2, ?_⟩
  conv => lhs; rw [← List.take_append_drop (pos m key) m, List.drop_eq_getElem_cons hlt]
  rw [show (key, m[pos m key].2) = m[pos m key] from Prod.ext he.symm rfl]
theorem lk_mset {m : Ents} (hs : Srt m) (key : List UInt8) (u : Int) (k : List UInt8) : lk (mset m key u) k = if key = k then some u else lk m k := by
  have ht := lk_take_pos hs key
  unfold mset
  cases hf : fnd m key with
  | true =>
    rw [if_pos rfl]
    obtain ⟨v, hv⟩ := fnd_split hs hf
    have h2 : lk m k = ((lk (m.take (pos m key)) k).or (if key = k then some v else lk (m.drop (pos m key + 1)) k)) := by
      conv => lhs; rw [hv]
      rw [lk_append, lk_cons]
    rw [lk_append, lk_cons, h2]
    by_cases he : key = k
    · subst he
      simp [ht]
    · simp [he]
  | false =>
    rw [if_neg (by decide)]
    have h2 : lk m k = ((lk (m.take (pos m key)) k).or (lk (m.drop (pos m key)) k)) := by
      conv => lhs; rw [← List.take_append_drop (pos m key) m]
      rw [lk_append]
    rw [lk_append, lk_cons, h2]
    by_cases he : key = k
    · subst he
      simp [ht]
    · simp [he]
theorem lk_mdel {m : Ents} (hs : Srt m) (key : List UInt8) (k : List UInt8) : lk (mdel m key) k = if key = k then none else lk m k := by
  have ht := lk_take_pos hs key
  unfold mdel
  cases hf : fnd m key with
  | true =>
    rw [if_pos rfl]
    obtain ⟨v, hv⟩ := fnd_split hs hf
    have h2 : lk m k = ((lk (m.take (pos m key)) k).or (if key = k then some v else lk (m.drop (pos m key + 1)) k)) := by
      conv => lhs; rw [hv]
      rw [lk_append, lk_cons]
    have hd : lk (m.drop (pos m key + 1)) key = none := by
      rw [lk_none]
      intro e he
      have hs2 := hs
      rw [Srt, hv, List.pairwise_append] at hs2
      exact (kl_ne ((List.pairwise_cons.1 hs2.2.1).1 e he)).symm
    rw [lk_append, h2]
    by_cases he : key = k
    · subst he
      simp [ht, hd]
    · simp [he]
  | false =>
    rw [if_neg (by decide)]
    by_cases he : key = k
    · subst he
      rw [if_pos rfl]
      rw [fnd_lk] at hf
      simpa using hf
    · rw [if_neg he]
theorem srt_ext : ∀ {a b : Ents}, Srt a → Srt b → (∀ k, lk a k = lk b k) → a = b
  | [], [], _, _, _ => rfl
  | [], y :: b, _, _, h => by have := h y.1; rw [lk_nil, lk_cons, if_pos rfl] at this; cases this
  | x :: a, [], _, _, h => by have := h x.1; rw [lk_nil, lk_cons, if_pos rfl] at this; cases this
  | x :: a, y :: b, ha, hb, h => by
    have ha1 := List.pairwise_cons.1 ha
    have hb1 := List.pairwise_cons.1 hb
    have key : ∀ {x y : List UInt8 × Int} {a b : Ents}, (∀ e ∈ b, kl y.1 e.1 = true) → lk (x :: a) x.1 = lk (y :: b) x.1 → kl x.1 y.1 = false := by
      intro x y a b hb h
      rw [lk_cons, if_pos rfl] at h
      have hm := lk_in h.symm
      rcases List.mem_cons.1 hm with hm | hm
      · rw [show y.1 = x.1 by rw [← hm]]; exact kl_irr _
      · exact kl_asym (hb _ hm)
    have hxy : x.1 = y.1 := kl_tot _ _ (key hb1.1 (h x.1)) (key ha1.1 (h y.1).symm)
    have hv : x.2 = y.2 := by
      have := h x.1
      rw [lk_cons, lk_cons, if_pos rfl, if_pos hxy.symm] at this
      exact Option.some.inj this
    have hab : a = b := srt_ext ha1.2 hb1.2 fun k => by
      have hk := h k
      rw [lk_cons, lk_cons] at hk
      by_cases e : x.1 = k
      · have h1 : lk a k = none := lk_none.2 fun e' he => by rw [← e]; exact (kl_ne (ha1.1 e' he)).symm
        have h2 : lk b k = none := lk_none.2 fun e' he => by rw [← e, hxy]; exact (kl_ne (hb1.1 e' he)).symm
        rw [h1, h2]
      · rw [if_neg e, if_neg (hxy ▸ e)] at hk
        exact hk
    rw [hab, show x = y from Prod.ext hxy hv]

/-- All of a row's entries set, one behind the other. -/
def fset (acc m : Ents) : Ents := m.foldl (fun a e => mset a e.1 e.2) acc
theorem srt_fset {m : Ents} : ∀ {acc : Ents}, Srt acc → Srt (fset acc m) := by
  unfold fset
  induction m with
  | nil => intro acc h; exact h
  | cons e m ih => intro acc h; exact ih (srt_mset h _ _)
theorem fset_snoc (acc m : Ents) (e : List UInt8 × Int) : fset acc (m ++ [e]) = mset (fset acc m) e.1 e.2 := by simp [fset]
theorem lk_fset {m : Ents} (k : List UInt8) : ∀ {acc : Ents}, Srt m → Srt acc → lk (fset acc m) k = (lk m k).or (lk acc k) := by
  induction m with
  | nil => intro acc _ _; simp [fset, lk_nil]
  | cons e m ih =>
    intro acc hm ha
    have hs1 := List.pairwise_cons.1 hm
    show lk (fset (mset acc e.1 e.2) m) k = _
    rw [ih hs1.2 (srt_mset ha _ _), lk_mset ha, lk_cons]
    by_cases he : e.1 = k
    · have h1 : lk m k = none := lk_none.2 fun e' he' => by rw [← he]; exact (kl_ne (hs1.1 e' he')).symm
      simp [he, h1]
    · simp [he]
/-- What Merge goes over. -/
def mrg (ms : List Ents) : Ents := ms.foldr (fun m acc => fset acc m) []
theorem srt_mrg (ms : List Ents) : Srt (mrg ms) := by
  induction ms with
  | nil => exact List.Pairwise.nil
  | cons m ms ih => exact srt_fset ih
theorem lk_mrg {ms : List Ents} (hm : ∀ m ∈ ms, Srt m) (k : List UInt8) : lk (mrg ms) k = ms.findSome? (lk · k) := by
  induction ms with
  | nil => rfl
  | cons m ms ih =>
    show lk (fset (mrg ms) m) k = _
    rw [lk_fset k (hm _ List.mem_cons_self) (srt_mrg ms), ih fun m h => hm m (List.mem_cons_of_mem _ h), List.findSome?_cons]
    cases lk m k <;> rfl
theorem mset_len_le (m : Ents) (key : List UInt8) (u : Int) : (mset m key u).length ≤ m.length + 1 := mset_len m key u
theorem fset_len (m : Ents) : ∀ acc : Ents, (fset acc m).length ≤ acc.length + m.length := by
  induction m with
  | nil => intro acc; exact Nat.le_refl _
  | cons e m ih =>
    intro acc
    have h1 := ih (mset acc e.1 e.2)
    have h2 := mset_len acc e.1 e.2
    rw [List.length_cons]
    show (fset (mset acc e.1 e.2) m).length ≤ _
    omega
def tot (ms : List Ents) : Nat := (ms.map (·.length)).sum
theorem mrg_len (ms : List Ents) : (mrg ms).length ≤ tot ms := by
  induction ms with
  | nil => exact Nat.le_refl _
  | cons m ms ih =>
    have h1 := fset_len m (mrg ms)
    show (fset (mrg ms) m).length ≤ _
    unfold tot at *
    rw [List.map_cons, List.sum_cons]
    omega

/-- The fronts of the first rows. -/
structure FS (ms : List Ents) (i : Nat) (fs : List Frt) : Prop where
  sub : ∀ f ∈ fs, ∃ m, ms[f.pl]? = some m ∧ f.l.Sublist m
  all : ∀ p, p < i → ∀ m, ms[p]? = some m → ∀ e ∈ m, ∃ f ∈ fs, f.pl = p ∧ e ∈ f.l
theorem FS.zero (ms : List Ents) : FS ms 0 [] := ⟨fun _ h => (nomatch h), fun _ h => absurd h (Nat.not_lt_zero _)⟩
theorem FS.skip {ms : List Ents} {i : Nat} {fs : List Frt} (h : FS ms i fs) (he : ms[i]? = some []) : FS ms (i + 1) fs :=
  ⟨h.sub, fun p hp m hm e hem => by
    rcases Nat.lt_or_ge p i with h1 | h1
    · exact h.all p h1 m hm e hem
    · have : p = i := by omega
      subst this
      rw [he] at hm
      cases hm
      cases hem⟩
theorem FS.push {ms : List Ents} {i : Nat} {fs fs' : List Frt} (h : FS ms i fs) (f : Frt) (he : ms[i]? = some f.l) (hp : f.pl = i) (hq : fs'.Perm (fs ++ [f])) : FS ms (i + 1) fs' := by
  constructor
  · intro g hg
    rcases List.mem_append.1 (hq.mem_iff.1 hg) with hg | hg
    · exact h.sub g hg
    · rw [List.mem_singleton.1 hg]
      exact ⟨_, hp ▸ he, List.Sublist.refl _⟩
  · intro p hpi m hm e hem
    rcases Nat.lt_or_ge p i with h1 | h1
    · obtain ⟨g, hg, h2⟩ := h.all p h1 m hm e hem
      exact ⟨g, hq.mem_iff.2 (List.mem_append_left _ hg), h2⟩
    · have : p = i := by omega
      subst this
      rw [he] at hm
      cases hm
      exact ⟨f, hq.mem_iff.2 (List.mem_append_right _ List.mem_cons_self), hp, hem⟩

/-- Where a merge stands: the fronts, what was told last, what was told. -/
structure MS (ms : List Ents) (fs : List Frt) (bg : Bool) (last : List UInt8) (pre : Ents) : Prop where
  sub : ∀ f ∈ fs, ∃ m, ms[f.pl]? = some m ∧ f.l.Sublist m
  all : ∀ p m, ms[p]? = some m → ∀ e ∈ m, (∃ f ∈ fs, f.pl = p ∧ e ∈ f.l) ∨ (bg = true ∧ kl last e.1 = false)
  lo : bg = true → ∀ f ∈ fs, ∀ e ∈ f.l, kl e.1 last = false
  pre0 : pre = (mrg ms).take pre.length
  preB : bg = true → (∀ e ∈ pre, kl last e.1 = false) ∧ ∃ e ∈ pre, e.1 = last
  preN : bg = false → pre = []
section
variable {ms : List Ents} {fs : List Frt} {bg : Bool} {last : List UInt8} {pre : Ents}
theorem FS.begin_ (h : FS ms ms.length fs) : MS ms fs false [] [] :=
  ⟨h.sub, fun p m hm e he => .inl (h.all p (List.getElem?_eq_some_iff.1 hm).1 m hm e he), fun h => (nomatch h), rfl, fun h => (nomatch h), fun _ => rfl⟩
theorem MS.perm {fs' : List Frt} (h : MS ms fs bg last pre) (hp : fs'.Perm fs) : MS ms fs' bg last pre :=
  ⟨fun f hf => h.sub f (hp.mem_iff.1 hf), fun p m hm e he => (h.all p m hm e he).imp (fun ⟨f, hf, h⟩ => ⟨f, hp.mem_iff.2 hf, h⟩) id, fun hb f hf => h.lo hb f (hp.mem_iff.1 hf), h.pre0, h.preB, h.preN⟩
theorem MS.gone {f : Frt} (h : MS ms (f :: fs) bg last pre) (he : f.l = []) : MS ms fs bg last pre :=
  ⟨fun g hg => h.sub g (List.mem_cons_of_mem _ hg), fun p m hm e hem => (h.all p m hm e hem).imp (fun ⟨g, hg, h1, h2⟩ => by
    rcases List.mem_cons.1 hg with rfl | hg
    · rw [he] at h2; cases h2
    · exact ⟨g, hg, h1, h2⟩) id, fun hb g hg => h.lo hb g (List.mem_cons_of_mem _ hg), h.pre0, h.preB, h.preN⟩
theorem MS.skip {f0 f1 : Frt} {e : List UInt8 × Int} {t : Ents} (h : MS ms (f0 :: fs) true last pre) (h0 : f0.l = e :: t) (h1 : f1.l = t) (hp : f1.pl = f0.pl) (he : e.1 = last) : MS ms (f1 :: fs) true e.1 pre := by
  subst he
  refine ⟨fun g hg => ?_, fun p m hm x hx => ?_, fun hb g hg x hx => ?_, h.pre0, h.preB, h.preN⟩
  · rcases List.mem_cons.1 hg with rfl | hg
    · obtain ⟨m, h2, h3⟩ := h.sub f0 List.mem_cons_self
      refine ⟨m, hp ▸ h2, ?_⟩
      rw [h0] at h3
      rw [h1]
      exact (List.sublist_cons_self _ _).trans h3
    · exact h.sub g (List.mem_cons_of_mem _ hg)
  · rcases h.all p m hm x hx with ⟨g, hg, h2, h3⟩ | h2
    · rcases List.mem_cons.1 hg with rfl | hg
      · rw [h0] at h3
        rcases List.mem_cons.1 h3 with rfl | h3
        · exact .inr ⟨rfl, kl_irr _⟩
        · exact .inl ⟨f1, List.mem_cons_self, hp.trans h2, h1 ▸ h3⟩
      · exact .inl ⟨g, List.mem_cons_of_mem _ hg, h2, h3⟩
    · exact .inr h2
  · rcases List.mem_cons.1 hg with rfl | hg
    · exact h.lo hb f0 List.mem_cons_self x (by rw [h0]; rw [h1] at hx; exact List.mem_cons_of_mem _ hx)
    · exact h.lo hb g (List.mem_cons_of_mem _ hg) x hx
theorem MS.tell {f0 f1 : Frt} {e : List UInt8 × Int} {t : Ents} (hs : ∀ m ∈ ms, Srt m) (h : MS ms (f0 :: fs) bg last pre) (hne : ∀ f ∈ fs, f.l ≠ []) (hr : ∀ f ∈ fs, fless f f0 = false) (h0 : f0.l = e :: t) (h1 : f1.l = t) (hp : f1.pl = f0.pl) (he : bg = true → e.1 ≠ last) :
    (mrg ms)[pre.length]? = some e ∧ MS ms (f1 :: fs) true e.1 (pre ++ [e]) := by
  have k0 : fkey f0 = e.1 := by unfold fkey; rw [h0]; rfl
  have srtl : ∀ f ∈ f0 :: fs, Srt f.l := fun f hf => by
    obtain ⟨m, h2, h3⟩ := h.sub f hf
    exact List.Pairwise.sublist h3 (hs m (List.mem_of_getElem? h2))
  have hd : ∀ f ∈ fs, ∀ x ∈ f.l, kl x.1 (fkey f) = false := fun f hf x hx => by
    have h2 := srtl f (List.mem_cons_of_mem _ hf)
    unfold fkey
    cases hl : f.l with
    | nil => rw [hl] at hx; cases hx
    | cons y m =>
      rw [hl] at hx h2
      rcases List.mem_cons.1 hx with rfl | hx
      · exact kl_irr _
      · exact kl_asym ((List.pairwise_cons.1 h2).1 _ hx)
  have F0 : ∀ f ∈ fs, kl (fkey f) e.1 = false := fun f hf => by
    have := hr f hf
    unfold fless at this
    rw [Bool.or_eq_false_iff, k0] at this
    exact this.1
  have F1 : ∀ f ∈ f0 :: fs, ∀ x ∈ f.l, kl x.1 e.1 = false := fun f hf x hx => by
    rcases List.mem_cons.1 hf with rfl | hf
    · rw [h0] at hx
      have h2 := srtl f List.mem_cons_self
      rw [h0] at h2
      rcases List.mem_cons.1 hx with rfl | hx
      · exact kl_irr _
      · exact kl_asym ((List.pairwise_cons.1 h2).1 _ hx)
    · exact kl_le_trans (F0 f hf) (hd f hf x hx)
  have F2 : bg = true → kl last e.1 = true := fun hb => by
    cases hk : kl last e.1 with
    | true => rfl
    | false => exact absurd (kl_tot _ _ (h.lo hb f0 List.mem_cons_self e (by rw [h0]; exact List.mem_cons_self)) hk) (he hb)
  have hG := srt_mrg ms
  have hlk : lk (mrg ms) e.1 = some e.2 := by
    rw [lk_mrg hs, List.findSome?_eq_some_iff]
    obtain ⟨m0, h2, h3⟩ := h.sub f0 List.mem_cons_self
    obtain ⟨hlt, hm0⟩ := List.getElem?_eq_some_iff.1 h2
    refine ⟨ms.take f0.pl, m0, ms.drop (f0.pl + 1), ?_, ?_, ?_⟩
    · conv => lhs; rw [← List.take_append_drop f0.pl ms, List.drop_eq_getElem_cons hlt, hm0]
    · exact lk_of (hs m0 (List.mem_of_getElem? h2)) (h3.mem (by rw [h0]; exact List.mem_cons_self))
    · intro m hm
      obtain ⟨p, hp1, hp2⟩ := List.mem_iff_getElem.1 hm
      rw [List.length_take] at hp1
      rw [List.getElem_take] at hp2
      cases hv : lk m e.1 with
      | none => rfl
      | some v =>
        have hmp : ms[p]? = some m := by rw [← hp2]; exact List.getElem?_eq_getElem (by omega)
        rcases h.all p m hmp _ (lk_in hv) with ⟨f, hf, h4, h5⟩ | ⟨h4, h5⟩
        · rcases List.mem_cons.1 hf with rfl | hf
          · omega
          · have e1 : fkey f = e.1 := kl_tot _ _ (F0 f hf) (hd f hf (e.1, v) h5)
            have := hr f hf
            unfold fless at this
            rw [k0, e1, decide_eq_true rfl, decide_eq_true (by omega), Bool.and_self, Bool.or_true] at this
            cases this
        · rw [F2 h4] at h5
          cases h5
  have hin : e ∈ mrg ms := lk_in hlk
  have hnp : e ∉ pre := fun hx => by
    cases hb : bg with
    | true =>
      have := (h.preB hb).1 e hx
      rw [F2 hb] at this
      cases this
    | false => rw [h.preN hb] at hx; cases hx
  obtain ⟨R, hR⟩ : ∃ R, (mrg ms).drop pre.length = R := ⟨_, rfl⟩
  have hsplit : mrg ms = pre ++ R := by
    rw [← hR]
    conv => rhs; rw [h.pre0]
    rw [show ((mrg ms).take pre.length).length = pre.length by rw [← h.pre0]]
    exact (List.take_append_drop _ _).symm
  have hinR : e ∈ R := by
    rw [hsplit] at hin
    rcases List.mem_append.1 hin with h2 | h2
    · exact absurd h2 hnp
    · exact h2
  cases hRl : R with
  | nil => rw [hRl] at hinR; cases hinR
  | cons r R' =>
    have hG2 : Srt (pre ++ r :: R') := by rw [← hRl, ← hsplit]; exact hG
    rw [Srt, List.pairwise_append] at hG2
    have hre : r = e := by
      rw [hRl] at hinR
      rcases List.mem_cons.1 hinR with h2 | h2
      · exact h2.symm
      · exfalso
        have hlt := (List.pairwise_cons.1 hG2.2.1).1 e h2
        have hrG : (r.1, r.2) ∈ mrg ms := by rw [hsplit, hRl]; exact List.mem_append_right _ List.mem_cons_self
        have hlr := lk_of hG hrG
        rw [lk_mrg hs] at hlr
        obtain ⟨m, hm, hmr⟩ := List.exists_of_findSome?_eq_some hlr
        obtain ⟨p, hp1, hp2⟩ := List.mem_iff_getElem.1 hm
        rcases h.all p m (by rw [← hp2]; exact List.getElem?_eq_getElem hp1) _ (lk_in hmr) with ⟨f, hf, h4, h5⟩ | ⟨h4, h5⟩
        · have := F1 f hf _ h5
          rw [show kl r.1 e.1 = true from hlt] at this
          cases this
        · obtain ⟨x, hx, hxl⟩ := (h.preB h4).2
          have := hG2.2.2 x hx r List.mem_cons_self
          rw [hxl, h5] at this
          cases this
    subst hre
    have hget : (mrg ms)[pre.length]? = some r := by
      rw [hsplit, hRl, List.getElem?_append_right (Nat.le_refl _), Nat.sub_self]
      rfl
    refine ⟨hget, fun g hg => ?_, fun p m hm x hx => ?_, fun _ g hg x hx => ?_, ?_, fun _ => ⟨fun x hx => ?_, r, List.mem_append_right _ List.mem_cons_self, rfl⟩, fun h => (nomatch h)⟩
    · rcases List.mem_cons.1 hg with rfl | hg
      · obtain ⟨m, h2, h3⟩ := h.sub f0 List.mem_cons_self
        refine ⟨m, hp ▸ h2, ?_⟩
        rw [h0] at h3
        rw [h1]
        exact (List.sublist_cons_self _ _).trans h3
      · exact h.sub g (List.mem_cons_of_mem _ hg)
    · rcases h.all p m hm x hx with ⟨g, hg, h2, h3⟩ | ⟨h2, h3⟩
      · rcases List.mem_cons.1 hg with rfl | hg
        · rw [h0] at h3
          rcases List.mem_cons.1 h3 with rfl | h3
          · exact .inr ⟨rfl, kl_irr _⟩
          · exact .inl ⟨f1, List.mem_cons_self, hp.trans h2, h1 ▸ h3⟩
        · exact .inl ⟨g, List.mem_cons_of_mem _ hg, h2, h3⟩
      · refine .inr ⟨rfl, ?_⟩
        cases hk : kl r.1 x.1 with
        | false => rfl
        | true => rw [kl_trans _ _ _ (F2 h2) hk] at h3; cases h3
    · rcases List.mem_cons.1 hg with rfl | hg
      · exact F1 f0 List.mem_cons_self x (by rw [h0]; rw [h1] at hx; exact List.mem_cons_of_mem _ hx)
      · exact F1 g (List.mem_cons_of_mem _ hg) x hx
    · rw [List.length_append, List.length_singleton, List.take_add_one, ← h.pre0, hget]
      rfl
    · rcases List.mem_append.1 hx with hx | hx
      · exact kl_asym (hG2.2.2 x hx r List.mem_cons_self)
      · rw [List.mem_singleton.1 hx]; exact kl_irr _
theorem MS.done (hs : ∀ m ∈ ms, Srt m) (h : MS ms [] bg last pre) : pre.length = (mrg ms).length := by
  have h0 := congrArg List.length h.pre0
  rw [List.length_take] at h0
  rcases Nat.lt_or_ge pre.length (mrg ms).length with hlt | hge
  · exfalso
    have hG := srt_mrg ms
    obtain ⟨r, hr⟩ : ∃ r, (mrg ms)[pre.length] = r := ⟨_, rfl⟩
    have hrG : (r.1, r.2) ∈ mrg ms := by rw [← hr]; exact List.getElem_mem hlt
    have hlr := lk_of hG hrG
    rw [lk_mrg hs] at hlr
    obtain ⟨m, hm, hmr⟩ := List.exists_of_findSome?_eq_some hlr
    obtain ⟨p, hp1, hp2⟩ := List.mem_iff_getElem.1 hm
    rcases h.all p m (by rw [← hp2]; exact List.getElem?_eq_getElem hp1) _ (lk_in hmr) with ⟨f, hf, _⟩ | ⟨h4, h5⟩
    · cases hf
    · obtain ⟨x, hx, hxl⟩ := (h.preB h4).2
      rw [h.pre0] at hx
      obtain ⟨j, hj, hjx⟩ := List.mem_iff_getElem.1 hx
      rw [List.getElem_take] at hjx
      rw [List.length_take] at hj
      have := (List.pairwise_iff_getElem.1 hG) j pre.length (by omega) hlt (by omega)
      rw [hjx, hr, hxl] at this
      have h6 : kl last r.1 = false := h5
      rw [h6] at this
      cases this
  · omega
end
end Go.Proofs.YtillifkilkjpdaaDoor
