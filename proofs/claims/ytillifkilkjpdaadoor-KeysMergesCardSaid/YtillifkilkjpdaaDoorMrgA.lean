/-
  MERGE's own small things: rows of indexes; slices.Clone of pointers; the heap's measure.
-/
import Derived.Test.YtillifkilkjpdaaDoorMrgP
namespace Go.Proofs.YtillifkilkjpdaaDoor
set_option linter.unusedSimpArgs false
set_option linter.unusedVariables false
open Go Go.RowKit

/-- Indexes, each as it is read. -/
structure XRs (w : World) (ps : List Value) (ms : List Ents) : Prop where
  len : ps.length = ms.length
  at_ : ∀ (i : Nat) (x : Value) (m : Ents), ps[i]? = some x → ms[i]? = some m → XR w x m
theorem XRs.fr {fp : Nat → Prop} {w w' : World} {ps : List Value} {ms : List Ents} (h : XRs w ps ms) (hf : Fr fp w w') (hd : ∀ k, k < w.heap.size → ¬ fp k) : XRs w' ps ms :=
  ⟨h.len, fun i x m h1 h2 => (h.at_ i x m h1 h2).fr hf hd⟩
theorem XRs.far {w w' : World} {ps : List Value} {ms : List Ents} (h : XRs w ps ms) (hf : Fr (fun _ => False) w w') : XRs w' ps ms := h.fr hf (fun _ _ h => h)
theorem XRs.one {w : World} {ps : List Value} {ms : List Ents} (h : XRs w ps ms) : ∀ u ∈ ps, u.oneCell' = true := by
  intro u hu
  obtain ⟨i, hi, rfl⟩ := List.mem_iff_getElem.1 hu
  obtain ⟨p, hp⟩ := XR.ptr (h.at_ i _ _ (List.getElem?_eq_getElem hi) (List.getElem?_eq_getElem (h.len ▸ hi)))
  rw [hp]
  rfl

theorem pIndex_info : (Tryd.prog.info? 25).map (fun i => (i.zero, i.size, i.bytes)) = some (some (.pointer none), 1, 8) := by kernel_rfl
abbrev OwP (w : World) (B : Nat) (v : Value) (ps : List Value) : Prop := w.ownsRow B 25 1 v ps.length ps

set_option maxRecDepth 100000 in
/-- slices.Clone of pointers. -/
theorem clonep_c (w : World) (A : Option Addr) (c : Nat) (ps : List Value) (hr : Rd w A ps.length ps) (ho : ∀ u ∈ ps, u.oneCell' = true) (hm : ps.length ≤ 100000) :
    Calls Tryd.prog 36 #[.slice A ps.length c] w fun e w' => ∃ v', e = .returned v' ∧ OwP w' w.heap.size v' ps ∧ Fr (fun _ => False) w w' := by
  obtain ⟨i0, hi0, hz0, hz1, hz2⟩ := info_parts pIndex_info
  have HR := Lib.hid hr
  have HI := Lib.hid hi0
  have HONE := Lib.hid ho
  cases A with
  | none =>
    have h0 : ps = [] := by
      cases ps with
      | nil => rfl
      | cons e m => obtain ⟨_, _, h, _⟩ := hr.lit (by simp); cases h
    subst h0
    clear hr hi0 ho
    go_enter Tryd.func36, Tryd.ntmps36
    go_wp2_with (rw [Lib.run_eql_slice_nil _ _ _ _ _ _ _ _ Tryd.underlying36])
    go_ret
    exact ⟨_, rfl, World.ownsRow_nil _ _ _ _, Fr.refl _ w⟩
  | some ad =>
    obtain ⟨n, hn⟩ : ∃ n, ps.length = n := ⟨_, rfl⟩
    have HN := Lib.hid hn
    have hl : ps.length = n * 1 := by rw [hn, Nat.mul_one]
    rw [hn] at HR hm ⊢
    clear hr hi0 hn ho
    have HS : Hid (Src Tryd.prog 1 36 (.slice (some ad) n c) n ps (w.alloc (.cells #[] 25))) := Src.ofSlice _ Tryd.underlying36 ad n c ps hl (fun j u hj => by
      have hj2 : j < n := by rw [← HN.out]; exact (List.getElem?_eq_some_iff.1 hj).1
      obtain ⟨ad', u', he, h1, h2⟩ := (HR.out.alloc (.cells #[] 25)).at_ hj2
      cases he
      rw [hj] at h1
      cases h1
      exact h2) HONE.out
    have HL : Hid ((w.alloc (.cells #[] 25)).ownsRow w.heap.size 25 1 (.slice (some ⟨w.heap.size, 0, none⟩) 0 0) 0 []) := ⟨rfl, .inr ⟨w.heap.size, 0, #[], rfl, Nat.le_refl _, heap_alloc_new w _, Nat.le_refl _, by unfold maxLen; omega, rfl, rfl⟩⟩
    clear hl
    go_enter Tryd.func36, Tryd.ntmps36
    go_wp2_with (first
      | rw [Lib.run_eql_slice_nil _ _ _ _ _ _ _ _ Tryd.underlying36]
      | (at_builtin
         refine wpList_app rfl _ _ _ _ rfl w.heap.size 25 i0 _ 1 8 Tryd.underlying36 HI.out hz0 hz1 hz2 (by kernel_rfl) _ 0 [] rfl HL.out _ n _ rfl HS.out (by omega) (by unfold maxLen; omega) (by rw [World.size_alloc]; omega) ?_
         intro v9 w9 hown9 hf9 hn9
         have H9 := Lib.hid hown9
         have F9 := Lib.hid (((Fr.refl (fun k => w.heap.size ≤ k) w).alloc (.cells #[] 25)).trans hf9 (fun k hk e => by cases e; exact Nat.le_refl _))
         clear hown9 hf9 hn9))
    go_ret
    refine ⟨v9, rfl, ?_, F9.out.mono (fun k hk e => by omega)⟩
    have h9 := H9.out
    rw [Nat.zero_add, List.nil_append] at h9
    unfold OwP
    rw [HN.out]
    exact h9

/-- How many entries the fronts of a heap have, out of memory. -/
def msr (h : Nat) (w : World) : Nat :=
  match w.cell? ⟨h, 0, none⟩ with
  | some (.slice (some ⟨b, 0, none⟩) n _) => ((List.range n).map fun k => match w.cell? ⟨b, k * 2, none⟩ with | some (.slice _ l _) => l | _ => 0).sum
  | _ => 0
theorem msr_of {w : World} {h b c : Nat} {fs : List Frt} (hH : HpB w h b c fs) (hc : fs.length ≤ c) : msr h w = (fs.map (·.l.length)).sum := by
  have hr := hH.rd hc
  have h0 : w.cell? ⟨h, 0, none⟩ = some (.slice (some ⟨b, 0, none⟩) fs.length c) := hH.1.cell 0
  unfold msr
  rw [h0]
  show ((List.range fs.length).map _).sum = _
  congr 1
  apply List.ext_getElem
  · simp
  · intro i h1 h2
    simp only [List.length_map, List.length_range] at h1
    have := hr.cell (k := i * 2) (by omega)
    rw [Nat.zero_add] at this
    simp only [List.getElem_map, List.getElem_range]
    rw [this, fc_rest fs i h1]

theorem HpS.far {w w' : World} {h B : Nat} {v : Value} {fs : List Frt} (hp : HpS w h B v fs) (hf : Fr (fun _ => False) w w') : HpS w' h B v fs :=
  ⟨hp.blk.fr hf (fun h => h), own_fr hp.own hf (fun _ _ h => h), fun f hm => (hp.ok f hm).fr hf (fun h => h), hp.hp⟩
/-- The heap behind what a loop's body has done. -/
theorem mrg_front {wr w7 : World} {S b c2 T : Nat} {HX : Nat → Prop} {fs : List Frt} (hH : HpB wr S b c2 fs) (hok : ∀ f ∈ fs, FOk wr f) (hg : ∀ f ∈ fs, S ≤ f.g ∧ f.g < T) (hSb : S ≤ b) (hbT : b < T) (hST : S < T) (hX : ∀ k, S ≤ k → k < T → HX k) (hf : Fr (fun k => ¬ HX k) wr w7) : HpB w7 S b c2 fs ∧ ∀ f ∈ fs, FOk w7 f := by
  obtain ⟨h0, cur, h1, h2, h3⟩ := hH
  exact ⟨⟨h0.fr hf (fun h => h (hX _ (Nat.le_refl _) hST)), cur, h1.fr hf (fun h => h (hX _ hSb hbT)), h2, h3⟩, fun f hm => (hok f hm).fr hf (fun h => h (hX _ (hg f hm).1 (hg f hm).2))⟩
theorem mrg_cut {w7 : World} {S b c2 gg o o' cp pl : Nat} {e : List UInt8 × Int} {t : Ents} {fr : List Frt} (hH : HpB w7 S b c2 (⟨gg, o, cp, e :: t, pl⟩ :: fr)) (hok : ∀ f ∈ (⟨gg, o, cp, e :: t, pl⟩ : Frt) :: fr, FOk w7 f) (ho : t.length = 0 ∨ o' = o + 2) :
    HpB (w7.setCell ⟨b, 0, none⟩ (.slice (some ⟨gg, o', none⟩) t.length (cp - 1))) S b c2 (⟨gg, o', cp - 1, t, pl⟩ :: fr) ∧ (∀ f ∈ fr, FOk (w7.setCell ⟨b, 0, none⟩ (.slice (some ⟨gg, o', none⟩) t.length (cp - 1))) f) ∧ (t ≠ [] → FOk (w7.setCell ⟨b, 0, none⟩ (.slice (some ⟨gg, o', none⟩) t.length (cp - 1))) ⟨gg, o', cp - 1, t, pl⟩) := by
  have hok0 := hok _ List.mem_cons_self
  obtain ⟨h0, cur, h1, h2, h3⟩ := hH
  have hf : Fr (fun k => k = b) w7 (w7.setCell ⟨b, 0, none⟩ (.slice (some ⟨gg, o', none⟩) t.length (cp - 1))) := (Fr.refl (fun k => k = b) w7).setCell (fun _ => rfl) _
  refine ⟨⟨?_, _, h1.set_ 0 _, by simpa using h2, ?_⟩, fun f hm => (hok f (List.mem_cons_of_mem _ hm)).fr hf (fun h => (hok f (List.mem_cons_of_mem _ hm)).ne h1 h), fun hne => ?_⟩
  · exact h0.fr hf (fun h => h0.ne_ h1 (by decide) h)
  · rw [Array.toList_setIfInBounds, List.take_set]
    rw [List.length_cons] at h3 ⊢
    rw [h3]
    rfl
  · obtain ⟨-, hlc, hcm, ⟨c', h4⟩, hrd⟩ := hok0
    simp only [List.length_cons] at hlc hcm hrd
    have hne2 : ¬ (gg = b) := fun h => by
      have := h4.ne_ h1 (by decide)
      exact this h
    refine ⟨hne, by show t.length ≤ cp - 1; omega, by show cp - 1 ≤ maxLen; omega, ⟨c', h4.fr hf hne2⟩, ?_⟩
    have hl0 : 0 < t.length := List.length_pos_iff.2 hne
    have ho := ho.resolve_left (by omega)
    subst ho
    have h5 := hrd.cut (k := 2) (cap := (t.length + 1) * 2) (by omega) (by omega)
    rw [if_neg (by omega), Option.map_some, Addr.add_lit] at h5
    have h6 : (t.length + 1) * 2 - 2 = t.length * 2 := by omega
    rw [h6] at h5
    exact Rd.fr h5 hf (fun k ⟨ad, he, hk⟩ => by cases he; rw [← hk]; exact hne2)
theorem down_head {f0 f1 : Frt} {fr : List Frt} {n : Nat} (h : Heap (gf (f0 :: fr)) n) : DownI (gf (f1 :: fr)) n 0 := by
  have hg : ∀ k, 0 < k → gf (f1 :: fr) k = gf (f0 :: fr) k := fun k hk => by
    cases k with
    | zero => omega
    | succ k => rfl
  exact ⟨fun k h0 hk hp => by rw [hg k h0, hg (par k) (by omega)]; exact h k h0 hk, fun k _ _ _ hh => absurd hh (Nat.lt_irrefl 0)⟩
theorem root_least {f0 : Frt} {fr : List Frt} (h : Heap (gf (f0 :: fr)) (f0 :: fr).length) : ∀ f ∈ fr, fless f f0 = false := by
  intro f hf
  obtain ⟨j, hj, rfl⟩ := List.mem_iff_getElem.1 hf
  have := heap_root h (j + 1) (by rw [List.length_cons]; omega)
  have e : gf (f0 :: fr) (j + 1) = fr[j] := by
    unfold gf
    rw [List.getD_eq_getElem?_getD, List.getElem?_cons_succ, List.getElem?_eq_getElem hj]
    rfl
  rw [e] at this
  exact this
theorem slice_one (g o q cp : Nat) (hq : q + 1 ≤ cp) : ∃ o', (q = 0 ∨ o' = o + 2) ∧ ∀ W, (Instr.sliceAt 59 (.slice (some ⟨g, o, none⟩) (q + 1) cp) (some (.int .i64 1)) none none).run Tryd.prog W = .ok (.slice (some ⟨g, o', none⟩) q (cp - 1)) W := by
  have ht : Tryd.prog.underlying 59 = some (.slice (Tryd.prog.elem 59)) := by kernel_rfl
  refine ⟨if cp = 1 then o else o + 2, ?_, fun W => ?_⟩
  · by_cases h : cp = 1
    · exact .inl (by omega)
    · rw [if_neg h]; exact .inr rfl
  · rw [run_sliceAt_slice _ _ _ _ _ _ ht, run_slice_l _ _ _ _ _ ht .i64 1 (by omega) (by omega), sizeOf_entry]
    by_cases h : cp = 1
    · have : q = 0 := by omega
      subst this
      simp [sliced, Result.andThen, h]
    · simp [sliced, Result.andThen, h, Addr.add_lit]
end Go.Proofs.YtillifkilkjpdaaDoor
