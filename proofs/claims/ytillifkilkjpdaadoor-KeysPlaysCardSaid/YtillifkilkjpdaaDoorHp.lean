/-
  THE HEAP OF FRONTS: what it holds; CONTRACTS of its methods.
-/
import Derived.Test.YtillifkilkjpdaaDoorKeys
import Derived.BigRegion
namespace Go.Proofs.YtillifkilkjpdaaDoor
set_option linter.unusedSimpArgs false
set_option linter.unusedVariables false
open Go Go.RowKit

/-- A front: where its entries lie, which they are, its place. -/
structure Frt where
  g : Nat
  off : Nat
  cap : Nat
  l : Ents
  pl : Nat
def fcell (f : Frt) : List Value := [.slice (some ⟨f.g, f.off, none⟩) f.l.length f.cap, .int .i64 (f.pl : Int)]
def fc (fs : List Frt) : List Value := fs.flatMap fcell
theorem fc_cons (f : Frt) (fs : List Frt) : fc (f :: fs) = .slice (some ⟨f.g, f.off, none⟩) f.l.length f.cap :: .int .i64 (f.pl : Int) :: fc fs := rfl
theorem fc_append (a b : List Frt) : fc (a ++ b) = fc a ++ fc b := by simp [fc]
theorem fc_length (fs : List Frt) : (fc fs).length = fs.length * 2 := by
  induction fs with
  | nil => rfl
  | cons e m ih => rw [fc_cons, List.length_cons, List.length_cons, List.length_cons, ih]; omega
theorem fc_rest : ∀ (m : List Frt) (j : Nat) (h : j < m.length), (fc m)[j * 2]? = some (.slice (some ⟨m[j].g, m[j].off, none⟩) m[j].l.length m[j].cap)
  | e :: m, 0, _ => rfl
  | e :: m, j + 1, h => by
    rw [fc_cons, show (j + 1) * 2 = j * 2 + 1 + 1 by omega, List.getElem?_cons_succ, List.getElem?_cons_succ]
    exact fc_rest m j (by simpa using h)
theorem fc_place : ∀ (m : List Frt) (j : Nat) (h : j < m.length), (fc m)[j * 2 + 1]? = some (.int .i64 (m[j].pl : Int))
  | e :: m, 0, _ => rfl
  | e :: m, j + 1, h => by
    rw [fc_cons, show (j + 1) * 2 + 1 = j * 2 + 1 + 1 + 1 by omega, List.getElem?_cons_succ, List.getElem?_cons_succ]
    exact fc_place m j (by simpa using h)
theorem fc_one (m : List Frt) : ∀ u ∈ fc m, u.oneCell' = true := by
  intro u hu
  obtain ⟨e, _, he⟩ := List.mem_flatMap.1 hu
  simp [fcell] at he
  rcases he with rfl | rfl <;> rfl
/-- A front's entries lie in a block of entries. -/
def FOk (w : World) (f : Frt) : Prop := f.l ≠ [] ∧ f.l.length ≤ f.cap ∧ f.cap ≤ maxLen ∧ (∃ cur, Blk w f.g 68 cur) ∧ Rd w (some ⟨f.g, f.off, none⟩) (f.l.length * 2) (ec f.l)
theorem FOk.fr {fp : Nat → Prop} {w w' : World} {f : Frt} (h : FOk w f) (hf : Fr fp w w') (hg : ¬ fp f.g) : FOk w' f := by
  obtain ⟨h1, h2, h3, ⟨cur, h4⟩, h5⟩ := h
  exact ⟨h1, h2, h3, ⟨cur, h4.fr hf hg⟩, h5.fr hf (fun k ⟨ad, he, hk⟩ => by cases he; rw [← hk]; exact hg)⟩
def fkey (f : Frt) : List UInt8 := ((f.l.head?).map (·.1)).getD []
/-- The fronts' order. -/
def fless (a b : Frt) : Bool := kl (fkey a) (fkey b) || (decide (fkey a = fkey b) && decide (a.pl < b.pl))
theorem FOk.key {w : World} {f : Frt} (h : FOk w f) : w.cell? ⟨f.g, f.off, none⟩ = some (.string (strOf (fkey f))) := by
  obtain ⟨h1, h2, h3, h4, h5⟩ := h
  cases hl : f.l with
  | nil => exact absurd hl h1
  | cons e m =>
    rw [hl] at h5
    have := h5.cell (k := 0) (by simp)
    rw [Nat.add_zero] at this
    rw [this]
    simp [ec, fkey, hl]

set_option maxRecDepth 100000 in
set_option maxHeartbeats 1000000 in
theorem less_c (w : World) (b n c i j : Nat) (fs : List Frt) (hr : Rd w (some ⟨b, 0, none⟩) (n * 2) (fc fs)) (hn : fs.length = n) (hc : n ≤ c) (hi : i < n) (hj : j < n) (hm : n ≤ 100000) (oi : FOk w (fs[i]'(by omega))) (oj : FOk w (fs[j]'(by omega))) :
    Calls Tryd.prog 98 #[.slice (some ⟨b, 0, none⟩) n c, .int .i64 i, .int .i64 j] w fun e w' => e = .returned (.bool (fless (fs[i]'(by omega)) (fs[j]'(by omega)))) ∧ Fr (fun _ => False) w w' := by
  have hi' : i < fs.length := by omega
  have hj' : j < fs.length := by omega
  have ri : w.cell? ⟨b, i * 2, none⟩ = some (.slice (some ⟨fs[i].g, fs[i].off, none⟩) fs[i].l.length fs[i].cap) := by
    have := hr.cell (k := i * 2) (by omega)
    rw [Nat.zero_add] at this
    rw [this, fc_rest fs i hi']
  have rj : w.cell? ⟨b, j * 2, none⟩ = some (.slice (some ⟨fs[j].g, fs[j].off, none⟩) fs[j].l.length fs[j].cap) := by
    have := hr.cell (k := j * 2) (by omega)
    rw [Nat.zero_add] at this
    rw [this, fc_rest fs j hj']
  have pi : w.cell? ⟨b, i * 2 + 1, none⟩ = some (.int .i64 (fs[i].pl : Int)) := by
    have := hr.cell (k := i * 2 + 1) (by omega)
    rw [Nat.zero_add] at this
    rw [this, fc_place fs i hi']
  have pj : w.cell? ⟨b, j * 2 + 1, none⟩ = some (.int .i64 (fs[j].pl : Int)) := by
    have := hr.cell (k := j * 2 + 1) (by omega)
    rw [Nat.zero_add] at this
    rw [this, fc_place fs j hj']
  have ki := oi.key
  have kj := oj.key
  have li : 0 < fs[i].l.length := List.length_pos_iff.2 oi.1
  have lj : 0 < fs[j].l.length := List.length_pos_iff.2 oj.1
  generalize fs[i] = fi at *
  generalize fs[j] = fj at *
  obtain ⟨gi, oi_, ci, el, pli⟩ := fi
  obtain ⟨gj, oj_, cj, ej, plj⟩ := fj
  simp only at ri rj pi pj ki kj li lj
  obtain ⟨a, ha⟩ : ∃ a, fkey ⟨gi, oi_, ci, el, pli⟩ = a := ⟨_, rfl⟩
  obtain ⟨b', hb'⟩ : ∃ b', fkey ⟨gj, oj_, cj, ej, plj⟩ = b' := ⟨_, rfl⟩
  obtain ⟨ni, hni⟩ : ∃ ni, el.length = ni := ⟨_, rfl⟩
  obtain ⟨nj, hnj⟩ : ∃ nj, ej.length = nj := ⟨_, rfl⟩
  rw [ha] at ki
  rw [hb'] at kj
  rw [hni] at ri li
  rw [hnj] at rj lj
  have hfl : fless ⟨gi, oi_, ci, el, pli⟩ ⟨gj, oj_, cj, ej, plj⟩ = (kl a b' || (decide (a = b') && decide (pli < plj))) := by unfold fless; rw [ha, hb']
  rw [hfl]
  have hin : (i : Int) < n := by omega
  have hjn : (j : Int) < n := by omega
  clear hr oi oj ha hb' hni hnj hfl hn
  go_enter Tryd.func98, Tryd.ntmps98
  go_wp2_with fail
  go_quiet (fail)
  have ri1 : (w.drewN nq).cell? ⟨b, i * 2, none⟩ = some (.slice (some ⟨gi, oi_, none⟩) ni ci) := ri
  have rj1 : (w.drewN nq).cell? ⟨b, j * 2, none⟩ = some (.slice (some ⟨gj, oj_, none⟩) nj cj) := rj
  have pi1 : (w.drewN nq).cell? ⟨b, i * 2 + 1, none⟩ = some (.int .i64 (pli : Int)) := pi
  have pj1 : (w.drewN nq).cell? ⟨b, j * 2 + 1, none⟩ = some (.int .i64 (plj : Int)) := pj
  have F1 : Hid (Fr (fun _ => False) w (w.drewN nq)) := (Fr.refl _ w).drewN nq
  clear ri rj pi pj ki kj
  generalize w.drewN nq = w1 at *
  have hlt : Op.bytesLess (strOf a).toList (strOf b').toList = kl a b' := by rw [strOf_toList, strOf_toList]; rfl
  cases hk : kl a b' with
  | true =>
    rw [hk] at hlt
    go_wp2_with fail
    go_quiet (fail)
    go_wp2_with fail
    go_ret
    refine ⟨?_, F1.out.drewN _⟩
    show Ending.returned (.bool true) = _
    rw [hk]
    rfl
  | false =>
    rw [hk] at hlt
    by_cases he : a = b'
    · have heq : ((strOf a).toList == (strOf b').toList) = true := by rw [he]; simp
      have HE := Lib.hid he
      have HK := Lib.hid hk
      clear he
      go_wp2_with fail
      go_quiet (fail)
      go_wp2_with fail
      go_ret
      refine ⟨?_, F1.out.drewN _⟩
      show Ending.returned (.bool (decide (pli < plj))) = _
      rw [HK.out, decide_eq_true HE.out, Bool.false_or, Bool.true_and]
    · have heq : ((strOf a).toList == (strOf b').toList) = false := by
        rw [strOf_toList, strOf_toList]
        simpa using he
      have HE := Lib.hid he
      have HK := Lib.hid hk
      clear he
      go_wp2_with fail
      go_quiet (fail)
      go_wp2_with fail
      go_ret
      refine ⟨?_, F1.out.drewN _⟩
      show Ending.returned (.bool false) = _
      rw [HK.out, decide_eq_false HE.out]
      rfl

/-- Swap, as cells. -/
theorem fc_set : ∀ (fs : List Frt) (i : Nat) (f : Frt), i < fs.length → ((fc fs).set (i * 2) (.slice (some ⟨f.g, f.off, none⟩) f.l.length f.cap)).set (i * 2 + 1) (.int .i64 (f.pl : Int)) = fc (fs.set i f)
  | e :: fs, 0, f, _ => rfl
  | e :: fs, i + 1, f, h => by
    have := fc_set fs i f (by simpa using h)
    rw [fc_cons, show (i + 1) * 2 = i * 2 + 1 + 1 by omega, List.set_cons_succ, List.set_cons_succ, List.set_cons_succ, List.set_cons_succ, this]
    rfl

set_option maxRecDepth 100000 in
set_option maxHeartbeats 1000000 in
theorem swap_c (w : World) (b n c i j : Nat) (fs : List Frt) (cur : Array Value) (hb : Blk w b 81 cur) (hcs : cur.size = c * 2) (ht : cur.toList.take (n * 2) = fc fs) (hn : fs.length = n) (hc : n ≤ c) (hi : i < n) (hj : j < n) (hm : n ≤ 100000) :
    Calls Tryd.prog 99 #[.slice (some ⟨b, 0, none⟩) n c, .int .i64 i, .int .i64 j] w fun e w' => (∃ v, e = .returned v) ∧ Fr (fun k => k = b) w w' ∧ ∃ cur', Blk w' b 81 cur' ∧ cur'.size = c * 2 ∧ cur'.toList.take (n * 2) = fc ((fs.set i (fs[j]'(by omega))).set j (fs[i]'(by omega))) := by
  have hi' : i < fs.length := by omega
  have hj' : j < fs.length := by omega
  have gc : ∀ q, q < n * 2 → w.cell? ⟨b, q, none⟩ = (fc fs)[q]? := fun q hq => by
    rw [hb.cell, ← ht, List.getElem?_take, if_pos hq, Array.getElem?_toList]
  have ri := (gc (i * 2) (by omega)).trans (fc_rest fs i hi')
  have rj := (gc (j * 2) (by omega)).trans (fc_rest fs j hj')
  have pi := (gc (i * 2 + 1) (by omega)).trans (fc_place fs i hi')
  have pj := (gc (j * 2 + 1) (by omega)).trans (fc_place fs j hj')
  have hin : (i : Int) < n := by omega
  have hjn : (j : Int) < n := by omega
  have z1 := hb.frozen (i * 2)
  have z2 := hb.frozen (i * 2 + 1)
  have z3 := hb.frozen (j * 2)
  have z4 := hb.frozen (j * 2 + 1)
  obtain ⟨fi, hfi⟩ : ∃ fi, fs[i] = fi := ⟨_, rfl⟩
  obtain ⟨fj, hfj⟩ : ∃ fj, fs[j] = fj := ⟨_, rfl⟩
  rw [hfi] at ri pi ⊢
  rw [hfj] at rj pj ⊢
  obtain ⟨ni, hni⟩ : ∃ ni, fi.l.length = ni := ⟨_, rfl⟩
  obtain ⟨nj, hnj⟩ : ∃ nj, fj.l.length = nj := ⟨_, rfl⟩
  rw [hni] at ri
  rw [hnj] at rj
  obtain ⟨Ai, hAi⟩ : ∃ Ai, (⟨fi.g, fi.off, none⟩ : Addr) = Ai := ⟨_, rfl⟩
  obtain ⟨Aj, hAj⟩ : ∃ Aj, (⟨fj.g, fj.off, none⟩ : Addr) = Aj := ⟨_, rfl⟩
  rw [hAi] at ri
  rw [hAj] at rj
  have HB := Lib.hid hb
  have HT := Lib.hid ht
  have HCS := Lib.hid hcs
  have HN := Lib.hid hn
  have HI := Lib.hid (And.intro hfi (And.intro hni hAi))
  have HJ := Lib.hid (And.intro hfj (And.intro hnj hAj))
  clear gc hb ht hcs hn hfi hfj hni hnj hAi hAj
  by_cases hij : i = j
  · subst hij
    have hff : fj = fi := HJ.out.1.symm.trans HI.out.1
    subst hff
    have hnn : nj = ni := HJ.out.2.1.symm.trans HI.out.2.1
    subst hnn
    have hAA : Aj = Ai := HJ.out.2.2.symm.trans HI.out.2.2
    subst hAA
    have q1 : ¬ (i * 2 = i * 2 + 1) := by omega
    have q2 : ¬ (i * 2 + 1 = i * 2) := by omega
    clear rj pj z3 z4 hjn
    go_enter Tryd.func99, Tryd.ntmps99
    go_wp2_with fail
    go_region
    have B4 := ((((HB.out.set_ (i * 2) (.slice (some Aj) nj fj.cap)).set_ (i * 2 + 1) (.int .i64 (fj.pl : Int))).set_ (i * 2) (.slice (some Aj) nj fj.cap)).set_ (i * 2 + 1) (.int .i64 (fj.pl : Int))).drew
    have F4 : Fr (fun k => k = b) w _ := (((((Fr.refl (fun k => k = b) w).setCell (p := ⟨b, i * 2, none⟩) (fun _ => rfl) (.slice (some Aj) nj fj.cap)).setCell (p := ⟨b, i * 2 + 1, none⟩) (fun _ => rfl) (.int .i64 (fj.pl : Int))).setCell (p := ⟨b, i * 2, none⟩) (fun _ => rfl) (.slice (some Aj) nj fj.cap)).setCell (p := ⟨b, i * 2 + 1, none⟩) (fun _ => rfl) (.int .i64 (fj.pl : Int))).drew
    go_end0
    refine ⟨⟨_, rfl⟩, F4, _, B4, by simp only [Array.size_setIfInBounds]; exact HCS.out, ?_⟩
    simp only [Array.toList_setIfInBounds, List.take_set]
    rw [HT.out]
    obtain ⟨-, e1, e2⟩ := HI.out
    rw [← e1, ← e2]
    rw [fc_set fs i fj hi', fc_set (fs.set i fj) i fj (by rw [List.length_set]; exact hi')]
  · have q1 : ¬ (i * 2 = j * 2) := by omega
    have q2 : ¬ (i * 2 + 1 = j * 2) := by omega
    have q3 : ¬ (i * 2 = j * 2 + 1) := by omega
    have q4 : ¬ (i * 2 + 1 = j * 2 + 1) := by omega
    have q5 : ¬ (j * 2 = i * 2) := by omega
    have q6 : ¬ (j * 2 = i * 2 + 1) := by omega
    have q7 : ¬ (j * 2 + 1 = i * 2) := by omega
    have q8 : ¬ (j * 2 + 1 = i * 2 + 1) := by omega
    go_enter Tryd.func99, Tryd.ntmps99
    go_wp2_with fail
    go_region
    have B4 := ((((HB.out.set_ (i * 2) (.slice (some Aj) nj fj.cap)).set_ (i * 2 + 1) (.int .i64 (fj.pl : Int))).set_ (j * 2) (.slice (some Ai) ni fi.cap)).set_ (j * 2 + 1) (.int .i64 (fi.pl : Int))).drew
    have F4 : Fr (fun k => k = b) w _ := (((((Fr.refl (fun k => k = b) w).setCell (p := ⟨b, i * 2, none⟩) (fun _ => rfl) (.slice (some Aj) nj fj.cap)).setCell (p := ⟨b, i * 2 + 1, none⟩) (fun _ => rfl) (.int .i64 (fj.pl : Int))).setCell (p := ⟨b, j * 2, none⟩) (fun _ => rfl) (.slice (some Ai) ni fi.cap)).setCell (p := ⟨b, j * 2 + 1, none⟩) (fun _ => rfl) (.int .i64 (fi.pl : Int))).drew
    go_end0
    refine ⟨⟨_, rfl⟩, F4, _, B4, by simp only [Array.size_setIfInBounds]; exact HCS.out, ?_⟩
    simp only [Array.toList_setIfInBounds, List.take_set]
    rw [HT.out]
    obtain ⟨-, e1, e2⟩ := HI.out
    obtain ⟨-, e3, e4⟩ := HJ.out
    rw [← e1, ← e2, ← e3, ← e4]
    rw [fc_set fs i fj hi', fc_set (fs.set i fj) j fi (by rw [List.length_set]; exact hj')]
end Go.Proofs.YtillifkilkjpdaaDoor
