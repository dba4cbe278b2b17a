/-
  CONTRACT of the reference's Merge, over rows in order.
-/
import Derived.Test.YtillifkilkjpdaaDoorSame
import Derived.Deep.RegionWith
namespace Go.Proofs.YtillifkilkjpdaaDoor
set_option linter.unusedSimpArgs false
set_option linter.unusedVariables false
open Go Go.RowKit

theorem OwR.rd {w : World} {B : Nat} {v : Value} {m : Ents} (h : OwR w B v m) : ∃ A c, v = .slice A m.length c ∧ Rd w A (m.length * 2) (ec m) ∧ m.length ≤ c := by
  obtain ⟨A, c, rfl, hnc, hcm⟩ := own_slice h
  refine ⟨A, c, rfl, ?_, hnc⟩
  rcases h.2 with ⟨h1, h0⟩ | ⟨b, cap, cur, he, hbg, hg, hn2, hc2, hcs, ht⟩
  · have : m = [] := List.eq_nil_of_length_eq_zero h0
    subst this
    exact Rd.none_ _ _
  · cases he
    have := Rd.of_blk (n := m.length * 2) hg (by rw [hcs]; omega)
    rw [ht] at this
    exact this
/-- Rows of entries, as they are read. -/
structure RRs (w : World) (vs : List Value) (ms : List Ents) : Prop where
  len : vs.length = ms.length
  at_ : ∀ (i : Nat) (v : Value) (m : Ents), vs[i]? = some v → ms[i]? = some m → ∃ A c, v = .slice A m.length c ∧ Rd w A (m.length * 2) (ec m) ∧ m.length ≤ c
theorem RRs.fr {fp : Nat → Prop} {w w' : World} {vs : List Value} {ms : List Ents} (h : RRs w vs ms) (hf : Fr fp w w') (hd : ∀ k, k < w.heap.size → ¬ fp k) : RRs w' vs ms :=
  ⟨h.len, fun i v m h1 h2 => by
    obtain ⟨A, c, h3, h4, h5⟩ := h.at_ i v m h1 h2
    refine ⟨A, c, h3, ?_, h5⟩
    rcases Nat.eq_zero_or_pos m.length with h0 | h0
    · have : m = [] := List.eq_nil_of_length_eq_zero h0
      subst this
      exact Rd.none_ _ _
    · exact h4.fr hf (fun k hk => hd _ (h4.lt (by omega) hk))⟩
theorem RRs.far {w w' : World} {vs : List Value} {ms : List Ents} (h : RRs w vs ms) (hf : Fr (fun _ => False) w w') : RRs w' vs ms := h.fr hf (fun _ _ h => h)
theorem mrg_drop {ms : List Ents} {j : Nat} {m : Ents} (h : ms[j]? = some m) : mrg (ms.drop j) = fset (mrg (ms.drop (j + 1))) m := by
  obtain ⟨hlt, rfl⟩ := List.getElem?_eq_some_iff.1 h
  rw [List.drop_eq_getElem_cons hlt]
  rfl
theorem tot_drop (ms : List Ents) : ∀ j, tot (ms.drop j) ≤ tot ms := by
  induction ms with
  | nil => intro j; simp
  | cons m ms ih =>
    intro j
    cases j with
    | zero => exact Nat.le_refl _
    | succ j =>
      have := ih j
      rw [List.drop_succ_cons]
      unfold tot at *
      rw [List.map_cons, List.sum_cons]
      omega
theorem fset_take {m : Ents} {k : Nat} (h : k < m.length) (acc : Ents) : fset acc (m.take (k + 1)) = mset (fset acc (m.take k)) m[k].1 m[k].2 := by rw [take_next h, fset_snoc]

set_option maxRecDepth 100000 in
set_option maxHeartbeats 1000000 in
theorem rmerge_c (w : World) (A : Option Addr) (c : Nat) (vs : List Value) (ms : List Ents) (hr : Rd w A vs.length vs) (hx : RRs w vs ms) (hn1 : vs.length ≤ 1000) (ht : tot ms ≤ 10000) :
    Calls Tryd.prog 18 #[.slice A vs.length c] w fun e w' => ∃ v, e = .returned v ∧ OwR w' w.heap.size v (mrg ms) ∧ Fr (fun _ => False) w w' := by
  obtain ⟨n, hn⟩ : ∃ n, vs.length = n := ⟨_, rfl⟩
  have HR := Lib.hid hr
  have HX := Lib.hid hx
  rw [hn] at HR hn1 ⊢
  have HN := Lib.hid hn
  have HT := Lib.hid ht
  clear hr hx hn ht
  have en : IntKind.i64.wrap ((n : Int) - 1) = (n : Int) - 1 := IntWalk.i64_in _ (by omega)
  go_enter Tryd.func18, Tryd.ntmps18
  go_wp2_with fail
  clear en
  go_loopw [4, 3] (fun u ov wr => ∃ (j : Nat) (Ao : Option Addr) (p co : Nat), u = .int .i64 ((j : Int) - 1) ∧ j ≤ n ∧ ov = .slice Ao p co ∧ p ≤ 10000 ∧ Hid ((mrg (ms.drop j)).length = p) ∧ Hid (wr.ownsRow w.heap.size 63 2 (.slice Ao p co) p (ec (mrg (ms.drop j)))) ∧ Hid (Fr (fun _ => False) w wr)) (fun u _ _ => (intOf u + 1).toNat)
  case atStart =>
    have hd : ms.drop n = [] := List.drop_eq_nil_of_le (by rw [← HX.out.len, HN.out]; exact Nat.le_refl _)
    exact ⟨n, none, 0, 0, rfl, Nat.le_refl _, rfl, Nat.zero_le _, by rw [hd]; rfl, by rw [hd]; exact World.ownsRow_nil _ _ _ _, Fr.refl _ _⟩
  case round =>
    obtain ⟨j, Ao, p, co, rfl, hj, rfl, hpl, hp, ho, hf⟩ := hrel
    by_cases hlt : 0 < j
    · obtain ⟨i, rfl⟩ : ∃ i, j = i + 1 := ⟨j - 1, by omega⟩
      rw [show (((i + 1 : Nat) : Int) - 1) = (i : Int) by omega]
      have hdl : decide ((i : Int) ≥ 0) = true := decide_eq_true (by omega)
      have hdl2 : decide ((0 : Int) ≤ (i : Int)) = true := decide_eq_true (by omega)
      have hI : (i : Int) < n := by omega
      obtain ⟨b, off, rfl, hcl⟩ := HR.out.lit (by omega)
      have hbl : b < w.heap.size := HR.out.lt (by omega) ⟨_, rfl, rfl⟩
      have hil : i < vs.length := by rw [HN.out]; omega
      have him : i < ms.length := by rw [← HX.out.len]; exact hil
      obtain ⟨m, hm⟩ : ∃ m, ms[i]? = some m := ⟨_, List.getElem?_eq_getElem him⟩
      obtain ⟨Am, cm, hvm, hrm, hcm⟩ := HX.out.at_ i _ m (List.getElem?_eq_getElem hil) hm
      have x1w : w.cell? ⟨b, off + i, none⟩ = some (.slice Am m.length cm) := by
        rw [hcl _ (by omega), List.getElem?_eq_getElem hil, hvm]
      obtain ⟨q, hq⟩ : ∃ q, m.length = q := ⟨_, rfl⟩
      rw [hq] at x1w hcm
      have HX1 := Lib.hid x1w
      have HRM := Lib.hid hrm
      have HM := Lib.hid hm
      have HQ := Lib.hid hq
      have hws := hf.out.size
      have hql : q ≤ 10000 := by
        have h1 : m.length ≤ tot ms := by
          have h2 := tot_drop ms i
          rw [List.drop_eq_getElem_cons him, show ms[i] = m from Option.some.inj ((List.getElem?_eq_getElem him).symm.trans hm)] at h2
          unfold tot at h2 ⊢
          rw [List.map_cons, List.sum_cons] at h2
          omega
        have := HT.out
        omega
      have HSO : Hid (∀ k, (fset (mrg (ms.drop (i + 1))) (m.take k)).length ≤ 10000) := fun k => by
        have h1 := fset_len (m.take k) (mrg (ms.drop (i + 1)))
        have h2 := mrg_len (ms.drop (i + 1))
        have h3 := tot_drop ms i
        have h4 := HT.out
        rw [List.drop_eq_getElem_cons him, show ms[i] = m from Option.some.inj ((List.getElem?_eq_getElem him).symm.trans hm)] at h3
        unfold tot at h2 h3 h4
        rw [List.map_cons, List.sum_cons] at h3
        rw [List.length_take] at h1
        omega
      clear hcl x1w hrm hm hq hvm
      go_wp2_with fail
      go_loopw [5, 3] (fun u ov wr => ∃ (k : Nat) (Ao : Option Addr) (p co : Nat), u = .int .i64 k ∧ k ≤ q ∧ ov = .slice Ao p co ∧ p ≤ 10000 ∧ Hid ((fset (mrg (ms.drop (i + 1))) (m.take k)).length = p) ∧ Hid (wr.ownsRow w.heap.size 63 2 (.slice Ao p co) p (ec (fset (mrg (ms.drop (i + 1))) (m.take k)))) ∧ Hid (Fr (fun _ => False) w wr)) (fun u _ _ => q - (intOf u).toNat)
      case atStart => exact ⟨0, Ao, p, co, rfl, Nat.zero_le _, rfl, hpl, hp.out, ho.out, hf.out⟩
      case round =>
        clear hp ho hf hpl hws
        obtain ⟨k, Ao, p, co, rfl, hk, rfl, hpl, hp, ho, hf⟩ := hrel
        have hws := hf.out.size
        have x1 := (hf.out.cell hbl (fun h => h)).trans HX1.out
        by_cases hkt : k < q
        · have hkl : decide ((k : Int) < (q : Int)) = true := decide_eq_true (by omega)
          have hkn : decide (k < q) = true := decide_eq_true hkt
          have hkI : (k : Int) < q := by omega
          obtain ⟨b2, off2, rfl, hcl2⟩ := (HRM.out.far hf.out).lit (by rw [HQ.out]; omega)
          have hkm : k < m.length := by rw [HQ.out]; exact hkt
          have x2 : wr.cell? ⟨b2, off2 + k * 2, none⟩ = some (.string (strOf m[k].1)) := by
            rw [hcl2 _ (by omega)]
            exact ec_key m k hkm
          have x3 : wr.cell? ⟨b2, off2 + k * 2 + 1, none⟩ = some (.int .i64 m[k].2) := by
            rw [Nat.add_assoc, hcl2 _ (by omega)]
            exact ec_val m k hkm
          have hft := fset_take hkm (mrg (ms.drop (i + 1)))
          have HFT := Lib.hid hft
          have HOR : Hid (OwR wr w.heap.size (.slice Ao p co) (fset (mrg (ms.drop (i + 1))) (m.take k))) := by
            show World.ownsRow _ _ _ _ _ _ _
            rw [hp.out]; exact ho.out
          obtain ⟨hrd, hpc⟩ : Rd wr Ao ((fset (mrg (ms.drop (i + 1))) (m.take k)).length * 2) (ec (fset (mrg (ms.drop (i + 1))) (m.take k))) ∧ (fset (mrg (ms.drop (i + 1))) (m.take k)).length ≤ co := by
            obtain ⟨A', c', he, h1, h2⟩ := HOR.out.rd
            injection he with e1 e2 e3
            rw [e1, e3]
            exact ⟨h1, h2⟩
          have HRD := Lib.hid hrd
          have HPC := Lib.hid hpc
          have HSRT : Hid (Srt (fset (mrg (ms.drop (i + 1))) (m.take k))) := srt_fset (srt_mrg _)
          clear hcl2 hft hrd hpc
          generalize m[k].1 = kk at *
          generalize m[k].2 = uu at *
          go_wp2_with fail
          go_region_with ((go_at_call 17; have hset := rset_c wr.drew Ao co (fset (mrg (ms.drop (i + 1))) (m.take k)) kk uu HRD.out HPC.out (by have := HSO.out k; omega) HSRT.out; rw [hp.out] at hset; refine hset.mono ?_; rintro e w9 ⟨v9, rfl, ho9, hf9⟩; have HO9 := Lib.hid ho9; have HF9 := Lib.hid hf9; obtain ⟨A9, c9, rfl, -, -⟩ := own_slice ho9; clear hset ho9 hf9))
          all_goals
            go_wp2_with fail
            refine ⟨⟨k + 1, A9, _, c9, by push_cast; rfl, by omega, rfl, ?_, ?_, ?_, ?_⟩, by simp only [intOf]; omega⟩
            · rw [← HFT.out]; exact HSO.out (k + 1)
            · show _ = _
              rw [HFT.out]
            · rw [HFT.out]
              exact own_base HO9.out (fun k' hk' => Nat.le_trans hws (World.ownsRow.lt HO9.out k' hk').1)
            · exact hf.out.drew.trans HF9.out (fun _ _ h => h)
        · have hkl : decide ((k : Int) < (q : Int)) = false := decide_eq_false (by omega)
          have hkn : decide (k < q) = false := decide_eq_false hkt
          have hkq : k = q := by omega
          have hmd : Hid (fset (mrg (ms.drop (i + 1))) (m.take k) = mrg (ms.drop i)) := by
            show _ = _
            rw [mrg_drop HM.out, hkq, ← HQ.out, List.take_length]
          have ei : IntKind.i64.wrap ((i : Int) - 1) = (i : Int) - 1 := IntWalk.i64_in _ (by omega)
          clear hkt hkq
          go_wp2_with fail
          refine ⟨⟨i, Ao, p, co, rfl, by omega, rfl, hpl, ?_, ?_, hf.out⟩, by simp only [intOf]; omega⟩
          · show _ = _
            rw [← hmd.out]; exact hp.out
          · rw [← hmd.out]; exact ho.out
    · have hj0 : j = 0 := by omega
      subst hj0
      have hdl : decide (((0 : Nat) : Int) - 1 ≥ 0) = false := by decide
      have hdl2 : decide ((0 : Int) ≤ ((0 : Nat) : Int) - 1) = false := by decide
      go_wp2_with fail
      go_ret
      refine ⟨_, rfl, ?_, hf.out⟩
      have h1 := ho.out
      have h2 := hp.out
      rw [List.drop_zero] at h1 h2
      unfold OwR
      rw [h2]
      exact h1
end Go.Proofs.YtillifkilkjpdaaDoor
