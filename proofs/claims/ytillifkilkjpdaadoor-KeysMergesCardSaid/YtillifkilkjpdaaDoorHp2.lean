/-
  THE HEAP behind its interface: CONTRACT of up.
-/
import Derived.Test.YtillifkilkjpdaaDoorHeapP
import Derived.Test.YtillifkilkjpdaaDoorMeth
namespace Go.Proofs.YtillifkilkjpdaaDoor
set_option linter.unusedSimpArgs false
set_option linter.unusedVariables false
open Go Go.RowKit

theorem meth_swap0 (a : Addr) (w : World) : (method 250 79 (.pointer (some a)) "Swap").run Tryd.prog w = Sem.run Tryd.prog (do let v ← loadVar 76 a; pure (99, v)) w := by kernel_rfl
theorem meth_swap (n c : Nat) (A : Option Addr) (h : Nat) (w : World) (hc : w.cell? ⟨h, 0, none⟩ = some (.slice A n c)) : (method 250 79 (.pointer (some ⟨h, 0, none⟩)) "Swap").run Tryd.prog w = .ok (99, .slice A n c) w := by
  rw [meth_swap0]
  simp only [Sem.run_bind]
  have hl : (loadVar 76 ⟨h, 0, none⟩).run Tryd.prog w = .ok (.slice A n c) w := by
    simp [go_sem, hc]
  rw [hl]
  rfl
theorem meth_len0 (a : Addr) (w : World) : (method 250 79 (.pointer (some a)) "Len").run Tryd.prog w = Sem.run Tryd.prog (do let v ← loadVar 76 a; pure (97, v)) w := by kernel_rfl
theorem meth_len (n c : Nat) (A : Option Addr) (h : Nat) (w : World) (hc : w.cell? ⟨h, 0, none⟩ = some (.slice A n c)) : (method 250 79 (.pointer (some ⟨h, 0, none⟩)) "Len").run Tryd.prog w = .ok (97, .slice A n c) w := by
  rw [meth_len0]
  simp only [Sem.run_bind]
  have hl : (loadVar 76 ⟨h, 0, none⟩).run Tryd.prog w = .ok (.slice A n c) w := by
    simp [go_sem, hc]
  rw [hl]
  rfl

def dF : Frt := ⟨0, 0, 0, [], 0⟩
def gf (fs : List Frt) (k : Nat) : Frt := fs.getD k dF
theorem gf_at (fs : List Frt) (k : Nat) (h : k < fs.length) : fs[k] = gf fs k := by
  unfold gf
  rw [List.getD_eq_getElem?_getD, List.getElem?_eq_getElem h]
  rfl
theorem gf_swap (fs : List Frt) (i j : Nat) (hi : i < fs.length) (hj : j < fs.length) : gf ((fs.set i fs[j]).set j fs[i]) = swp (gf fs) i j := by
  funext k
  unfold swp
  rw [gf_at fs i hi, gf_at fs j hj]
  unfold gf
  simp only [List.getD_eq_getElem?_getD, List.getElem?_set, List.length_set]
  by_cases e : k = j
  · subst e
    rw [if_pos rfl, if_pos rfl, if_pos hj]
    rfl
  · rw [if_neg (Ne.symm e), if_neg e]
    by_cases e2 : k = i
    · subst e2
      rw [if_pos rfl, if_pos rfl, if_pos hi]
      rfl
    · rw [if_neg (Ne.symm e2), if_neg e2]

/-- The heap as it lies. -/
def HpB (w : World) (h b c : Nat) (fs : List Frt) : Prop := Blk w h 76 #[.slice (some ⟨b, 0, none⟩) fs.length c] ∧ ∃ cur, Blk w b 81 cur ∧ cur.size = c * 2 ∧ cur.toList.take (fs.length * 2) = fc fs
theorem HpB.rd {w : World} {h b c : Nat} {fs : List Frt} (hH : HpB w h b c fs) (hc : fs.length ≤ c) : Rd w (some ⟨b, 0, none⟩) (fs.length * 2) (fc fs) := by
  obtain ⟨-, cur, h1, h2, h3⟩ := hH
  have := Rd.of_blk (n := fs.length * 2) h1 (by rw [h2]; omega)
  rwa [h3] at this
theorem FOk.ne {w : World} {f : Frt} {b : Nat} {cur : Array Value} (h : FOk w f) (hb : Blk w b 81 cur) : f.g ≠ b := by
  obtain ⟨-, -, -, ⟨c, h4⟩, -⟩ := h
  exact h4.ne_ hb (by decide)
theorem HpB.far {w w' : World} {h b c : Nat} {fs : List Frt} (hH : HpB w h b c fs) (hf : Fr (fun _ => False) w w') : HpB w' h b c fs := by
  obtain ⟨h0, cur, h1, h2, h3⟩ := hH
  exact ⟨h0.fr hf (fun h => h), cur, h1.fr hf (fun h => h), h2, h3⟩

set_option maxRecDepth 100000 in
set_option maxHeartbeats 1000000 in
theorem up_c (w : World) (h b c n : Nat) (fs0 : List Frt) (j0 : Nat) (hH : HpB w h b c fs0) (hn : fs0.length = n) (hnc : n ≤ c) (hm : n ≤ 100000) (hj : j0 < n) (hok : ∀ f ∈ fs0, FOk w f) (hU : UpI (gf fs0) n j0) :
    Calls Tryd.prog 50 #[.iface 79 (.pointer (some ⟨h, 0, none⟩)), .int .i64 j0] w fun e w' => (∃ v, e = .returned v) ∧ ∃ fs', HpB w' h b c fs' ∧ fs'.Perm fs0 ∧ Heap (gf fs') n ∧ Fr (fun k => k = b) w w' := by
  have HH := Lib.hid hH
  have HN := Lib.hid hn
  have HOK := Lib.hid hok
  have HU := Lib.hid hU
  have hbF : ∃ cur, Blk w b 81 cur := ⟨_, hH.2.choose_spec.1⟩
  have hhb : h ≠ b := hH.1.ne_ hH.2.choose_spec.1 (by decide)
  have HBF := Lib.hid hbF
  have HHB := Lib.hid hhb
  clear hH hn hok hU hbF hhb
  go_enter Tryd.func50, Tryd.ntmps50
  go_wp2_with fail
  go_loopw [1] (fun u wr => ∃ (j : Nat) (fs : List Frt), u = .int .i64 j ∧ j < n ∧ Hid (HpB wr h b c fs) ∧ Hid (fs.Perm fs0) ∧ Hid (UpI (gf fs) n j) ∧ Hid (Fr (fun k => k = b) w wr)) (fun u _ => (intOf u).toNat)
  case atStart => exact ⟨j0, fs0, rfl, hj, HH.out, List.Perm.refl _, HU.out, Fr.refl _ _⟩
  case round =>
    obtain ⟨j, fs, rfl, hj, hh, hp, hu, hf⟩ := hrel
    have hlen : fs.length = n := hp.out.length_eq.trans HN.out
    have hc0 : wr.cell? ⟨h, 0, none⟩ = some (.slice (some ⟨b, 0, none⟩) n c) := by rw [hh.out.1.cell 0, hlen]; rfl
    have hml := meth_less n c _ h wr hc0
    have hjI : (j : Int) < 100000 := by omega
    rcases Nat.eq_zero_or_pos j with hz | hz
    · subst hz
      go_wp2_with fail
      go_end0
      exact ⟨⟨_, rfl⟩, fs, hh.out, hp.out, up_zero hu.out, hf.out⟩
    · have hq : ((j : Int) - 1).tdiv 2 = ((par j : Nat) : Int) := by
        unfold par
        rw [Int.tdiv_eq_ediv_of_nonneg (by omega)]
        omega
      have hpl := par_lt hz
      have hne : (((par j : Nat) : Int) == (j : Int)) = false := by simp; omega
      obtain ⟨q, hqq⟩ : ∃ q, par j = q := ⟨_, rfl⟩
      rw [hqq] at hq hpl hne
      have HQ := Lib.hid hqq
      have hjl : j < fs.length := by rw [hlen]; exact hj
      have hql : q < fs.length := by omega
      have hqn : q < n := by omega
      clear hqq
      have hoj : FOk wr fs[j] := (HOK.out _ (hp.out.mem_iff.1 (List.getElem_mem _))).fr hf.out (fun e => (HOK.out _ (hp.out.mem_iff.1 (List.getElem_mem _))).ne HBF.out.choose_spec e)
      have hoq : FOk wr fs[q] := (HOK.out _ (hp.out.mem_iff.1 (List.getElem_mem _))).fr hf.out (fun e => (HOK.out _ (hp.out.mem_iff.1 (List.getElem_mem _))).ne HBF.out.choose_spec e)
      have HOJ := Lib.hid hoj
      have HOQ := Lib.hid hoq
      have HLEN := Lib.hid hlen
      have hrd := hh.out.rd (by omega)
      rw [hlen] at hrd
      have HRD := Lib.hid hrd
      have hls : fless fs[j] fs[q] = fless (gf fs j) (gf fs (par j)) := by rw [gf_at fs j hjl, gf_at fs q hql, HQ.out]
      have HLS := Lib.hid hls
      clear hoj hoq hlen hrd hls
      cases hl : fless (gf fs j) (gf fs (par j)) with
      | false =>
        have HL := Lib.hid hl
        clear hl
        go_wp2_with (first
          | (go_at_call 98; refine (less_c wr b n c j q fs HRD.out HLEN.out hnc hj hqn hm HOJ.out HOQ.out).mono ?_; rintro e w1 ⟨rfl, f1⟩; rw [HLS.out, HL.out]; have F1 := Lib.hid f1; clear f1))
        go_end0
        exact ⟨⟨_, rfl⟩, fs, hh.out.far F1.out, hp.out, up_stop hu.out HL.out, hf.out.trans F1.out (fun _ _ h => h.elim)⟩
      | true =>
        have HL := Lib.hid hl
        clear hl
        go_wp2_with (first
          | (go_at_call 98
             refine (less_c wr b n c j q fs HRD.out HLEN.out hnc hj hqn hm HOJ.out HOQ.out).mono ?_
             rintro e w1 ⟨rfl, f1⟩
             rw [HLS.out, HL.out]
             have F1 := Lib.hid f1
             have hh1 := hh.out.far f1
             have hc1 : w1.cell? ⟨h, 0, none⟩ = some (.slice (some ⟨b, 0, none⟩) n c) := by rw [hh1.1.cell 0, HLEN.out]; rfl
             have hms := meth_swap n c _ h w1 hc1
             have HH1 := Lib.hid hh1
             clear f1 hh1)
          | (go_at_call 99
             obtain ⟨cur, hb1, hb2, hb3⟩ := HH1.out.2
             rw [HLEN.out] at hb3
             refine (swap_c w1 b n c q j fs cur hb1 hb2 hb3 HLEN.out hnc hqn hj hm).mono ?_
             rintro e w2 ⟨⟨v, rfl⟩, f2, cur', h4, h5, h6⟩
             have F2 := Lib.hid f2
             have H4 := Lib.hid h4
             have H5 := Lib.hid h5
             have H6 := Lib.hid h6
             clear hb1 hb2 hb3 f2 h4 h5 h6))
        refine ⟨⟨q, (fs.set q fs[j]).set j fs[q], rfl, hqn, ⟨?_, cur', H4.out, H5.out, ?_⟩, ?_, ?_, (hf.out.trans F1.out (fun _ _ h => h.elim)).trans F2.out (fun _ _ h => h)⟩, by simp only [intOf]; omega⟩
        · have := HH1.out.1.fr F2.out HHB.out
          simp only [List.length_set]
          exact this
        · simp only [List.length_set]
          rw [HLEN.out]
          exact H6.out
        · exact (List.set_set_perm hql hjl).trans hp.out
        · show UpI _ _ _
          rw [gf_swap fs q j hql hjl]
          have := up_step hu.out hz hj HL.out
          rw [HQ.out] at this
          exact this
end Go.Proofs.YtillifkilkjpdaaDoor
