/-
  THE HEAP behind its interface: CONTRACT of down. Written by gen_down.py.
-/
import Derived.Test.YtillifkilkjpdaaDoorHp2
namespace Go.Proofs.YtillifkilkjpdaaDoor
set_option linter.unusedSimpArgs false
set_option linter.unusedVariables false
open Go Go.RowKit

theorem swap_take {fs : List Frt} {n i j : Nat} (hi : i < n) (hj : j < n) (hn : n ≤ fs.length) : (((fs.set i (fs[j]'(by omega))).set j (fs[i]'(by omega))).take n).Perm (fs.take n) := by
  rw [List.take_set, List.take_set]
  have h1 : i < (fs.take n).length := by rw [List.length_take]; omega
  have h2 : j < (fs.take n).length := by rw [List.length_take]; omega
  have := List.set_set_perm h1 h2
  simp only [List.getElem_take] at this
  exact this
theorem swap_drop {fs : List Frt} {n i j : Nat} (hi : i < n) (hj : j < n) (x y : Frt) : ((fs.set i x).set j y).drop n = fs.drop n := by
  rw [List.drop_set_of_lt hj, List.drop_set_of_lt hi]
theorem child {k i : Nat} (h0 : 0 < k) (h : par k = i) : k = 2 * i + 1 ∨ k = 2 * i + 2 := by unfold par at h; omega

set_option maxRecDepth 100000 in
set_option maxHeartbeats 2000000 in
theorem down_c (w : World) (h b c N n : Nat) (fs0 : List Frt) (i0 : Nat) (hH : HpB w h b c fs0) (hN : fs0.length = N) (hnN : n ≤ N) (hNc : N ≤ c) (hm : N ≤ 100000) (hi0 : i0 ≤ n) (hok : ∀ f ∈ fs0.take n, FOk w f) (hD : DownI (gf fs0) n i0) :
    Calls Tryd.prog 51 #[.iface 79 (.pointer (some ⟨h, 0, none⟩)), .int .i64 i0, .int .i64 n] w fun e w' => (∃ i : Nat, i0 ≤ i ∧ e = .returned (.bool (decide (i0 < i)))) ∧ ∃ fs', HpB w' h b c fs' ∧ fs'.length = N ∧ (fs'.take n).Perm (fs0.take n) ∧ fs'.drop n = fs0.drop n ∧ Heap (gf fs') n ∧ Fr (fun k => k = b) w w' := by
  have HH := Lib.hid hH
  have HN := Lib.hid hN
  have HOK := Lib.hid hok
  have HD := Lib.hid hD
  have hbF : ∃ cur, Blk w b 81 cur := ⟨_, hH.2.choose_spec.1⟩
  have hhb : h ≠ b := hH.1.ne_ hH.2.choose_spec.1 (by decide)
  have HBF := Lib.hid hbF
  have HHB := Lib.hid hhb
  clear hH hN hok hD hbF hhb
  go_enter Tryd.func51, Tryd.ntmps51
  go_wp2_with fail
  go_loopw [7] (fun u wr => ∃ (i : Nat) (fs : List Frt), u = .int .i64 i ∧ i0 ≤ i ∧ i ≤ n ∧ Hid (HpB wr h b c fs) ∧ Hid (fs.length = N) ∧ Hid ((fs.take n).Perm (fs0.take n)) ∧ Hid (fs.drop n = fs0.drop n) ∧ Hid (DownI (gf fs) n i) ∧ Hid (Fr (fun k => k = b) w wr)) (fun u _ => n - (intOf u).toNat)
  case atStart => exact ⟨i0, fs0, rfl, Nat.le_refl _, hi0, HH.out, HN.out, List.Perm.refl _, rfl, HD.out, Fr.refl _ _⟩
  case round =>
    obtain ⟨i, fs, rfl, hii, hin, hh, hlen, hp, hdr, hd, hf⟩ := hrel
    have hinI : (i : Int) ≤ 100000 := by omega
    by_cases hj1 : 2 * i + 1 < n
    · have d1 : decide ((n : Int) ≤ 2 * (i : Int) + 1) = false := decide_eq_false (by omega)
      have d1b : decide (2 * (i : Int) + 1 < 0) = false := decide_eq_false (by omega)
      have hln := hlen.out
      have hi : i < fs.length := by omega
      have h1l : 2 * i + 1 < fs.length := by omega
      have hfok : ∀ k (hk : k < fs.length), k < n → FOk wr fs[k] := fun k hk hkn => by
        have hmem : fs[k] ∈ fs.take n := by
          have : (fs.take n)[k]'(by rw [List.length_take]; omega) = fs[k] := List.getElem_take
          rw [← this]
          exact List.getElem_mem _
        have hfw := HOK.out _ (hp.out.mem_iff.1 hmem)
        exact hfw.fr hf.out (fun e => hfw.ne HBF.out.choose_spec e)
      have HFOK := Lib.hid hfok
      have hc0 : wr.cell? ⟨h, 0, none⟩ = some (.slice (some ⟨b, 0, none⟩) N c) := by rw [hh.out.1.cell 0, hlen.out]; rfl
      have hml := meth_less N c _ h wr hc0
      have hrd := hh.out.rd (by omega)
      rw [hlen.out] at hrd
      have HRD := Lib.hid hrd
      have ej1 : (2 : Int) * (i : Int) + 1 = ((2 * i + 1 : Nat) : Int) := by push_cast; rfl
      obtain ⟨p, hpp⟩ : ∃ p, 2 * i + 1 = p := ⟨_, rfl⟩
      rw [hpp] at hj1 h1l ej1
      rw [ej1] at d1 d1b
      have d1n : decide (n ≤ p) = false := decide_eq_false (by omega)
      have hpI : (p : Int) ≤ 100000 := by omega
      have HPP := Lib.hid hpp
      clear hpp hfok hrd
      by_cases hj2 : p + 1 < n
      · have d2 : decide ((p : Int) + 1 < (n : Int)) = true := decide_eq_true (by omega)
        obtain ⟨r, hr⟩ : ∃ r, p + 1 = r := ⟨_, rfl⟩
        have er : (p : Int) + 1 = (r : Int) := by omega
        rw [hr] at hj2
        rw [er] at d2
        have d2n : decide (r < n) = true := decide_eq_true hj2
        have h2l : r < fs.length := by omega
        have hrI : (r : Int) ≤ 100000 := by omega
        have HRR := Lib.hid hr
        have hls2 : fless fs[r] fs[p] = fless (gf fs r) (gf fs p) := by rw [gf_at fs _ h2l, gf_at fs _ h1l]
        have HLS2 := Lib.hid hls2
        clear hls2 hr
        cases hl2 : fless (gf fs r) (gf fs p) with
        | true =>
          have HL2 := Lib.hid hl2
          have hch : ∀ k, 0 < k → k < n → par k = i → fless (gf fs k) (gf fs r) = false := fun k h0 hk hpk => by
            have := HPP.out
            have h' := HRR.out
            rcases child h0 hpk with e | e
            · rw [e, this]; exact fless_asym hl2
            · rw [show k = r by omega]; exact fless_irr _
          have HCH := Lib.hid hch
          clear hl2 hch
          have hjl : r < fs.length := by omega
          have hjn : r < n := by omega
          have hpar : par (r) = i := by have := HPP.out; have h2 := HRR.out; unfold par; omega
          have hlsj : fless (fs[r]) fs[i] = fless (gf fs (r)) (gf fs i) := by rw [gf_at fs _ hjl, gf_at fs _ hi]
          have HLSJ := Lib.hid hlsj
          clear hlsj
          cases hl : fless (gf fs (r)) (gf fs i) with
          | false =>
            have HL := Lib.hid hl
            clear hl
            go_wp2_with (first
              | (go_at_call 98
                 fail_if_success (have := F1)
                 refine (less_c wr b N c r p fs HRD.out hlen.out hNc (by omega) (by omega) hm (HFOK.out _ h2l hj2) (HFOK.out _ h1l hj1)).mono ?_
                 rintro e w1 ⟨rfl, f1⟩
                 rw [HLS2.out, HL2.out]
                 have F1 := Lib.hid f1
                 have hh1 := hh.out.far f1
                 have hc1 : w1.cell? ⟨h, 0, none⟩ = some (.slice (some ⟨b, 0, none⟩) N c) := by rw [hh1.1.cell 0, hlen.out]; rfl
                 have hml1 := meth_less N c _ h w1 hc1
                 clear f1 hh1)
              | (go_at_call 98
                 refine (less_c w1 b N c (r) i fs (HRD.out.far F1.out) hlen.out hNc (by omega) (by omega) hm ((HFOK.out _ hjl hjn).fr F1.out (fun h => h)) ((HFOK.out _ hi (by omega)).fr F1.out (fun h => h))).mono ?_
                 rintro e w2 ⟨rfl, f2⟩
                 rw [HLSJ.out, HL.out]
                 have F2 := Lib.hid f2
                 clear f2))
            skip
            go_ret
            refine ⟨⟨i, hii, ?_⟩, fs, hh.out.far (F1.out.trans F2.out (fun _ _ h => h)), hlen.out, hp.out, hdr.out, down_stop hd.out (fun k h0 hk hpk => fless_neg (HCH.out k h0 hk hpk) HL.out), hf.out.trans (F1.out.trans F2.out (fun _ _ h => h)) (fun _ _ h => h.elim)⟩
            rfl
          | true =>
            have HL := Lib.hid hl
            clear hl
            go_wp2_with (first
              | (go_at_call 98
                 fail_if_success (have := F1)
                 refine (less_c wr b N c r p fs HRD.out hlen.out hNc (by omega) (by omega) hm (HFOK.out _ h2l hj2) (HFOK.out _ h1l hj1)).mono ?_
                 rintro e w1 ⟨rfl, f1⟩
                 rw [HLS2.out, HL2.out]
                 have F1 := Lib.hid f1
                 have hh1 := hh.out.far f1
                 have hc1 : w1.cell? ⟨h, 0, none⟩ = some (.slice (some ⟨b, 0, none⟩) N c) := by rw [hh1.1.cell 0, hlen.out]; rfl
                 have hml1 := meth_less N c _ h w1 hc1
                 clear f1 hh1)
              | (go_at_call 98
                 refine (less_c w1 b N c (r) i fs (HRD.out.far F1.out) hlen.out hNc (by omega) (by omega) hm ((HFOK.out _ hjl hjn).fr F1.out (fun h => h)) ((HFOK.out _ hi (by omega)).fr F1.out (fun h => h))).mono ?_
                 rintro e w2 ⟨rfl, f2⟩
                 rw [HLSJ.out, HL.out]
                 have F2 := Lib.hid f2
                 have hh2 := hh.out.far (F1.out.trans F2.out (fun _ _ h => h))
                 have hc2 : w2.cell? ⟨h, 0, none⟩ = some (.slice (some ⟨b, 0, none⟩) N c) := by rw [hh2.1.cell 0, hlen.out]; rfl
                 have hms := meth_swap N c _ h w2 hc2
                 have HH2 := Lib.hid hh2
                 clear f2 hh2)
              | (go_at_call 99
                 obtain ⟨cur, hb1, hb2, hb3⟩ := HH2.out.2
                 rw [hlen.out] at hb3
                 refine (swap_c w2 b N c i (r) fs cur hb1 hb2 hb3 hlen.out hNc (by omega) (by omega) hm).mono ?_
                 rintro e w3 ⟨⟨v, rfl⟩, f3, cur', h4, h5, h6⟩
                 have F3 := Lib.hid f3
                 have H4 := Lib.hid h4
                 have H5 := Lib.hid h5
                 have H6 := Lib.hid h6
                 clear hb1 hb2 hb3 f3 h4 h5 h6))
            refine ⟨⟨r, (fs.set i (fs[r])).set (r) fs[i], rfl, by omega, by omega, ⟨?_, cur', H4.out, H5.out, ?_⟩, ?_, ?_, ?_, ?_, (hf.out.trans (F1.out.trans F2.out (fun _ _ h => h)) (fun _ _ h => h.elim)).trans F3.out (fun _ _ h => h)⟩, by simp only [intOf]; omega⟩
            · have := HH2.out.1.fr F3.out HHB.out
              simp only [List.length_set]
              exact this
            · simp only [List.length_set]
              rw [hlen.out]
              exact H6.out
            · show _ = _
              simp only [List.length_set]
              exact hlen.out
            · exact (swap_take (by omega) hjn (by omega)).trans hp.out
            · show _ = _
              rw [swap_drop (by omega) hjn]
              exact hdr.out
            · show DownI _ _ _
              rw [gf_swap fs i (r) hi hjl]
              exact down_step hd.out (by omega) hjn hpar HL.out HCH.out
        | false =>
          have HL2 := Lib.hid hl2
          have hch : ∀ k, 0 < k → k < n → par k = i → fless (gf fs k) (gf fs p) = false := fun k h0 hk hpk => by
            have := HPP.out
            rcases child h0 hpk with e | e
            · rw [e, this]; exact fless_irr _
            · rw [show k = r by have := HRR.out; omega]; exact hl2
          have HCH := Lib.hid hch
          clear hl2 hch
          have hjl : p < fs.length := by omega
          have hjn : p < n := by omega
          have hpar : par (p) = i := by have := HPP.out; have h2 := HRR.out; unfold par; omega
          have hlsj : fless (fs[p]) fs[i] = fless (gf fs (p)) (gf fs i) := by rw [gf_at fs _ hjl, gf_at fs _ hi]
          have HLSJ := Lib.hid hlsj
          clear hlsj
          cases hl : fless (gf fs (p)) (gf fs i) with
          | false =>
            have HL := Lib.hid hl
            clear hl
            go_wp2_with (first
              | (go_at_call 98
                 fail_if_success (have := F1)
                 refine (less_c wr b N c r p fs HRD.out hlen.out hNc (by omega) (by omega) hm (HFOK.out _ h2l hj2) (HFOK.out _ h1l hj1)).mono ?_
                 rintro e w1 ⟨rfl, f1⟩
                 rw [HLS2.out, HL2.out]
                 have F1 := Lib.hid f1
                 have hh1 := hh.out.far f1
                 have hc1 : w1.cell? ⟨h, 0, none⟩ = some (.slice (some ⟨b, 0, none⟩) N c) := by rw [hh1.1.cell 0, hlen.out]; rfl
                 have hml1 := meth_less N c _ h w1 hc1
                 clear f1 hh1)
              | (go_at_call 98
                 refine (less_c w1 b N c (p) i fs (HRD.out.far F1.out) hlen.out hNc (by omega) (by omega) hm ((HFOK.out _ hjl hjn).fr F1.out (fun h => h)) ((HFOK.out _ hi (by omega)).fr F1.out (fun h => h))).mono ?_
                 rintro e w2 ⟨rfl, f2⟩
                 rw [HLSJ.out, HL.out]
                 have F2 := Lib.hid f2
                 clear f2))
            skip
            go_ret
            refine ⟨⟨i, hii, ?_⟩, fs, hh.out.far (F1.out.trans F2.out (fun _ _ h => h)), hlen.out, hp.out, hdr.out, down_stop hd.out (fun k h0 hk hpk => fless_neg (HCH.out k h0 hk hpk) HL.out), hf.out.trans (F1.out.trans F2.out (fun _ _ h => h)) (fun _ _ h => h.elim)⟩
            rfl
          | true =>
            have HL := Lib.hid hl
            clear hl
            go_wp2_with (first
              | (go_at_call 98
                 fail_if_success (have := F1)
                 refine (less_c wr b N c r p fs HRD.out hlen.out hNc (by omega) (by omega) hm (HFOK.out _ h2l hj2) (HFOK.out _ h1l hj1)).mono ?_
                 rintro e w1 ⟨rfl, f1⟩
                 rw [HLS2.out, HL2.out]
                 have F1 := Lib.hid f1
                 have hh1 := hh.out.far f1
                 have hc1 : w1.cell? ⟨h, 0, none⟩ = some (.slice (some ⟨b, 0, none⟩) N c) := by rw [hh1.1.cell 0, hlen.out]; rfl
                 have hml1 := meth_less N c _ h w1 hc1
                 clear f1 hh1)
              | (go_at_call 98
                 refine (less_c w1 b N c (p) i fs (HRD.out.far F1.out) hlen.out hNc (by omega) (by omega) hm ((HFOK.out _ hjl hjn).fr F1.out (fun h => h)) ((HFOK.out _ hi (by omega)).fr F1.out (fun h => h))).mono ?_
                 rintro e w2 ⟨rfl, f2⟩
                 rw [HLSJ.out, HL.out]
                 have F2 := Lib.hid f2
                 have hh2 := hh.out.far (F1.out.trans F2.out (fun _ _ h => h))
                 have hc2 : w2.cell? ⟨h, 0, none⟩ = some (.slice (some ⟨b, 0, none⟩) N c) := by rw [hh2.1.cell 0, hlen.out]; rfl
                 have hms := meth_swap N c _ h w2 hc2
                 have HH2 := Lib.hid hh2
                 clear f2 hh2)
              | (go_at_call 99
                 obtain ⟨cur, hb1, hb2, hb3⟩ := HH2.out.2
                 rw [hlen.out] at hb3
                 refine (swap_c w2 b N c i (p) fs cur hb1 hb2 hb3 hlen.out hNc (by omega) (by omega) hm).mono ?_
                 rintro e w3 ⟨⟨v, rfl⟩, f3, cur', h4, h5, h6⟩
                 have F3 := Lib.hid f3
                 have H4 := Lib.hid h4
                 have H5 := Lib.hid h5
                 have H6 := Lib.hid h6
                 clear hb1 hb2 hb3 f3 h4 h5 h6))
            refine ⟨⟨p, (fs.set i (fs[p])).set (p) fs[i], rfl, by omega, by omega, ⟨?_, cur', H4.out, H5.out, ?_⟩, ?_, ?_, ?_, ?_, (hf.out.trans (F1.out.trans F2.out (fun _ _ h => h)) (fun _ _ h => h.elim)).trans F3.out (fun _ _ h => h)⟩, by simp only [intOf]; omega⟩
            · have := HH2.out.1.fr F3.out HHB.out
              simp only [List.length_set]
              exact this
            · simp only [List.length_set]
              rw [hlen.out]
              exact H6.out
            · show _ = _
              simp only [List.length_set]
              exact hlen.out
            · exact (swap_take (by omega) hjn (by omega)).trans hp.out
            · show _ = _
              rw [swap_drop (by omega) hjn]
              exact hdr.out
            · show DownI _ _ _
              rw [gf_swap fs i (p) hi hjl]
              exact down_step hd.out (by omega) hjn hpar HL.out HCH.out
      · have d2 : decide ((p : Int) + 1 < (n : Int)) = false := decide_eq_false (by omega)
        have d2n : decide (p + 1 < n) = false := decide_eq_false hj2
        have hch : ∀ k, 0 < k → k < n → par k = i → fless (gf fs k) (gf fs p) = false := fun k h0 hk hpk => by
          have := HPP.out
          rcases child h0 hpk with e | e
          · rw [e, this]; exact fless_irr _
          · omega
        have HCH := Lib.hid hch
        clear hch
        have hjl : p < fs.length := by omega
        have hjn : p < n := by omega
        have hpar : par (p) = i := by have := HPP.out;  unfold par; omega
        have hlsj : fless (fs[p]) fs[i] = fless (gf fs (p)) (gf fs i) := by rw [gf_at fs _ hjl, gf_at fs _ hi]
        have HLSJ := Lib.hid hlsj
        clear hlsj
        cases hl : fless (gf fs (p)) (gf fs i) with
        | false =>
          have HL := Lib.hid hl
          clear hl
          go_wp2_with (first
            | (go_at_call 98
               refine (less_c wr b N c (p) i fs HRD.out hlen.out hNc (by omega) (by omega) hm (HFOK.out _ hjl hjn) (HFOK.out _ hi (by omega))).mono ?_
               rintro e w2 ⟨rfl, f2⟩
               rw [HLSJ.out, HL.out]
               have F2 := Lib.hid f2
               clear f2))
          skip
          go_ret
          refine ⟨⟨i, hii, ?_⟩, fs, hh.out.far F2.out, hlen.out, hp.out, hdr.out, down_stop hd.out (fun k h0 hk hpk => fless_neg (HCH.out k h0 hk hpk) HL.out), hf.out.trans F2.out (fun _ _ h => h.elim)⟩
          rfl
        | true =>
          have HL := Lib.hid hl
          clear hl
          go_wp2_with (first
            | (go_at_call 98
               refine (less_c wr b N c (p) i fs HRD.out hlen.out hNc (by omega) (by omega) hm (HFOK.out _ hjl hjn) (HFOK.out _ hi (by omega))).mono ?_
               rintro e w2 ⟨rfl, f2⟩
               rw [HLSJ.out, HL.out]
               have F2 := Lib.hid f2
               have hh2 := hh.out.far F2.out
               have hc2 : w2.cell? ⟨h, 0, none⟩ = some (.slice (some ⟨b, 0, none⟩) N c) := by rw [hh2.1.cell 0, hlen.out]; rfl
               have hms := meth_swap N c _ h w2 hc2
               have HH2 := Lib.hid hh2
               clear f2 hh2)
            | (go_at_call 99
               obtain ⟨cur, hb1, hb2, hb3⟩ := HH2.out.2
               rw [hlen.out] at hb3
               refine (swap_c w2 b N c i (p) fs cur hb1 hb2 hb3 hlen.out hNc (by omega) (by omega) hm).mono ?_
               rintro e w3 ⟨⟨v, rfl⟩, f3, cur', h4, h5, h6⟩
               have F3 := Lib.hid f3
               have H4 := Lib.hid h4
               have H5 := Lib.hid h5
               have H6 := Lib.hid h6
               clear hb1 hb2 hb3 f3 h4 h5 h6))
          refine ⟨⟨p, (fs.set i (fs[p])).set (p) fs[i], rfl, by omega, by omega, ⟨?_, cur', H4.out, H5.out, ?_⟩, ?_, ?_, ?_, ?_, (hf.out.trans F2.out (fun _ _ h => h.elim)).trans F3.out (fun _ _ h => h)⟩, by simp only [intOf]; omega⟩
          · have := HH2.out.1.fr F3.out HHB.out
            simp only [List.length_set]
            exact this
          · simp only [List.length_set]
            rw [hlen.out]
            exact H6.out
          · show _ = _
            simp only [List.length_set]
            exact hlen.out
          · exact (swap_take (by omega) hjn (by omega)).trans hp.out
          · show _ = _
            rw [swap_drop (by omega) hjn]
            exact hdr.out
          · show DownI _ _ _
            rw [gf_swap fs i (p) hi hjl]
            exact down_step hd.out (by omega) hjn hpar HL.out HCH.out
    · have d1 : decide ((n : Int) ≤ 2 * (i : Int) + 1) = true := decide_eq_true (by omega)
      go_wp2_with fail
      go_ret
      refine ⟨⟨i, hii, ?_⟩, fs, hh.out, hlen.out, hp.out, hdr.out, down_stop hd.out (fun k h0 hk hpk => by have := child h0 hpk; omega), hf.out⟩
      rfl
end Go.Proofs.YtillifkilkjpdaaDoor
