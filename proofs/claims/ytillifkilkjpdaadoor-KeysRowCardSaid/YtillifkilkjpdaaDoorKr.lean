/-
  KeysRow.
-/
import Derived.Test.YtillifkilkjpdaaDoorKr1
namespace Go.Proofs.YtillifkilkjpdaaDoor
set_option linter.unusedSimpArgs false
set_option linter.unusedVariables false
open Go Go.RowKit

theorem IX.up {w w' : World} {B g : Nat} {v : Value} {m : Ents} (F : Fr (fun _ => False) w w') (hx : IX w' B g v m) (hB : w.heap.size ≤ B) {w2 : World} (h : Fr (fun k => k = g ∨ v.ownBlock = some k) w' w2) : Fr (fun _ => False) w w2 :=
  F.trans h (fun k hk e => by
    rcases e with e | e
    · have := hx.base; omega
    · have := (World.ownsRow.lt hx.own k e).1; omega)
theorem IX.drew {w : World} {B g : Nat} {v : Value} {m : Ents} (h : IX w B g v m) : IX w.drew B g v m := h.far ((Fr.refl _ w).drew)

set_option maxRecDepth 100000 in
set_option maxHeartbeats 4000000 in
theorem keysRow_c (w : World) (A : Option Addr) (n c : Nat) (l : List Ac) (fr tt : List UInt8) (hr : RdA w A n l) (hl : l.length = n) (hn : n ≤ 140737488355328) (hok : ∀ a ∈ l, a.Ok) (hfr : fr.length ≤ 140737488355328) (htt : tt.length ≤ 140737488355328) (htab : TabOk w) :
    Calls Tryd.prog 7 #[.slice A n c, .string (strOf fr), .string (strOf tt)] w fun e w' => e = .returned (.bool true) ∧ Fr (fun _ => False) w w' := by
  have HR := Lib.hid hr
  have HL := Lib.hid hl
  have HOK := Lib.hid hok
  have HT := Lib.hid htab
  obtain ⟨fn, hfn⟩ : ∃ fn, (strOf fr).size = fn := ⟨_, rfl⟩
  obtain ⟨tn, htn⟩ : ∃ tn, (strOf tt).size = tn := ⟨_, rfl⟩
  have hfb : fn ≤ 140737488355328 := by rw [← hfn, strOf_size]; exact hfr
  have htb : tn ≤ 140737488355328 := by rw [← htn, strOf_size]; exact htt
  have esum : IntKind.i64.wrap ((fn : Int) + (tn : Int)) = (fn : Int) + (tn : Int) := IntWalk.i64_in _ (by omega)
  have HFN := Lib.hid hfn
  have HTN := Lib.hid htn
  clear hr hl hok htab hfr htt
  go_enter Tryd.func7, Tryd.ntmps7
  go_wp2_with fail
  refine (long_c w A n c l HR.out HL.out hn HOK.out).mono ?_
  rintro e w1 ⟨⟨b1, rfl, hb1⟩, f1⟩
  have HB1 := Lib.hid hb1
  have F1 := Lib.hid f1
  clear hb1 f1
  cases b1 with
  | true =>
    go_wp2_with fail
    refine (awake_c w1 (HT.out.far F1.out)).mono ?_
    rintro e wz ⟨rfl, fz⟩
    have FZ := Lib.hid (F1.out.trans fz (fun _ _ h => h))
    clear fz
    go_wp2_with fail
    go_ret
    exact ⟨rfl, FZ.out⟩
  | false =>
    have hn4 : n ≤ 400 := HB1.out rfl
    clear HB1
    by_cases hs : fn + tn ≤ 1000
    · have hd1 : decide ((fn : Int) + (tn : Int) > 1000) = false := decide_eq_false (by omega)
      have hd2 : decide ((1000 : Int) < (fn : Int) + (tn : Int)) = false := decide_eq_false (by omega)
      go_wp2_with fail
      clear esum hd1 hd2 hs hfb htb hfn htn
      have hws := F1.out.size
      refine (new_c w1).mono ?_
      rintro e w3 ⟨rfl, xa, f3⟩
      obtain ⟨g, hg⟩ : ∃ g, w1.heap.size = g := ⟨_, rfl⟩
      rw [hg] at xa ⊢
      have X3 := Lib.hid (xa.base_ (B' := w.heap.size) (by omega))
      have F3 := Lib.hid (F1.out.trans f3 (fun _ _ h => h))
      clear xa f3 F1 hg hws
      go_wp2_with fail
      go_loopw [8] (fun u wr => ∃ (i : Nat) (v : Value), u = .int .i64 i ∧ i ≤ n ∧ Hid (IX wr w.heap.size g v (fR (l.take i))) ∧ Hid (Fr (fun _ => False) w wr)) (fun u _ => n - (intOf u).toNat)
      case atStart => exact ⟨0, _, rfl, Nat.zero_le _, X3.out, F3.out⟩
      case round =>
        clear X3 F3
        obtain ⟨i, v, rfl, hi, xa, hf⟩ := hrel
        by_cases hlt : i < n
        · have hdl : decide ((i : Int) < (n : Int)) = true := decide_eq_true (by omega)
          have hdn : decide (i < n) = true := decide_eq_true hlt
          have hI : (i : Int) < n := by omega
          obtain ⟨b, off, rfl, hbl, c0, c1, c2, -⟩ := HR.out.act HL.out hlt
          have hin : i < l.length := by rw [HL.out]; exact hlt
          have y0 := (hf.out.cell hbl (fun h => h)).trans c0
          have y1 := (hf.out.cell hbl (fun h => h)).trans c1
          have y2 := (hf.out.cell hbl (fun h => h)).trans c2
          have HFT := Lib.hid (fR_take hin)
          have HLN : Hid ((fR (l.take i)).length ≤ 100000) := by
            have h1 := fR_len (l.take i)
            rw [List.length_take] at h1
            have h3 := HL.out
            show _ ≤ _
            omega
          clear c0 c1 c2
          have HSP : Hid (stepR (fR (l.take i)) l[i] = if l[i].d = 0 then mset (fR (l.take i)) l[i].k l[i].u else mdel (fR (l.take i)) l[i].k) := rfl
          generalize l[i].k = kk at *
          generalize l[i].u = uu at *
          generalize l[i].d = dd at *
          by_cases hd0 : dd = 0
          · have hb0 : (dd == 0) = true := by rw [hd0]; rfl
            have hst : Hid (fR (l.take (i + 1)) = mset (fR (l.take i)) kk uu) := by
              show _ = _
              rw [HFT.out, HSP.out, if_pos hd0]
            clear hd0 HFT HSP
            go_wp2_with fail
            go_region_with ((go_at_call 13; refine (set_c wr.drew w.heap.size g v (fR (l.take i)) kk uu xa.out.drew HLN.out).mono ?_; rintro e w6 ⟨rfl, v6, x6, f6, -⟩; have X6 := Lib.hid x6; have XF6 := Lib.hid f6; clear x6 f6))
            all_goals
              have HF6 : Hid (Fr (fun _ => False) w w6) := IX.up (w' := wr.drew) hf.out.drew (B := w.heap.size) (m := fR (l.take i)) xa.out.drew (Nat.le_refl _) XF6.out
              clear y0 y1 y2 XF6
              go_wp2_with fail
              refine ⟨⟨i + 1, v6, by push_cast; rfl, by omega, ?_, HF6.out⟩, by simp only [intOf]; omega⟩
              rw [hst.out]; exact X6.out
          · have hb0 : (dd == 0) = false := by simpa using hd0
            have hst : Hid (fR (l.take (i + 1)) = mdel (fR (l.take i)) kk) := by
              show _ = _
              rw [HFT.out, HSP.out, if_neg hd0]
            clear hd0 HFT HSP
            go_wp2_with fail
            refine (del_c wr w.heap.size g v (fR (l.take i)) kk xa.out HLN.out).mono ?_
            rintro e w6 ⟨rfl, v6, x6, f6, -⟩
            have X6 := Lib.hid x6
            have HF6 : Hid (Fr (fun _ => False) w w6) := IX.up hf.out xa.out (Nat.le_refl _) f6
            clear y0 y1 y2 x6 f6
            go_wp2_with fail
            refine ⟨⟨i + 1, v6, by push_cast; rfl, by omega, ?_, HF6.out⟩, by simp only [intOf]; omega⟩
            rw [hst.out]; exact X6.out
        · have hdl : decide ((i : Int) < (n : Int)) = false := decide_eq_false (by omega)
          have hdn : decide (i < n) = false := decide_eq_false hlt
          have hin : i = n := by omega
          have htk : Hid (l.take i = l) := by show _ = _; rw [hin, ← HL.out, List.take_length]
          have X8 : Hid (IX wr w.heap.size g v (fR l)) := by have := xa.out; rw [htk.out] at this; exact this
          have F8 := Lib.hid hf.out
          have hml : (fR l).length ≤ 400 := by have h1 := fR_len l; have := HL.out; omega
          clear xa hf htk hin hi
          go_wp2_with fail
          clear hlt hdl hdn
          obtain ⟨M, hM⟩ : ∃ M, fR l = M := ⟨_, rfl⟩
          have HLK : Hid (∀ p (hp : p < l.length), (∀ j (hj : j < l.length), p < j → l[j].k ≠ l[p].k) → lk M l[p].k = if l[p].d = 0 then some l[p].u else none) := fun p hp h => by rw [← hM]; exact lk_fR_last hp h
          rw [hM] at X8 hml
          clear hM
          go_loopw [9] (fun u wr => ∃ (i : Nat), u = .int .i64 i ∧ i ≤ n ∧ Hid (IX wr w.heap.size g v M) ∧ Hid (Fr (fun _ => False) w wr)) (fun u _ => n - (intOf u).toNat)
          case atStart => exact ⟨0, rfl, Nat.zero_le _, X8.out, F8.out⟩
          case round =>
            clear X8 F8
            obtain ⟨i, rfl, hi, xa, hf⟩ := hrel
            by_cases hlt : i < n
            · have hdl : decide ((i : Int) < (n : Int)) = true := decide_eq_true (by omega)
              have hdn : decide (i < n) = true := decide_eq_true hlt
              have hI : (i : Int) < n := by omega
              have hin : i < l.length := by rw [HL.out]; exact hlt
              obtain ⟨b, off, rfl, hbl, -, -, c2i, -⟩ := HR.out.act HL.out hlt
              have HC2I := Lib.hid c2i
              obtain ⟨kk, hkk⟩ : ∃ kk, l[i].k = kk := ⟨_, rfl⟩
              rw [hkk] at HC2I
              have HKK := Lib.hid hkk
              clear hkk c2i
              go_wp2_with fail
              go_loopw [11, 10] (fun u u2 wr => ∃ (k p : Nat), u = .int .i64 k ∧ k ≤ n ∧ u2 = .int .i64 p ∧ p < n ∧ Hid (∃ hp : p < l.length, l[p].k = kk ∧ ∀ j (hj : j < l.length), p < j → j < k → l[j].k ≠ kk) ∧ Hid (IX wr w.heap.size g v M) ∧ Hid (Fr (fun _ => False) w wr)) (fun u _ _ => n - (intOf u).toNat)
              case atStart => exact ⟨i, i, rfl, by omega, rfl, hlt, ⟨hin, HKK.out, fun j hj h1 h2 => by omega⟩, xa.out, hf.out⟩
              case round =>
                clear xa hf
                obtain ⟨k, p, rfl, hk, rfl, hpn, hlast, xa, hf⟩ := hrel
                by_cases hkt : k < n
                · have hkl : decide ((k : Int) < (n : Int)) = true := decide_eq_true (by omega)
                  have hkn : decide (k < n) = true := decide_eq_true hkt
                  have hkI : (k : Int) < n := by omega
                  have hkin : k < l.length := by rw [HL.out]; exact hkt
                  obtain ⟨b', off', he, -, -, -, c2k, -⟩ := HR.out.act HL.out hkt
                  injection he with he
                  injection he with he1 he2
                  subst he1 he2
                  have y2 := (hf.out.cell hbl (fun h => h)).trans c2k
                  have y3 := (hf.out.cell hbl (fun h => h)).trans HC2I.out
                  obtain ⟨kq, hkq⟩ : ∃ kq, l[k].k = kq := ⟨_, rfl⟩
                  rw [hkq] at y2
                  have HKQ := Lib.hid hkq
                  obtain ⟨r, hr⟩ : ∃ r, decide (kq = kk) = r := ⟨_, rfl⟩
                  have heq : ((strOf kq).toList == (strOf kk).toList) = r := by
                    rw [strOf_toList, strOf_toList, ← hr]
                    rw [Bool.eq_iff_iff]
                    simp
                  have HRR := Lib.hid hr
                  clear hkq hr c2k
                  go_wp2_with fail
                  go_quiet (fail)
                  have HF2 : Hid (Fr (fun _ => False) w (wr.drewN nq)) := hf.out.drewN nq
                  have XA2 : Hid (IX (wr.drewN nq) w.heap.size g v M) := xa.out.far ((Fr.refl _ wr).drewN nq)
                  clear y2 y3 heq
                  generalize wr.drewN nq = w2 at *
                  cases r with
                  | true =>
                    go_wp2_with fail
                    refine ⟨⟨k + 1, k, by push_cast; rfl, by omega, rfl, hkt, ⟨hkin, HKQ.out.trans (of_decide_eq_true HRR.out), fun j hj h1 h2 => by omega⟩, XA2.out, HF2.out⟩, by simp only [intOf]; omega⟩
                  | false =>
                    go_wp2_with fail
                    refine ⟨⟨k + 1, p, by push_cast; rfl, by omega, rfl, hpn, ?_, XA2.out, HF2.out⟩, by simp only [intOf]; omega⟩
                    obtain ⟨hp, h1, h2⟩ := hlast.out
                    refine ⟨hp, h1, fun j hj h3 h4 => ?_⟩
                    by_cases hjk : j = k
                    · subst hjk
                      rw [HKQ.out]
                      exact of_decide_eq_false HRR.out
                    · exact h2 j hj h3 (by omega)
                · have hkl : decide ((k : Int) < (n : Int)) = false := decide_eq_false (by omega)
                  have hkn : decide (k < n) = false := decide_eq_false hkt
                  obtain ⟨hp, h1, h2⟩ := hlast.out
                  have hlk := HLK.out p hp (fun j hj h3 => by rw [h1]; exact h2 j hj h3 (by have := HL.out; omega))
                  rw [h1] at hlk
                  obtain ⟨b', off', he, -, c0p, c1p, -, -⟩ := HR.out.act HL.out hpn
                  injection he with he
                  injection he with he1 he2
                  subst he1 he2
                  have HC0 := Lib.hid c0p
                  have HC1 := Lib.hid c1p
                  generalize l[p].d = dd at *
                  generalize l[p].u = uu at *
                  have HLKP := Lib.hid hlk
                  have hpI : (p : Int) < n := by omega
                  have y2 := (hf.out.cell hbl (fun h => h)).trans HC2I.out
                  clear hlk h1 h2 hlast c0p c1p
                  go_wp2_with fail
                  refine (get_c wr _ M kk xa.out.xr (by omega) xa.out.srt).mono ?_
                  rintro e w3 ⟨rfl, f3⟩
                  have X3 := Lib.hid (xa.out.far f3)
                  have F3 := Lib.hid (hf.out.trans f3 (fun _ _ h => h))
                  rw [gv_lk xa.out.srt, fnd_lk, HLKP.out]
                  clear y2 f3 xa hf hkl hkn hkt hk
                  have y0 := (F3.out.cell hbl (fun h => h)).trans HC0.out
                  have y1 := (F3.out.cell hbl (fun h => h)).trans HC1.out
                  by_cases hd0 : dd = 0
                  · have hb0 : (dd == 0) = true := by rw [hd0]; rfl
                    rw [if_pos hd0]
                    simp only [Option.getD_some, Option.isSome_some]
                    have hu1 : (uu != uu) = false := by simp
                    have hu2 : (uu == uu) = true := by simp
                    go_wp2_with fail
                    exact ⟨⟨i + 1, by push_cast; rfl, by omega, X3.out, F3.out⟩, by simp only [intOf]; omega⟩
                  · have hb0 : (dd == 0) = false := by simpa using hd0
                    rw [if_neg hd0]
                    simp only [Option.getD_none, Option.isSome_none]
                    go_wp2_with fail
                    exact ⟨⟨i + 1, by push_cast; rfl, by omega, X3.out, F3.out⟩, by simp only [intOf]; omega⟩
            · have hdl : decide ((i : Int) < (n : Int)) = false := decide_eq_false (by omega)
              have hdn : decide (i < n) = false := decide_eq_false hlt
              have X4 := Lib.hid xa.out
              have F4 := Lib.hid hf.out
              clear hi xa hf
              go_wp2_with fail
              clear hlt hdl hdn HLK
              refine (keys_c wr _ M X4.out.xr X4.out.srt (by omega)).mono ?_
              rintro e w5 ⟨v5, rfl, k5, f5⟩
              obtain ⟨mn, hmn⟩ : ∃ mn, M.length = mn := ⟨_, rfl⟩
              rw [hmn] at hml
              have HMN := Lib.hid hmn
              unfold OwK at k5
              rw [hmn] at k5
              obtain ⟨A5, c5, rfl, hc5, -⟩ := own_slice k5
              have K5 := Lib.hid (Rd.of_own k5)
              have X5 := Lib.hid (X4.out.far f5)
              have F5 := Lib.hid (F4.out.trans f5 (fun _ _ h => h))
              clear k5 f5 X4 F4 hmn
              go_wp2_with fail
              go_loopw [16, 15] (fun u u2 wr => ∃ (k q : Nat), u = .int .i64 k ∧ k ≤ mn ∧ u2 = .int .i64 q ∧ q ≤ k ∧ Hid ((rscn (M.take k) fr tt).length = q) ∧ Hid (Rd wr A5 mn (kc M)) ∧ Hid (IX wr w.heap.size g v M) ∧ Hid (Fr (fun _ => False) w wr)) (fun u _ _ => mn - (intOf u).toNat)
              case atStart => exact ⟨0, 0, rfl, Nat.zero_le _, rfl, Nat.le_refl _, rfl, K5.out, X5.out, F5.out⟩
              case round =>
                clear X5 F5 K5
                obtain ⟨k, q, rfl, hk, rfl, hqk, hq, hK, xa, hf⟩ := hrel
                by_cases hkt : k < mn
                · have hkl : decide ((k : Int) < (mn : Int)) = true := decide_eq_true (by omega)
                  have hkn : decide (k < mn) = true := decide_eq_true hkt
                  have hkI : (k : Int) < mn := by omega
                  have hkm : k < M.length := by rw [HMN.out]; exact hkt
                  obtain ⟨b, off, rfl, hcl⟩ := hK.out.lit (by omega)
                  have kc_at : ∀ j (hj : j < M.length), (kc M)[j]? = some (.string (strOf M[j].1)) := fun j hj => by
                    unfold kc
                    rw [List.getElem?_map, List.getElem?_eq_getElem hj]
                    rfl
                  have y1 : wr.cell? ⟨b, off + k, none⟩ = some (.string (strOf M[k].1)) := by rw [hcl _ hkt]; exact kc_at k hkm
                  obtain ⟨kk, hkk⟩ : ∃ kk, M[k].1 = kk := ⟨_, rfl⟩
                  have hrt := rscn_take hkm fr tt
                  rw [hkk] at y1 hrt
                  have HRT := Lib.hid hrt
                  have hK2 := hK
                  have HY1 := Lib.hid y1
                  have l1 : Op.bytesLess (strOf kk).toList (strOf fr).toList = kl kk fr := by rw [strOf_toList, strOf_toList]; rfl
                  have l2 : Op.bytesLess (strOf kk).toList (strOf tt).toList = kl kk tt := by rw [strOf_toList, strOf_toList]; rfl
                  have L1 := Lib.hid l1
                  have L2 := Lib.hid l2
                  have HPV : Hid (0 < k → ∃ kp, wr.cell? ⟨b, off + (k - 1), none⟩ = some (.string (strOf kp)) ∧ kl kp kk = true) := fun h0 => by
                    refine ⟨M[k - 1].1, ?_, ?_⟩
                    · rw [hcl _ (by omega)]; exact kc_at (k - 1) (by omega)
                    · rw [← hkk]
                      exact (List.pairwise_iff_getElem.1 xa.out.srt) (k - 1) k (by omega) hkm (by omega)
                  clear kc_at hcl hkk hrt l1 l2
                  have HK0 := Lib.hid hkn
                  by_cases hk0 : 0 < k
                  · have g0 : decide ((k : Int) > 0) = true := decide_eq_true (by omega)
                    have g1 : decide ((0 : Int) < (k : Int)) = true := decide_eq_true (by omega)
                    have g2 : decide (0 < k) = true := decide_eq_true hk0
                    obtain ⟨kp, y2, hkp⟩ := HPV.out hk0
                    obtain ⟨k1, hk1⟩ : ∃ k1, k - 1 = k1 := ⟨_, rfl⟩
                    rw [hk1] at y2
                    have e1 : IntKind.i64.wrap ((k : Int) - 1) = (k1 : Int) := by rw [IntWalk.i64_in _ (by omega)]; omega
                    have hk1I : (k1 : Int) < mn := by omega
                    have l3 : Op.bytesLess (strOf kp).toList (strOf kk).toList = true := by rw [strOf_toList, strOf_toList]; exact hkp
                    clear hk1 hkp HPV
                    go_wp2_with fail
                    go_quiet (fail)
                    clear l3 e1 y2 y1 g0 g1 g2
                    have hK3 : Hid (Rd (wr.drewN nq) (some ⟨b, off, none⟩) mn (kc M)) := hK.out.drewN nq
                    have xa3 : Hid (IX (wr.drewN nq) w.heap.size g v M) := xa.out.far ((Fr.refl _ wr).drewN nq)
                    have hf3 : Hid (Fr (fun _ => False) w (wr.drewN nq)) := hf.out.drewN nq
                    have y1 : (wr.drewN nq).cell? ⟨b, off + k, none⟩ = some (.string (strOf kk)) := HY1.out
                    clear hK hK2 xa hf HY1
                    generalize wr.drewN nq = w7 at *
                    have l1 := L1.out
                    have l2 := L2.out
                    have hrp : Hid (rscP fr tt (kk, M[k].2) = (!kl kk fr && (decide (tt = []) || kl kk tt))) := rfl
                    by_cases hq1 : kl kk fr = true
                    · rw [hq1] at l1
                      have hq2 : Hid ((rscn (M.take (k + 1)) fr tt).length = q) := by show _ = _; rw [HRT.out, hq.out, hrp.out, hq1]; rfl
                      clear hq1 hrp
                      go_wp2_with fail
                      exact ⟨⟨k + 1, q, by push_cast; rfl, by omega, rfl, by omega, hq2.out, hK3.out, xa3.out, hf3.out⟩, by simp only [intOf]; omega⟩
                    · have hq1 : kl kk fr = false := by simpa using hq1
                      rw [hq1] at l1
                      by_cases ht : tt = []
                      · have hne : (strOf tt).toList.isEmpty = true := by rw [strOf_toList, ht]; rfl
                        have hq2 : Hid ((rscn (M.take (k + 1)) fr tt).length = q + 1) := by show _ = _; rw [HRT.out, hq.out, hrp.out, hq1, ht]; rfl
                        clear hq1 hrp ht
                        go_wp2_with fail
                        exact ⟨⟨k + 1, q + 1, by push_cast; rfl, by omega, by push_cast; rfl, by omega, hq2.out, hK3.out, xa3.out, hf3.out⟩, by simp only [intOf]; omega⟩
                      · have hne : (strOf tt).toList.isEmpty = false := by rw [strOf_toList]; cases tt; exact absurd rfl ht; rfl
                        by_cases hq3 : kl kk tt = true
                        · rw [hq3] at l2
                          have hq2 : Hid ((rscn (M.take (k + 1)) fr tt).length = q + 1) := by show _ = _; rw [HRT.out, hq.out, hrp.out, hq1, hq3, Bool.or_true]; rfl
                          clear hq1 hrp ht hq3
                          go_wp2_with fail
                          exact ⟨⟨k + 1, q + 1, by push_cast; rfl, by omega, by push_cast; rfl, by omega, hq2.out, hK3.out, xa3.out, hf3.out⟩, by simp only [intOf]; omega⟩
                        · have hq3 : kl kk tt = false := by simpa using hq3
                          rw [hq3] at l2
                          have hq2 : Hid ((rscn (M.take (k + 1)) fr tt).length = q) := by show _ = _; rw [HRT.out, hq.out, hrp.out, hq1, hq3, decide_eq_false ht]; rfl
                          clear hq1 hrp ht hq3
                          go_wp2_with fail
                          exact ⟨⟨k + 1, q, by push_cast; rfl, by omega, rfl, by omega, hq2.out, hK3.out, xa3.out, hf3.out⟩, by simp only [intOf]; omega⟩
                  · have g0 : decide ((k : Int) > 0) = false := decide_eq_false (by omega)
                    have g1 : decide ((0 : Int) < (k : Int)) = false := decide_eq_false (by omega)
                    have g2 : decide (0 < k) = false := decide_eq_false hk0
                    clear HPV
                    go_wp2_with fail
                    go_quiet (fail)
                    clear y1 g0 g1 g2
                    have hK3 : Hid (Rd (wr.drewN nq) (some ⟨b, off, none⟩) mn (kc M)) := hK.out.drewN nq
                    have xa3 : Hid (IX (wr.drewN nq) w.heap.size g v M) := xa.out.far ((Fr.refl _ wr).drewN nq)
                    have hf3 : Hid (Fr (fun _ => False) w (wr.drewN nq)) := hf.out.drewN nq
                    have y1 : (wr.drewN nq).cell? ⟨b, off + k, none⟩ = some (.string (strOf kk)) := HY1.out
                    clear hK hK2 xa hf HY1
                    generalize wr.drewN nq = w7 at *
                    have l1 := L1.out
                    have l2 := L2.out
                    have hrp : Hid (rscP fr tt (kk, M[k].2) = (!kl kk fr && (decide (tt = []) || kl kk tt))) := rfl
                    by_cases hq1 : kl kk fr = true
                    · rw [hq1] at l1
                      have hq2 : Hid ((rscn (M.take (k + 1)) fr tt).length = q) := by show _ = _; rw [HRT.out, hq.out, hrp.out, hq1]; rfl
                      clear hq1 hrp
                      go_wp2_with fail
                      exact ⟨⟨k + 1, q, by push_cast; rfl, by omega, rfl, by omega, hq2.out, hK3.out, xa3.out, hf3.out⟩, by simp only [intOf]; omega⟩
                    · have hq1 : kl kk fr = false := by simpa using hq1
                      rw [hq1] at l1
                      by_cases ht : tt = []
                      · have hne : (strOf tt).toList.isEmpty = true := by rw [strOf_toList, ht]; rfl
                        have hq2 : Hid ((rscn (M.take (k + 1)) fr tt).length = q + 1) := by show _ = _; rw [HRT.out, hq.out, hrp.out, hq1, ht]; rfl
                        clear hq1 hrp ht
                        go_wp2_with fail
                        exact ⟨⟨k + 1, q + 1, by push_cast; rfl, by omega, by push_cast; rfl, by omega, hq2.out, hK3.out, xa3.out, hf3.out⟩, by simp only [intOf]; omega⟩
                      · have hne : (strOf tt).toList.isEmpty = false := by rw [strOf_toList]; cases tt; exact absurd rfl ht; rfl
                        by_cases hq3 : kl kk tt = true
                        · rw [hq3] at l2
                          have hq2 : Hid ((rscn (M.take (k + 1)) fr tt).length = q + 1) := by show _ = _; rw [HRT.out, hq.out, hrp.out, hq1, hq3, Bool.or_true]; rfl
                          clear hq1 hrp ht hq3
                          go_wp2_with fail
                          exact ⟨⟨k + 1, q + 1, by push_cast; rfl, by omega, by push_cast; rfl, by omega, hq2.out, hK3.out, xa3.out, hf3.out⟩, by simp only [intOf]; omega⟩
                        · have hq3 : kl kk tt = false := by simpa using hq3
                          rw [hq3] at l2
                          have hq2 : Hid ((rscn (M.take (k + 1)) fr tt).length = q) := by show _ = _; rw [HRT.out, hq.out, hrp.out, hq1, hq3, decide_eq_false ht]; rfl
                          clear hq1 hrp ht hq3
                          go_wp2_with fail
                          exact ⟨⟨k + 1, q, by push_cast; rfl, by omega, rfl, by omega, hq2.out, hK3.out, xa3.out, hf3.out⟩, by simp only [intOf]; omega⟩
                · have hkl : decide ((k : Int) < (mn : Int)) = false := decide_eq_false (by omega)
                  have hkn : decide (k < mn) = false := decide_eq_false hkt
                  have hkq : k = mn := by omega
                  have HCN : Hid ((scn M fr tt).length = q) := by
                    have h1 := hq.out
                    rw [hkq, ← HMN.out, List.take_length, rscn_eq xa.out.srt] at h1
                    exact h1
                  have X6 := Lib.hid xa.out
                  have F6 := Lib.hid hf.out
                  clear xa hf hk hkq hq hK
                  go_wp2_with fail
                  clear hkt hkl hkn
                  refine (scan_c wr _ M fr tt X6.out.xr X6.out.srt (by have := HMN.out; omega)).mono ?_
                  rintro e w18 ⟨s18, rfl, hs18, f18⟩
                  have HS18 := Lib.hid hs18
                  have HSR := Lib.hid (srt_scn X6.out.srt fr tt)
                  have HMEM : Hid (∀ e ∈ scn M fr tt, rscP fr tt e = true) := fun e he => scn_mem X6.out.srt he
                  have F18 := Lib.hid (F6.out.trans f18 (fun _ _ h => h))
                  have hq4 : q ≤ 400 := by have h1 := scn_le M fr tt; have h2 := HCN.out; have h3 := HMN.out; omega
                  clear hs18 f18 X6 F6
                  generalize scn M fr tt = G at *
                  go_wp2_with fail
                  refine (rows_c w18 _ (-1) G HS18.out (by have := HCN.out; omega) (by decide)).mono ?_
                  rintro e w19 ⟨r19, rfl, hr19, f19⟩
                  rw [show upto (-1) G = G from rfl] at hr19
                  obtain ⟨A19, c19, rfl, hr19', hc19⟩ := OwR.rd hr19
                  rw [HCN.out] at hr19' hc19 ⊢
                  have R19 := Lib.hid hr19'
                  have F19 := Lib.hid (F18.out.trans f19 (fun _ _ h => h))
                  clear hr19 hr19' f19 HS18 F18
                  go_wp2_with fail
                  go_loopw [18] (fun u wr => ∃ (k : Nat), u = .int .i64 k ∧ k ≤ q ∧ Hid (Rd wr A19 (q * 2) (ec G)) ∧ Hid (Fr (fun _ => False) w wr)) (fun u _ => q - (intOf u).toNat)
                  case atStart => exact ⟨0, rfl, Nat.zero_le _, R19.out, F19.out⟩
                  case round =>
                    clear R19 F19
                    obtain ⟨k, rfl, hk, hR, hf⟩ := hrel
                    by_cases hkt : k < q
                    · have hkl : decide ((k : Int) < (q : Int)) = true := decide_eq_true (by omega)
                      have hkn : decide (k < q) = true := decide_eq_true hkt
                      have hkI : (k : Int) < q := by omega
                      have hkm : k < G.length := by rw [HCN.out]; exact hkt
                      obtain ⟨b, off, rfl, hcl⟩ := hR.out.lit (by omega)
                      have y1 : wr.cell? ⟨b, off + k * 2, none⟩ = some (.string (strOf G[k].1)) := by rw [hcl _ (by omega)]; exact ec_key G k hkm
                      have hpr := HMEM.out G[k] (List.getElem_mem hkm)
                      have HPV : Hid (0 < k → ∃ kp, wr.cell? ⟨b, off + (k - 1) * 2, none⟩ = some (.string (strOf kp)) ∧ kl kp G[k].1 = true) := fun h0 => by
                        refine ⟨G[k - 1].1, ?_, ?_⟩
                        · rw [hcl _ (by omega)]; exact ec_key G (k - 1) (by omega)
                        · exact (List.pairwise_iff_getElem.1 HSR.out) (k - 1) k (by omega) hkm (by omega)
                      unfold rscP at hpr
                      simp only [Bool.and_eq_true, Bool.not_eq_true', Bool.or_eq_true, decide_eq_true_eq] at hpr
                      generalize G[k].1 = kk at *
                      obtain ⟨hp1, hp2⟩ := hpr
                      have l1 : Op.bytesLess (strOf kk).toList (strOf fr).toList = false := by rw [strOf_toList, strOf_toList]; exact hp1
                      have HP2 := Lib.hid hp2
                      clear hcl hp1 hp2
                      have hcases : (tt = [] ∨ (tt ≠ [] ∧ kl kk tt = true)) := by
                        by_cases ht : tt = []
                        · exact .inl ht
                        · exact .inr ⟨ht, HP2.out.resolve_left ht⟩
                      by_cases hk0 : 0 < k
                      · have g0 : decide ((k : Int) > 0) = true := decide_eq_true (by omega)
                        have g1 : decide ((0 : Int) < (k : Int)) = true := decide_eq_true (by omega)
                        have g2 : decide (0 < k) = true := decide_eq_true hk0
                        obtain ⟨kp, y2, hkp⟩ := HPV.out hk0
                        obtain ⟨k1, hk1⟩ : ∃ k1, k - 1 = k1 := ⟨_, rfl⟩
                        rw [hk1] at y2
                        have e1 : IntKind.i64.wrap ((k : Int) - 1) = (k1 : Int) := by rw [IntWalk.i64_in _ (by omega)]; omega
                        have hk1I : (k1 : Int) < q := by omega
                        have l3 : Op.bytesLess (strOf kp).toList (strOf kk).toList = true := by rw [strOf_toList, strOf_toList]; exact hkp
                        clear hk1 hkp HPV HP2
                        rcases hcases with ht | ⟨ht, hq3⟩
                        · have hne : (strOf tt).toList.isEmpty = true := by rw [strOf_toList, ht]; rfl
                          clear ht
                          go_wp2_with fail
                          go_quiet (fail)
                          have hR3 : Hid (Rd (wr.drewN nq) (some ⟨b, off, none⟩) (q * 2) (ec G)) := hR.out.drewN nq
                          have hf3 : Hid (Fr (fun _ => False) w (wr.drewN nq)) := hf.out.drewN nq
                          go_wp2_with fail
                          exact ⟨⟨k + 1, by push_cast; rfl, by omega, hR3.out, hf3.out⟩, by simp only [intOf]; omega⟩
                        · have hne : (strOf tt).toList.isEmpty = false := by rw [strOf_toList]; cases tt; exact absurd rfl ht; rfl
                          have l2 : Op.bytesLess (strOf kk).toList (strOf tt).toList = true := by rw [strOf_toList, strOf_toList]; exact hq3
                          clear ht hq3
                          go_wp2_with fail
                          go_quiet (fail)
                          have hR3 : Hid (Rd (wr.drewN nq) (some ⟨b, off, none⟩) (q * 2) (ec G)) := hR.out.drewN nq
                          have hf3 : Hid (Fr (fun _ => False) w (wr.drewN nq)) := hf.out.drewN nq
                          go_wp2_with fail
                          exact ⟨⟨k + 1, by push_cast; rfl, by omega, hR3.out, hf3.out⟩, by simp only [intOf]; omega⟩
                      · have g0 : decide ((k : Int) > 0) = false := decide_eq_false (by omega)
                        have g1 : decide ((0 : Int) < (k : Int)) = false := decide_eq_false (by omega)
                        have g2 : decide (0 < k) = false := decide_eq_false hk0
                        clear HPV HP2
                        rcases hcases with ht | ⟨ht, hq3⟩
                        · have hne : (strOf tt).toList.isEmpty = true := by rw [strOf_toList, ht]; rfl
                          clear ht
                          go_wp2_with fail
                          go_quiet (fail)
                          have hR3 : Hid (Rd (wr.drewN nq) (some ⟨b, off, none⟩) (q * 2) (ec G)) := hR.out.drewN nq
                          have hf3 : Hid (Fr (fun _ => False) w (wr.drewN nq)) := hf.out.drewN nq
                          go_wp2_with fail
                          exact ⟨⟨k + 1, by push_cast; rfl, by omega, hR3.out, hf3.out⟩, by simp only [intOf]; omega⟩
                        · have hne : (strOf tt).toList.isEmpty = false := by rw [strOf_toList]; cases tt; exact absurd rfl ht; rfl
                          have l2 : Op.bytesLess (strOf kk).toList (strOf tt).toList = true := by rw [strOf_toList, strOf_toList]; exact hq3
                          clear ht hq3
                          go_wp2_with fail
                          go_quiet (fail)
                          have hR3 : Hid (Rd (wr.drewN nq) (some ⟨b, off, none⟩) (q * 2) (ec G)) := hR.out.drewN nq
                          have hf3 : Hid (Fr (fun _ => False) w (wr.drewN nq)) := hf.out.drewN nq
                          go_wp2_with fail
                          exact ⟨⟨k + 1, by push_cast; rfl, by omega, hR3.out, hf3.out⟩, by simp only [intOf]; omega⟩
                    · have hkl : decide ((k : Int) < (q : Int)) = false := decide_eq_false (by omega)
                      have hkn : decide (k < q) = false := decide_eq_false hkt
                      have hqq : ((q : Int) == (q : Int)) = true := by simp
                      clear hk
                      go_wp2_with fail
                      refine (awake_c wr (HT.out.far hf.out)).mono ?_
                      rintro e wz ⟨rfl, fz⟩
                      have FZ := Lib.hid (hf.out.trans fz (fun _ _ h => h))
                      clear fz
                      go_wp2_with fail
                      go_ret
                      exact ⟨rfl, FZ.out⟩
    · have hd1 : decide ((fn : Int) + (tn : Int) > 1000) = true := decide_eq_true (by omega)
      have hd2 : decide ((1000 : Int) < (fn : Int) + (tn : Int)) = true := decide_eq_true (by omega)
      go_wp2_with fail
      refine (awake_c w1 (HT.out.far F1.out)).mono ?_
      rintro e wz ⟨rfl, fz⟩
      have FZ := Lib.hid (F1.out.trans fz (fun _ _ h => h))
      clear fz
      go_wp2_with fail
      go_ret
      exact ⟨rfl, FZ.out⟩
end Go.Proofs.YtillifkilkjpdaaDoor
