/-
  THE ITERATOR of Merge: what it hands to whatever loop.
-/
import Derived.Test.YtillifkilkjpdaaDoorMrgA
namespace Go.Proofs.YtillifkilkjpdaaDoor
set_option linter.unusedSimpArgs false
set_option linter.unusedVariables false
open Go Go.RowKit Go.Shelf
attribute [local go_sem] Oper.semAt_some

set_option maxRecDepth 100000 in
set_option maxHeartbeats 4000000 in
theorem merge1_it (n : Nat) (hn : 1 ≤ n) (L gl : Nat) (A : Option Addr) (c : Nat) (ps : List Value) (ms : List Ents) (W1 : World) (hl : Blk W1 gl 36 #[.slice A ps.length c]) (hr : Rd W1 A ps.length ps) (hx : XRs W1 ps ms) (hs : ∀ m ∈ ms, Srt m) (hlen : ∀ m ∈ ms, m.length ≤ 100000) (hnum : ps.length ≤ 1000) (hc : ps.length ≤ c) :
    IteratesB Tryd.prog n 37 #[.pointer (some ⟨gl, 0, none⟩)] encE (fun pre y => (mrg ms)[pre.length]? = some y) (fun xs => xs.length = (mrg ms).length) L W1 := by
  intro J Jx hJ hJx hY hJ0
  have x1 : W1.cell? ⟨gl, 0, none⟩ = some (.slice A ps.length c) := hl.cell 0
  have hgl := hl.lt
  obtain ⟨np, hnp⟩ : ∃ np, ps.length = np := ⟨_, rfl⟩
  rw [hnp] at x1 hr hnum hc
  have HR := Lib.hid hr
  have HX := Lib.hid hx
  have HS := Lib.hid hs
  have HLEN := Lib.hid hlen
  have HJ := Lib.hid hJ
  have HJX := Lib.hid hJx
  have HY := Lib.hid hY
  have HJ0 := Lib.hid hJ0
  have HL := Lib.hid hl
  have HNP := Lib.hid hnp
  obtain ⟨S, hS⟩ : ∃ S, W1.heap.size = S := ⟨_, rfl⟩
  have HSZ := Lib.hid hS
  clear hx hr hs hlen hJ hJx hY hJ0 hl hnp hS
  refine callsIn_of_wp Tryd.func37 rfl trivial ?_ rfl
  simp only [Tryd.ntmps37, List.size_toArray, List.length_cons, List.length_nil, Nat.reduceAdd, Nat.reduceSub, Array.replicate_succ, Array.replicate_zero, List.push_toArray, List.append_toArray, List.nil_append, List.cons_append]
  gi_wp2_with fail
  have HSZ2 : Hid (S = W1.heap.size) := HSZ.out.symm
  have b0 := Blk.new W1 76 #[.slice none 0 0]
  have f0 := (Fr.refl (fun _ => False) W1).alloc (.cells #[.slice none 0 0] 76)
  rw [HSZ.out] at b0
  rw [show W1.heap.size = S from HSZ.out]
  have HP0 : Hid (HpS (W1.alloc (.cells #[.slice none 0 0] 76)) S S (.slice none 0 0) []) := ⟨b0, World.ownsRow_nil _ _ _ _, fun _ h => (nomatch h), fun k _ h => absurd h (Nat.not_lt_zero _)⟩
  have F0 := Lib.hid f0
  clear b0 f0
  generalize (W1.alloc (.cells #[.slice none 0 0] 76)) = w0 at *
  gi_loopw [12] (fun u wr => ∃ (i : Nat) (v : Value) (fs : List Frt), u = .int .i64 (i : Int) ∧ i ≤ np ∧ fs.length ≤ i ∧ Hid (HpS wr S S v fs) ∧ Hid (FS ms i fs) ∧ Hid (Fr (fun _ => False) W1 wr) ∧ Hid (∀ f ∈ fs, S ≤ f.g)) (fun u _ => np - (intOf u).toNat)
  case atStart => exact ⟨0, _, [], rfl, Nat.zero_le _, Nat.le_refl _, HP0.out, FS.zero ms, F0.out, fun _ h => (nomatch h)⟩
  case round =>
    obtain ⟨i, v, fs, rfl, hi, hfi, hp, hfs, hf, hgs⟩ := hrel
    by_cases hlt : i < np
    · have hdl : decide ((i : Int) < (np : Int)) = true := decide_eq_true (by omega)
      have hdn : decide (i < np) = true := decide_eq_true hlt
      have hI : (i : Int) < np := by omega
      obtain ⟨b, off, rfl, hcl⟩ := HR.out.lit (by omega)
      have hbl : b < W1.heap.size := HR.out.lt (by omega) ⟨_, rfl, rfl⟩
      have hil : i < ps.length := by rw [HNP.out]; exact hlt
      have hiv : ps[i]? = some ps[i] := List.getElem?_eq_getElem hil
      have him : i < ms.length := by rw [← HX.out.len]; exact hil
      obtain ⟨x, hxe⟩ : ∃ x, ps[i] = x := ⟨_, rfl⟩
      rw [hxe] at hiv
      obtain ⟨m, hme⟩ : ∃ m, ms[i]? = some m := ⟨_, List.getElem?_eq_getElem him⟩
      have hxr : XR W1 x m := HX.out.at_ i x m hiv hme
      have hml : m.length ≤ 100000 := HLEN.out m (List.mem_of_getElem? hme)
      have c1 : wr.cell? ⟨b, off + i, none⟩ = some x := by
        rw [hf.out.cell hbl (fun h => h), hcl _ (by omega)]
        exact hiv
      have HXR := Lib.hid (hxr.far hf.out)
      have HME := Lib.hid hme
      clear hcl hxr hiv hxe hme
      gi_wp2_with fail
      refine ⟨trivial, ?_⟩
      refine (callsIn_wide.2 (all_c _ x m HXR.out)).mono ?_
      rintro e w1 ⟨rfl, A1, c1', rfl, h3, h4, h5⟩
      have hSw : S ≤ w1.heap.size := by have := hp.out.blk.lt; omega
      gi_wp2_with fail
      refine ⟨trivial, ?_⟩
      refine (callsIn_wide.2 (clone_c _ A1 c1' m h3 hml)).mono ?_
      rintro e w2 ⟨v2, rfl, h6, f2⟩
      have HO2 := Lib.hid h6
      have HF2 := Lib.hid (hf.out.trans f2 (fun _ _ h => h))
      have HP2 := Lib.hid (hp.out.far f2)
      have hsz2 : S + 1 ≤ w2.heap.size := by
        have h7 := HP2.out.blk.lt
        omega
      have HFS := Lib.hid hfs.out
      clear h3 h4 h5 f2 hp hf c1 hfs h6
      by_cases hm0 : m.length = 0
      · have hmn : m = [] := List.eq_nil_of_length_eq_zero hm0
        have HMN := Lib.hid hmn
        obtain ⟨A2, c2, rfl, -, -⟩ := own_slice HO2.out
        rw [hm0]
        clear hmn hm0
        gi_wp2_with fail
        exact ⟨⟨i + 1, v, fs, by push_cast; rfl, by omega, by omega, HP2.out, HFS.out.skip (by rw [HME.out, HMN.out]), HF2.out, hgs.out⟩, by simp only [intOf]; omega⟩
      · obtain ⟨g2, c2, cur2, rfl, hSg, hg2, hnc2, hcm2, hcs2, ht2⟩ := own_blk HO2.out (by omega)
        obtain ⟨q, hq⟩ : ∃ q, m.length = q := ⟨_, rfl⟩
        have hOK : FOk w2 ⟨g2, 0, c2, m, i⟩ := by
          refine ⟨fun h => hm0 (by rw [show m = [] from h]; rfl), hnc2, hcm2, ⟨cur2, hg2⟩, ?_⟩
          have := Rd.of_blk (n := m.length * 2) hg2 (by rw [hcs2]; omega)
          rw [ht2] at this
          exact this
        have HOK := Lib.hid hOK
        have HSg : S ≤ g2 := by
          have h7 := hSw
          omega
        have hfv : fval ⟨g2, 0, c2, m, i⟩ = .agg #[.slice (some ⟨g2, 0, none⟩) q c2, .int .i64 (i : Int)] := by unfold fval; rw [hq]
        have HFV := Lib.hid hfv
        have HQ := Lib.hid hq
        have hq0 : 0 < q := by omega
        rw [hq]
        have hqd : decide ((0 : Int) < (q : Int)) = true := decide_eq_true (by omega)
        clear hOK hfv hq hm0 hSg hg2 hnc2 hcm2 hcs2 ht2 HO2
        gi_wp2_with fail
        refine ⟨trivial, ?_⟩
        have hpush := hpush_c w2 S S v fs ⟨g2, 0, c2, m, i⟩ HP2.out HOK.out (by omega) (by omega)
        rw [HFV.out] at hpush
        refine (callsIn_wide.2 hpush).mono ?_
        rintro e w3 ⟨⟨u3, rfl⟩, v3, fs3, hp3, hq3, hf3, hn3⟩
        have HP3 := Lib.hid hp3
        have HQ3 := Lib.hid hq3
        have HF3 : Hid (Fr (fun _ => False) W1 w3) := HF2.out.trans hf3 (fun k hk h => by
          rcases h with h | h
          · rw [h, ← HSZ.out] at hk; exact Nat.lt_irrefl _ hk
          · have := (World.ownsRow.lt HP2.out.own k h).1
            have := HSZ.out
            omega)
        clear hpush hp3 hq3 hf3 hn3
        gi_wp2_with fail
        refine ⟨⟨i + 1, v3, fs3, by push_cast; rfl, by omega, ?_, HP3.out, HFS.out.push ⟨g2, 0, c2, m, i⟩ HME.out rfl HQ3.out, HF3.out, ?_⟩, by simp only [intOf]; omega⟩
        · rw [HQ3.out.length_eq, List.length_append]
          exact Nat.succ_le_succ hfi
        · intro f hf
          rcases List.mem_append.1 (HQ3.out.mem_iff.1 hf) with h | h
          · exact hgs.out f h
          · rw [List.mem_singleton.1 h]
            exact HSg
    · have hdl : decide ((i : Int) < (np : Int)) = false := decide_eq_false (by omega)
      have hdn : decide (i < np) = false := decide_eq_false hlt
      have hin : i = np := by omega
      have hms : MS ms fs false [] [] := by
        have h1 := hfs.out
        rw [hin, ← HNP.out, HX.out.len] at h1
        exact h1.begin_
      obtain ⟨T, hT⟩ : ∃ T, wr.heap.size = T := ⟨_, rfl⟩
      have HT := Lib.hid hT
      have HM := Lib.hid hms
      have hST : S < T := by have := hp.out.blk.lt; omega
      obtain ⟨HH, hHH⟩ : ∃ HH : Nat → Prop, HH = fun k => S ≤ k ∧ k < T := ⟨_, rfl⟩
      have HHH := Lib.hid hHH
      have J1 := Lib.hid (HJ.out (fun _ => False) HH [] W1 wr HJ0.out hf.out (fun k hk => .inr (by rw [hHH] at hk; rw [HSZ.out, hT]; exact hk)))
      have HV := Lib.hid (fun k (hk : v.ownBlock = some k) => show k < T by rw [← hT]; exact (World.ownsRow.lt hp.out.own k hk).2)
      have HG : Hid (∀ f ∈ fs, S ≤ f.g ∧ f.g < T) := fun f hf => ⟨hgs.out f hf, by
        obtain ⟨-, -, -, ⟨cur, h4⟩, -⟩ := hp.out.ok f hf
        rw [← hT]
        exact h4.lt⟩
      have hfl : fs.length ≤ 1000 := by omega
      have HFL := Lib.hid hfl
      clear hms hi hfi hin hfs hT hHH hfl hgs
      gi_wp2_with fail
      clear hlt hdl hdn
      gi_loopw [7, 8] (fun lv bv w2 => ∃ (last : List UInt8) (bg : Bool) (v2 : Value) (fs2 : List Frt) (pre : Ents), lv = .string (strOf last) ∧ bv = .bool bg ∧ fs2.length ≤ 1000 ∧ T ≤ w2.heap.size ∧ Hid (HpS w2 S S v2 fs2) ∧ Hid (MS ms fs2 bg last pre) ∧ Hid (J HH pre w2) ∧ Hid (∀ k, v2.ownBlock = some k → k < T) ∧ Hid (∀ f ∈ fs2, S ≤ f.g ∧ f.g < T)) (fun _ _ w2 => msr S w2)
      case atStart => exact ⟨[], false, v, fs, [], rfl, rfl, HFL.out, by have := HT.out; omega, hp.out, HM.out, J1.out, HV.out, HG.out⟩
      case round =>
        clear HT HM J1 HV HG HFL hp hf
        rename_i wp0
        clear wp0
        obtain ⟨last, bg, v, fs, pre, rfl, rfl, hfl, hTw, hp, hm, hj, hv, hg⟩ := hrel
        cases fs with
        | nil =>
          obtain ⟨A2, c2, hv2, -, -⟩ := own_slice hp.out.own
          have c0 : wr.cell? ⟨S, 0, none⟩ = some (.slice A2 0 c2) := by rw [hp.out.blk.cell 0, hv2]; rfl
          gi_wp2_with fail
          go_end0
          exact ⟨⟨_, rfl⟩, .inl ⟨pre, hm.out.done HS.out, HJ.out _ _ _ _ _ hj.out (Fr.refl _ _) (fun k hk => hk.elim)⟩⟩
        | cons f0 fr =>
          obtain ⟨b, c2, cur, rfl, hSb, hb, hnc, hcm, hcs, ht⟩ := own_front hp.out.own (Nat.succ_pos _)
          obtain ⟨nf, hnf⟩ : ∃ nf, (f0 :: fr).length = nf := ⟨_, rfl⟩
          have hH : HpB wr S b c2 (f0 :: fr) := ⟨hp.out.blk, cur, hb, hcs, ht⟩
          have hok0 : FOk wr f0 := hp.out.ok f0 List.mem_cons_self
          have hkey := hok0.key
          obtain ⟨gg, o, cp, l, pl⟩ := f0
          have hrd := hok0.2.2.2.2
          have hlc := hok0.2.1
          have hcpm := hok0.2.2.1
          cases l with
          | nil => exact absurd rfl hok0.1
          | cons e t =>
            obtain ⟨ek, ev⟩ := e
            simp only at hrd hlc hcpm
            obtain ⟨q, hq⟩ : ∃ q, t.length = q := ⟨_, rfl⟩
            have d1 : wr.cell? ⟨b, 0, none⟩ = some (.slice (some ⟨gg, o, none⟩) (q + 1) cp) := by
              have := (hH.rd hnc).cell (k := 0) (by rw [List.length_cons]; omega)
              rw [Nat.zero_add] at this
              rw [this, fc_cons, ← hq]
              rfl
            have d0 : wr.cell? ⟨S, 0, none⟩ = some (.slice (some ⟨b, 0, none⟩) nf c2) := by rw [hH.1.cell 0, hnf]; rfl
            have d3 : wr.cell? ⟨gg, o, none⟩ = some (.string (strOf ek)) := hkey
            have d4 : wr.cell? ⟨gg, o + 1, none⟩ = some (.int .i64 ev) := by rw [hrd.cell (k := 1) (by rw [List.length_cons]; omega)]; rfl
            have hnf0 : (0 : Int) < (nf : Int) := by rw [← hnf, List.length_cons]; omega
            have hnd : decide ((0 : Int) < (nf : Int)) = true := decide_eq_true hnf0
            have hq0 : (0 : Int) < (q : Int) + 1 := by omega
            have hnf1 : 0 < nf := by omega
            rw [List.length_cons, hq] at hlc
            have hnfc : nf ≤ c2 := by rw [← hnf]; exact hnc
            have HH1 := Lib.hid hH
            have HNF := Lib.hid hnf
            have HQ := Lib.hid hq
            have HCM := Lib.hid hcm
            have HRD := Lib.hid hrd
            have HOK0 := Lib.hid hok0
            have HB := Lib.hid hb
            have HHP := Lib.hid hp.out
            rw [hnf] at hfl
            clear hH hnf hq hrd hkey hb hcs ht hcm hnc hok0
            have hbT : b < T := hv.out b rfl
            have f9 := (Fr.refl (fun _ => False) wr).alloc (.cells #[.string (strOf ek), .int .i64 ev] 68)
            have b9 := Blk.new wr 68 #[.string (strOf ek), .int .i64 ev]
            have HB9 := Lib.hid b9
            have HF9 := Lib.hid f9
            obtain ⟨HX, hHX⟩ : ∃ HX : Nat → Prop, HX = fun k => HH k ∨ k = wr.heap.size := ⟨_, rfl⟩
            have HXX : HX wr.heap.size := by rw [hHX]; exact .inr rfl
            have HXS : Hid (∀ k, S ≤ k → k < T → HX k) := fun k h1 h2 => by rw [hHX, HHH.out]; exact .inl ⟨h1, h2⟩
            have HXH : Hid (∀ k, HH k → HX k) := fun k h => by rw [hHX]; exact .inl h
            have J9 := Lib.hid (HJ.out HH HX pre wr (wr.alloc (.cells #[.string (strOf ek), .int .i64 ev] 68)) hj.out (f9.mono (fun _ _ h => h.elim)) (fun k hk => by
              rw [hHX] at hk
              rcases hk with h | h
              · exact .inl h
              · exact .inr ⟨by omega, by rw [World.size_alloc]; omega⟩))
            have c9 : (wr.alloc (.cells #[.string (strOf ek), .int .i64 ev] 68)).cell? ⟨wr.heap.size, 0, none⟩ = some (.string (strOf ek)) := b9.cell 0
            clear f9 b9 hHX
            rcases Decidable.em (bg = true ∧ ek = last) with hc1 | hc1
            · obtain ⟨rfl, rfl⟩ := hc1
              have heq : ((strOf ek).toList == (strOf ek).toList) = true := by simp
              have M7 : Hid (∀ f1 : Frt, f1.l = t → f1.pl = pl → MS ms (f1 :: fr) true ek pre) := fun f1 h1 h2 => hm.out.skip (e := (ek, ev)) rfl h1 h2 rfl
              gi_wp2_with fail
              refine ⟨fun f h => (nomatch h), ?_⟩
              rename_i _ _ _ hh
              clear hh
              clear heq
              have F7 := Lib.hid (HF9.out.mono (fp := fun k => ¬ HX k) (fun _ _ h => h.elim))
              have J7 := J9
              clear J9 HB9 HF9
              generalize (wr.alloc (.cells #[.string (strOf ek), .int .i64 ev] 68)) = w7 at *
              obtain ⟨H7, OK7⟩ := mrg_front (T := T) (HX := HX) HH1.out HHP.out.ok hg.out hSb hbT hST HXS.out F7.out
              have e0 : w7.cell? ⟨S, 0, none⟩ = some (.slice (some ⟨b, 0, none⟩) nf c2) := by rw [H7.1.cell 0, HNF.out]; rfl
              have e1 : w7.cell? ⟨b, 0, none⟩ = some (.slice (some ⟨gg, o, none⟩) (q + 1) cp) := by
                have := (H7.rd (by rw [HNF.out]; exact hnfc)).cell (k := 0) (by rw [List.length_cons]; omega)
                rw [Nat.zero_add] at this
                rw [this, fc_cons, ← HQ.out]
                rfl
              have e2 : w7.frozen? ⟨b, 0, none⟩ = false := by
                obtain ⟨-, cur7, h7, -, -⟩ := H7
                exact h7.frozen 0
              have J7' := Lib.hid (HJ.out HX HH _ w7 w7 J7.out (Fr.refl _ _) (fun k h => .inl (HXH.out k h)))
              have hTw7 : T ≤ w7.heap.size := by have := F7.out.size; omega
              obtain ⟨o', ho', hsl⟩ := slice_one gg o q cp hlc
              have HO' := Lib.hid ho'
              have HH7 := Lib.hid H7
              have HOK7 := Lib.hid OK7
              have hSbn : ¬ (S = b) := by
                obtain ⟨h71, cur7, h7, -, -⟩ := H7
                exact fun h => h71.ne_ h7 (by decide) h
              have hne1 : ((b == S) = false) := by simpa using fun h => hSbn h.symm
              clear d0 d1 d3 d4 hq0 H7 OK7 ho'
              gi_wp2_with fail
              refine wpIn_wide.2 ?_
              go_region
              obtain ⟨H8, OK8, OK8'⟩ := mrg_cut (o' := o') HH7.out HOK7.out (by rw [HQ.out]; exact HO'.out)
              rw [HQ.out] at H8 OK8 OK8'
              have HH8 : Hid (HpB ((w7.setCell ⟨b, 0, none⟩ (.slice (some ⟨gg, o', none⟩) q (cp - 1))).drew) S b c2 (⟨gg, o', cp - 1, t, pl⟩ :: fr)) := H8
              have HOK8 : Hid (∀ f ∈ fr, FOk ((w7.setCell ⟨b, 0, none⟩ (.slice (some ⟨gg, o', none⟩) q (cp - 1))).drew) f) := OK8
              have HOK8' : Hid (t ≠ [] → FOk ((w7.setCell ⟨b, 0, none⟩ (.slice (some ⟨gg, o', none⟩) q (cp - 1))).drew) ⟨gg, o', cp - 1, t, pl⟩) := OK8'
              have F8 : Hid (Fr (fun k => k = b) w7 ((w7.setCell ⟨b, 0, none⟩ (.slice (some ⟨gg, o', none⟩) q (cp - 1))).drew)) := ((Fr.refl (fun k => k = b) w7).setCell (fun _ => rfl) _).drew
              clear H8 OK8 OK8' e0 e1 e2 hsl c9 hne1
              generalize ((w7.setCell ⟨b, 0, none⟩ (.slice (some ⟨gg, o', none⟩) q (cp - 1))).drew) = w8 at *
              have g0 : w8.cell? ⟨S, 0, none⟩ = some (.slice (some ⟨b, 0, none⟩) nf c2) := by rw [HH8.out.1.cell 0, ← HNF.out]; rfl
              have g1 : w8.cell? ⟨b, 0, none⟩ = some (.slice (some ⟨gg, o', none⟩) q (cp - 1)) := by
                have := (HH8.out.rd (by rw [List.length_cons]; have := HNF.out; rw [List.length_cons] at this; omega)).cell (k := 0) (by rw [List.length_cons]; omega)
                rw [Nat.zero_add] at this
                rw [this, fc_cons, HQ.out]
                rfl
              have HD8 : Hid (DownI (gf (⟨gg, o', cp - 1, t, pl⟩ :: fr)) nf 0) := by
                have h1 := HHP.out.hp
                rw [HNF.out] at h1
                exact down_head h1
              obtain ⟨nr, hnr⟩ : ∃ nr, fr.length = nr := ⟨_, rfl⟩
              have hnr1 : nf = nr + 1 := by rw [← hnr, ← HNF.out]; rfl
              have HNR := Lib.hid hnr
              clear hnr
              by_cases hq0 : q = 0
              · have ht0 : Hid (t = []) := List.eq_nil_of_length_eq_zero (HQ.out.trans hq0)
                have hqb : ((q : Int) == 0) = true := by rw [hq0]; rfl
                have HQ0 := Lib.hid hq0
                clear hq0
                gi_wp2_with fail
                refine ⟨trivial, ?_⟩
                refine (callsIn_wide.2 (hpop_c w8 S b c2 nr _ HH8.out (by rw [List.length_cons, HNR.out]) (by omega) (by omega) HOK8.out (by rw [← hnr1]; exact HD8.out))).mono ?_
                rintro e w10 ⟨⟨u10, rfl⟩, fs10, h10, p10, hh10, f10⟩
                have H10 := Lib.hid h10
                have P10 := Lib.hid p10
                have HE10 := Lib.hid hh10
                have F10 : Hid (Fr (fun k => k = b ∨ k = S) w7 w10) := (F8.out.mono (fun _ _ h => .inl h)).trans f10 (fun _ _ h => h)
                have F10' := Lib.hid f10
                clear h10 p10 hh10 f10 hqb g0 g1
                gi_wp2_with fail
                have hp10 : fs10.Perm fr := P10.out
                have hl10 : fs10.length = nr := hp10.length_eq.trans HNR.out
                obtain ⟨cb8, hb8, -, -⟩ := HH8.out.2
                have hok10 : ∀ f ∈ fs10, FOk w10 f := fun f hf => by
                  have h1 := HOK8.out f (hp10.mem_iff.1 hf)
                  refine h1.fr F10'.out ?_
                  rintro (h | h)
                  · exact h1.ne hb8 h
                  · obtain ⟨-, -, -, ⟨cc, h4⟩, -⟩ := h1
                    exact h4.ne_ HH8.out.1 (by decide) h
                obtain ⟨hS10, cb10, hb10, hcs10, ht10⟩ := id H10.out
                have hlc10 : fs10.length ≤ c2 := by omega
                refine ⟨⟨ek, true, .slice (some ⟨b, 0, none⟩) fs10.length c2, fs10, _, rfl, rfl, by omega, by have := F10.out.size; omega, ⟨hS10, front_own hSb hb10 rfl hlc10 HCM.out hcs10 ht10, hok10, by rw [hl10]; exact HE10.out⟩, ((M7.out ⟨gg, o', cp - 1, t, pl⟩ rfl rfl).gone ht0.out).perm hp10, ?_, fun k hk => by cases hk; exact hbT, fun f hf => hg.out f (List.mem_cons_of_mem _ (hp10.mem_iff.1 hf))⟩, ?_⟩
                · refine HJ.out HH HH _ w7 w10 J7'.out (F10.out.mono (fun k _ h => ?_)) (fun k h => .inl h)
                  rw [HHH.out]
                  rcases h with h | h
                  · rw [h]; exact ⟨hSb, hbT⟩
                  · rw [h]; exact ⟨Nat.le_refl _, hST⟩
                · rw [msr_of H10.out hlc10, msr_of HH1.out (by rw [HNF.out]; exact hnfc), (hp10.map (fun f : Frt => f.l.length)).sum_nat, List.map_cons, List.sum_cons, List.length_cons]
                  omega
              · have hqb : ((q : Int) == 0) = false := by simpa using hq0
                have hqI : (0 : Int) < q := by omega
                clear hq0
                gi_wp2_with fail
                refine ⟨trivial, ?_⟩
                have htn : t ≠ [] := fun h => by have := HQ.out; rw [h] at this; simp at this; omega
                refine (callsIn_wide.2 (hfix_c w8 S b c2 nf _ HH8.out (by rw [List.length_cons, HNR.out, hnr1]) (by omega) (by omega) (by omega) (fun f hf => by
                  rcases List.mem_cons.1 hf with rfl | hf
                  · exact HOK8'.out htn
                  · exact HOK8.out f hf) HD8.out)).mono ?_
                rintro e w10 ⟨⟨u10, rfl⟩, fs10, h10, p10, hh10, f10⟩
                have H10 := Lib.hid h10
                have P10 := Lib.hid p10
                have HE10 := Lib.hid hh10
                have HTN := Lib.hid htn
                have F10 : Hid (Fr (fun k => k = b) w7 w10) := F8.out.trans f10 (fun _ _ h => h)
                have F10' := Lib.hid f10
                clear h10 p10 hh10 f10 hqb g0 g1 htn
                gi_wp2_with fail
                have hp10 : fs10.Perm (⟨gg, o', cp - 1, t, pl⟩ :: fr) := P10.out
                have hl10 : fs10.length = nf := by rw [hp10.length_eq, List.length_cons, HNR.out, hnr1]
                obtain ⟨cb8, hb8, -, -⟩ := HH8.out.2
                have hok10 : ∀ f ∈ fs10, FOk w10 f := fun f hf => by
                  have h1 : FOk w8 f := by
                    rcases List.mem_cons.1 (hp10.mem_iff.1 hf) with h | h
                    · rw [h]; exact HOK8'.out HTN.out
                    · exact HOK8.out f h
                  exact h1.fr F10'.out (fun h => h1.ne hb8 h)
                obtain ⟨hS10, cb10, hb10, hcs10, ht10⟩ := id H10.out
                have hlc10 : fs10.length ≤ c2 := by omega
                refine ⟨⟨ek, true, .slice (some ⟨b, 0, none⟩) fs10.length c2, fs10, _, rfl, rfl, by omega, by have := F10.out.size; omega, ⟨hS10, front_own hSb hb10 rfl hlc10 HCM.out hcs10 ht10, hok10, by rw [hl10]; exact HE10.out⟩, (M7.out ⟨gg, o', cp - 1, t, pl⟩ rfl rfl).perm hp10, ?_, fun k hk => by cases hk; exact hbT, fun f hf => ?_⟩, ?_⟩
                · refine HJ.out HH HH _ w7 w10 J7'.out (F10.out.mono (fun k _ h => ?_)) (fun k h => .inl h)
                  rw [HHH.out, h]
                  exact ⟨hSb, hbT⟩
                · rcases List.mem_cons.1 (hp10.mem_iff.1 hf) with h | h
                  · rw [h]; exact hg.out ⟨gg, o, cp, (ek, ev) :: t, pl⟩ List.mem_cons_self
                  · exact hg.out f (List.mem_cons_of_mem _ h)
                · rw [msr_of H10.out hlc10, msr_of HH1.out (by rw [HNF.out]; exact hnfc), (hp10.map (fun f : Frt => f.l.length)).sum_nat]
                  simp only [List.map_cons, List.sum_cons, List.length_cons]
                  omega
            · have hbc : bg = true → ek ≠ last := fun h1 h2 => hc1 ⟨h1, h2⟩
              obtain ⟨hget, hms1⟩ := MS.tell (f1 := ⟨gg, o, cp, t, pl⟩) HS.out hm.out (fun f hf => (HHP.out.ok f (List.mem_cons_of_mem _ hf)).1) (root_least HHP.out.hp) (e := (ek, ev)) rfl rfl rfl hbc
              have M7 : Hid (∀ f1 : Frt, f1.l = t → f1.pl = pl → MS ms (f1 :: fr) true ek (pre ++ [(ek, ev)])) := fun f1 h1 h2 => (MS.tell (f1 := f1) HS.out hm.out (fun f hf => (HHP.out.ok f (List.mem_cons_of_mem _ hf)).1) (root_least HHP.out.hp) (e := (ek, ev)) rfl h1 h2 hbc).2
              obtain ⟨fn, tmps, assign, body, hy, hR⟩ := HY.out HX pre (ek, ev) _ J9.out hget
              have hR := Lib.hid hR
              have hy : (Instr.yield L #[.string (strOf ek), .int .i64 ev]).run Tryd.prog (wr.alloc (.cells #[.string (strOf ek), .int .i64 ev] 68)) = .ok (.round L fn tmps assign body) (wr.alloc (.cells #[.string (strOf ek), .int .i64 ev] 68)) := hy
              clear hget hms1 hc1
              cases bg with
              | false =>
                clear hbc
                gi_wp2_with fail
                refine hR.out.mono ?_
                rintro e w7 ⟨⟨rfl, j7⟩ | ⟨rfl, j7⟩, f7⟩
                · have F7 : Hid (Fr (fun k => ¬ HX k) wr w7) := (HF9.out.mono (fp := fun k => ¬ HX k) (fun _ _ h => h.elim)).trans f7 (fun _ _ h => h)
                  have c9' : w7.cell? ⟨wr.heap.size, 0, none⟩ = some (.string (strOf ek)) := (HB9.out.fr f7 (fun h => h HXX)).cell 0
                  clear c9
                  have c9 := c9'
                  have J7 := Lib.hid j7
                  clear c9' hy j7 f7 J9 HB9 HF9
                  obtain ⟨H7, OK7⟩ := mrg_front (T := T) (HX := HX) HH1.out HHP.out.ok hg.out hSb hbT hST HXS.out F7.out
                  have e0 : w7.cell? ⟨S, 0, none⟩ = some (.slice (some ⟨b, 0, none⟩) nf c2) := by rw [H7.1.cell 0, HNF.out]; rfl
                  have e1 : w7.cell? ⟨b, 0, none⟩ = some (.slice (some ⟨gg, o, none⟩) (q + 1) cp) := by
                    have := (H7.rd (by rw [HNF.out]; exact hnfc)).cell (k := 0) (by rw [List.length_cons]; omega)
                    rw [Nat.zero_add] at this
                    rw [this, fc_cons, ← HQ.out]
                    rfl
                  have e2 : w7.frozen? ⟨b, 0, none⟩ = false := by
                    obtain ⟨-, cur7, h7, -, -⟩ := H7
                    exact h7.frozen 0
                  have J7' := Lib.hid (HJ.out HX HH _ w7 w7 J7.out (Fr.refl _ _) (fun k h => .inl (HXH.out k h)))
                  have hTw7 : T ≤ w7.heap.size := by have := F7.out.size; omega
                  obtain ⟨o', ho', hsl⟩ := slice_one gg o q cp hlc
                  have HO' := Lib.hid ho'
                  have HH7 := Lib.hid H7
                  have HOK7 := Lib.hid OK7
                  have hSbn : ¬ (S = b) := by
                    obtain ⟨h71, cur7, h7, -, -⟩ := H7
                    exact fun h => h71.ne_ h7 (by decide) h
                  have hne1 : ((b == S) = false) := by simpa using fun h => hSbn h.symm
                  clear d0 d1 d3 d4 hq0 H7 OK7 ho'
                  gi_wp2_with fail
                  refine wpIn_wide.2 ?_
                  go_region
                  obtain ⟨H8, OK8, OK8'⟩ := mrg_cut (o' := o') HH7.out HOK7.out (by rw [HQ.out]; exact HO'.out)
                  rw [HQ.out] at H8 OK8 OK8'
                  have HH8 : Hid (HpB ((w7.setCell ⟨b, 0, none⟩ (.slice (some ⟨gg, o', none⟩) q (cp - 1))).drew) S b c2 (⟨gg, o', cp - 1, t, pl⟩ :: fr)) := H8
                  have HOK8 : Hid (∀ f ∈ fr, FOk ((w7.setCell ⟨b, 0, none⟩ (.slice (some ⟨gg, o', none⟩) q (cp - 1))).drew) f) := OK8
                  have HOK8' : Hid (t ≠ [] → FOk ((w7.setCell ⟨b, 0, none⟩ (.slice (some ⟨gg, o', none⟩) q (cp - 1))).drew) ⟨gg, o', cp - 1, t, pl⟩) := OK8'
                  have F8 : Hid (Fr (fun k => k = b) w7 ((w7.setCell ⟨b, 0, none⟩ (.slice (some ⟨gg, o', none⟩) q (cp - 1))).drew)) := ((Fr.refl (fun k => k = b) w7).setCell (fun _ => rfl) _).drew
                  clear H8 OK8 OK8' e0 e1 e2 hsl c9 hne1
                  generalize ((w7.setCell ⟨b, 0, none⟩ (.slice (some ⟨gg, o', none⟩) q (cp - 1))).drew) = w8 at *
                  have g0 : w8.cell? ⟨S, 0, none⟩ = some (.slice (some ⟨b, 0, none⟩) nf c2) := by rw [HH8.out.1.cell 0, ← HNF.out]; rfl
                  have g1 : w8.cell? ⟨b, 0, none⟩ = some (.slice (some ⟨gg, o', none⟩) q (cp - 1)) := by
                    have := (HH8.out.rd (by rw [List.length_cons]; have := HNF.out; rw [List.length_cons] at this; omega)).cell (k := 0) (by rw [List.length_cons]; omega)
                    rw [Nat.zero_add] at this
                    rw [this, fc_cons, HQ.out]
                    rfl
                  have HD8 : Hid (DownI (gf (⟨gg, o', cp - 1, t, pl⟩ :: fr)) nf 0) := by
                    have h1 := HHP.out.hp
                    rw [HNF.out] at h1
                    exact down_head h1
                  obtain ⟨nr, hnr⟩ : ∃ nr, fr.length = nr := ⟨_, rfl⟩
                  have hnr1 : nf = nr + 1 := by rw [← hnr, ← HNF.out]; rfl
                  have HNR := Lib.hid hnr
                  clear hnr
                  by_cases hq0 : q = 0
                  · have ht0 : Hid (t = []) := List.eq_nil_of_length_eq_zero (HQ.out.trans hq0)
                    have hqb : ((q : Int) == 0) = true := by rw [hq0]; rfl
                    have HQ0 := Lib.hid hq0
                    clear hq0
                    gi_wp2_with fail
                    refine ⟨trivial, ?_⟩
                    refine (callsIn_wide.2 (hpop_c w8 S b c2 nr _ HH8.out (by rw [List.length_cons, HNR.out]) (by omega) (by omega) HOK8.out (by rw [← hnr1]; exact HD8.out))).mono ?_
                    rintro e w10 ⟨⟨u10, rfl⟩, fs10, h10, p10, hh10, f10⟩
                    have H10 := Lib.hid h10
                    have P10 := Lib.hid p10
                    have HE10 := Lib.hid hh10
                    have F10 : Hid (Fr (fun k => k = b ∨ k = S) w7 w10) := (F8.out.mono (fun _ _ h => .inl h)).trans f10 (fun _ _ h => h)
                    have F10' := Lib.hid f10
                    clear h10 p10 hh10 f10 hqb g0 g1
                    gi_wp2_with fail
                    have hp10 : fs10.Perm fr := P10.out
                    have hl10 : fs10.length = nr := hp10.length_eq.trans HNR.out
                    obtain ⟨cb8, hb8, -, -⟩ := HH8.out.2
                    have hok10 : ∀ f ∈ fs10, FOk w10 f := fun f hf => by
                      have h1 := HOK8.out f (hp10.mem_iff.1 hf)
                      refine h1.fr F10'.out ?_
                      rintro (h | h)
                      · exact h1.ne hb8 h
                      · obtain ⟨-, -, -, ⟨cc, h4⟩, -⟩ := h1
                        exact h4.ne_ HH8.out.1 (by decide) h
                    obtain ⟨hS10, cb10, hb10, hcs10, ht10⟩ := id H10.out
                    have hlc10 : fs10.length ≤ c2 := by omega
                    refine ⟨⟨ek, true, .slice (some ⟨b, 0, none⟩) fs10.length c2, fs10, _, rfl, rfl, by omega, by have := F10.out.size; omega, ⟨hS10, front_own hSb hb10 rfl hlc10 HCM.out hcs10 ht10, hok10, by rw [hl10]; exact HE10.out⟩, ((M7.out ⟨gg, o', cp - 1, t, pl⟩ rfl rfl).gone ht0.out).perm hp10, ?_, fun k hk => by cases hk; exact hbT, fun f hf => hg.out f (List.mem_cons_of_mem _ (hp10.mem_iff.1 hf))⟩, ?_⟩
                    · refine HJ.out HH HH _ w7 w10 J7'.out (F10.out.mono (fun k _ h => ?_)) (fun k h => .inl h)
                      rw [HHH.out]
                      rcases h with h | h
                      · rw [h]; exact ⟨hSb, hbT⟩
                      · rw [h]; exact ⟨Nat.le_refl _, hST⟩
                    · rw [msr_of H10.out hlc10, msr_of HH1.out (by rw [HNF.out]; exact hnfc), (hp10.map (fun f : Frt => f.l.length)).sum_nat, List.map_cons, List.sum_cons, List.length_cons]
                      omega
                  · have hqb : ((q : Int) == 0) = false := by simpa using hq0
                    have hqI : (0 : Int) < q := by omega
                    clear hq0
                    gi_wp2_with fail
                    refine ⟨trivial, ?_⟩
                    have htn : t ≠ [] := fun h => by have := HQ.out; rw [h] at this; simp at this; omega
                    refine (callsIn_wide.2 (hfix_c w8 S b c2 nf _ HH8.out (by rw [List.length_cons, HNR.out, hnr1]) (by omega) (by omega) (by omega) (fun f hf => by
                      rcases List.mem_cons.1 hf with rfl | hf
                      · exact HOK8'.out htn
                      · exact HOK8.out f hf) HD8.out)).mono ?_
                    rintro e w10 ⟨⟨u10, rfl⟩, fs10, h10, p10, hh10, f10⟩
                    have H10 := Lib.hid h10
                    have P10 := Lib.hid p10
                    have HE10 := Lib.hid hh10
                    have HTN := Lib.hid htn
                    have F10 : Hid (Fr (fun k => k = b) w7 w10) := F8.out.trans f10 (fun _ _ h => h)
                    have F10' := Lib.hid f10
                    clear h10 p10 hh10 f10 hqb g0 g1 htn
                    gi_wp2_with fail
                    have hp10 : fs10.Perm (⟨gg, o', cp - 1, t, pl⟩ :: fr) := P10.out
                    have hl10 : fs10.length = nf := by rw [hp10.length_eq, List.length_cons, HNR.out, hnr1]
                    obtain ⟨cb8, hb8, -, -⟩ := HH8.out.2
                    have hok10 : ∀ f ∈ fs10, FOk w10 f := fun f hf => by
                      have h1 : FOk w8 f := by
                        rcases List.mem_cons.1 (hp10.mem_iff.1 hf) with h | h
                        · rw [h]; exact HOK8'.out HTN.out
                        · exact HOK8.out f h
                      exact h1.fr F10'.out (fun h => h1.ne hb8 h)
                    obtain ⟨hS10, cb10, hb10, hcs10, ht10⟩ := id H10.out
                    have hlc10 : fs10.length ≤ c2 := by omega
                    refine ⟨⟨ek, true, .slice (some ⟨b, 0, none⟩) fs10.length c2, fs10, _, rfl, rfl, by omega, by have := F10.out.size; omega, ⟨hS10, front_own hSb hb10 rfl hlc10 HCM.out hcs10 ht10, hok10, by rw [hl10]; exact HE10.out⟩, (M7.out ⟨gg, o', cp - 1, t, pl⟩ rfl rfl).perm hp10, ?_, fun k hk => by cases hk; exact hbT, fun f hf => ?_⟩, ?_⟩
                    · refine HJ.out HH HH _ w7 w10 J7'.out (F10.out.mono (fun k _ h => ?_)) (fun k h => .inl h)
                      rw [HHH.out, h]
                      exact ⟨hSb, hbT⟩
                    · rcases List.mem_cons.1 (hp10.mem_iff.1 hf) with h | h
                      · rw [h]; exact hg.out ⟨gg, o, cp, (ek, ev) :: t, pl⟩ List.mem_cons_self
                      · exact hg.out f (List.mem_cons_of_mem _ h)
                    · rw [msr_of H10.out hlc10, msr_of HH1.out (by rw [HNF.out]; exact hnfc), (hp10.map (fun f : Frt => f.l.length)).sum_nat]
                      simp only [List.map_cons, List.sum_cons, List.length_cons]
                      omega
                · have J7 := Lib.hid j7
                  clear hy j7 f7
                  gi_wp2_with fail
                  refine bodyPost_ret (results_none rfl _ _ _) rfl ?_
                  exact ⟨⟨_, rfl⟩, .inr ⟨_, HJX.out _ _ _ _ _ J7.out (Fr.refl _ _) (fun k hk => hk.elim)⟩⟩
              | true =>
                have hne := hbc rfl
                have heq : ((strOf ek).toList == (strOf last).toList) = false := by
                  rw [strOf_toList, strOf_toList]
                  simpa using hne
                clear hne hbc
                gi_wp2_with fail
                refine hR.out.mono ?_
                rintro e w7 ⟨⟨rfl, j7⟩ | ⟨rfl, j7⟩, f7⟩
                · have F7 : Hid (Fr (fun k => ¬ HX k) wr w7) := (HF9.out.mono (fp := fun k => ¬ HX k) (fun _ _ h => h.elim)).trans f7 (fun _ _ h => h)
                  have c9' : w7.cell? ⟨wr.heap.size, 0, none⟩ = some (.string (strOf ek)) := (HB9.out.fr f7 (fun h => h HXX)).cell 0
                  clear c9
                  have c9 := c9'
                  have J7 := Lib.hid j7
                  clear c9' hy j7 f7 J9 HB9 HF9
                  obtain ⟨H7, OK7⟩ := mrg_front (T := T) (HX := HX) HH1.out HHP.out.ok hg.out hSb hbT hST HXS.out F7.out
                  have e0 : w7.cell? ⟨S, 0, none⟩ = some (.slice (some ⟨b, 0, none⟩) nf c2) := by rw [H7.1.cell 0, HNF.out]; rfl
                  have e1 : w7.cell? ⟨b, 0, none⟩ = some (.slice (some ⟨gg, o, none⟩) (q + 1) cp) := by
                    have := (H7.rd (by rw [HNF.out]; exact hnfc)).cell (k := 0) (by rw [List.length_cons]; omega)
                    rw [Nat.zero_add] at this
                    rw [this, fc_cons, ← HQ.out]
                    rfl
                  have e2 : w7.frozen? ⟨b, 0, none⟩ = false := by
                    obtain ⟨-, cur7, h7, -, -⟩ := H7
                    exact h7.frozen 0
                  have J7' := Lib.hid (HJ.out HX HH _ w7 w7 J7.out (Fr.refl _ _) (fun k h => .inl (HXH.out k h)))
                  have hTw7 : T ≤ w7.heap.size := by have := F7.out.size; omega
                  obtain ⟨o', ho', hsl⟩ := slice_one gg o q cp hlc
                  have HO' := Lib.hid ho'
                  have HH7 := Lib.hid H7
                  have HOK7 := Lib.hid OK7
                  have hSbn : ¬ (S = b) := by
                    obtain ⟨h71, cur7, h7, -, -⟩ := H7
                    exact fun h => h71.ne_ h7 (by decide) h
                  have hne1 : ((b == S) = false) := by simpa using fun h => hSbn h.symm
                  clear d0 d1 d3 d4 hq0 H7 OK7 ho'
                  gi_wp2_with fail
                  refine wpIn_wide.2 ?_
                  go_region
                  obtain ⟨H8, OK8, OK8'⟩ := mrg_cut (o' := o') HH7.out HOK7.out (by rw [HQ.out]; exact HO'.out)
                  rw [HQ.out] at H8 OK8 OK8'
                  have HH8 : Hid (HpB ((w7.setCell ⟨b, 0, none⟩ (.slice (some ⟨gg, o', none⟩) q (cp - 1))).drew) S b c2 (⟨gg, o', cp - 1, t, pl⟩ :: fr)) := H8
                  have HOK8 : Hid (∀ f ∈ fr, FOk ((w7.setCell ⟨b, 0, none⟩ (.slice (some ⟨gg, o', none⟩) q (cp - 1))).drew) f) := OK8
                  have HOK8' : Hid (t ≠ [] → FOk ((w7.setCell ⟨b, 0, none⟩ (.slice (some ⟨gg, o', none⟩) q (cp - 1))).drew) ⟨gg, o', cp - 1, t, pl⟩) := OK8'
                  have F8 : Hid (Fr (fun k => k = b) w7 ((w7.setCell ⟨b, 0, none⟩ (.slice (some ⟨gg, o', none⟩) q (cp - 1))).drew)) := ((Fr.refl (fun k => k = b) w7).setCell (fun _ => rfl) _).drew
                  clear H8 OK8 OK8' e0 e1 e2 hsl c9 hne1
                  generalize ((w7.setCell ⟨b, 0, none⟩ (.slice (some ⟨gg, o', none⟩) q (cp - 1))).drew) = w8 at *
                  have g0 : w8.cell? ⟨S, 0, none⟩ = some (.slice (some ⟨b, 0, none⟩) nf c2) := by rw [HH8.out.1.cell 0, ← HNF.out]; rfl
                  have g1 : w8.cell? ⟨b, 0, none⟩ = some (.slice (some ⟨gg, o', none⟩) q (cp - 1)) := by
                    have := (HH8.out.rd (by rw [List.length_cons]; have := HNF.out; rw [List.length_cons] at this; omega)).cell (k := 0) (by rw [List.length_cons]; omega)
                    rw [Nat.zero_add] at this
                    rw [this, fc_cons, HQ.out]
                    rfl
                  have HD8 : Hid (DownI (gf (⟨gg, o', cp - 1, t, pl⟩ :: fr)) nf 0) := by
                    have h1 := HHP.out.hp
                    rw [HNF.out] at h1
                    exact down_head h1
                  obtain ⟨nr, hnr⟩ : ∃ nr, fr.length = nr := ⟨_, rfl⟩
                  have hnr1 : nf = nr + 1 := by rw [← hnr, ← HNF.out]; rfl
                  have HNR := Lib.hid hnr
                  clear hnr
                  by_cases hq0 : q = 0
                  · have ht0 : Hid (t = []) := List.eq_nil_of_length_eq_zero (HQ.out.trans hq0)
                    have hqb : ((q : Int) == 0) = true := by rw [hq0]; rfl
                    have HQ0 := Lib.hid hq0
                    clear hq0
                    gi_wp2_with fail
                    refine ⟨trivial, ?_⟩
                    refine (callsIn_wide.2 (hpop_c w8 S b c2 nr _ HH8.out (by rw [List.length_cons, HNR.out]) (by omega) (by omega) HOK8.out (by rw [← hnr1]; exact HD8.out))).mono ?_
                    rintro e w10 ⟨⟨u10, rfl⟩, fs10, h10, p10, hh10, f10⟩
                    have H10 := Lib.hid h10
                    have P10 := Lib.hid p10
                    have HE10 := Lib.hid hh10
                    have F10 : Hid (Fr (fun k => k = b ∨ k = S) w7 w10) := (F8.out.mono (fun _ _ h => .inl h)).trans f10 (fun _ _ h => h)
                    have F10' := Lib.hid f10
                    clear h10 p10 hh10 f10 hqb g0 g1
                    gi_wp2_with fail
                    have hp10 : fs10.Perm fr := P10.out
                    have hl10 : fs10.length = nr := hp10.length_eq.trans HNR.out
                    obtain ⟨cb8, hb8, -, -⟩ := HH8.out.2
                    have hok10 : ∀ f ∈ fs10, FOk w10 f := fun f hf => by
                      have h1 := HOK8.out f (hp10.mem_iff.1 hf)
                      refine h1.fr F10'.out ?_
                      rintro (h | h)
                      · exact h1.ne hb8 h
                      · obtain ⟨-, -, -, ⟨cc, h4⟩, -⟩ := h1
                        exact h4.ne_ HH8.out.1 (by decide) h
                    obtain ⟨hS10, cb10, hb10, hcs10, ht10⟩ := id H10.out
                    have hlc10 : fs10.length ≤ c2 := by omega
                    refine ⟨⟨ek, true, .slice (some ⟨b, 0, none⟩) fs10.length c2, fs10, _, rfl, rfl, by omega, by have := F10.out.size; omega, ⟨hS10, front_own hSb hb10 rfl hlc10 HCM.out hcs10 ht10, hok10, by rw [hl10]; exact HE10.out⟩, ((M7.out ⟨gg, o', cp - 1, t, pl⟩ rfl rfl).gone ht0.out).perm hp10, ?_, fun k hk => by cases hk; exact hbT, fun f hf => hg.out f (List.mem_cons_of_mem _ (hp10.mem_iff.1 hf))⟩, ?_⟩
                    · refine HJ.out HH HH _ w7 w10 J7'.out (F10.out.mono (fun k _ h => ?_)) (fun k h => .inl h)
                      rw [HHH.out]
                      rcases h with h | h
                      · rw [h]; exact ⟨hSb, hbT⟩
                      · rw [h]; exact ⟨Nat.le_refl _, hST⟩
                    · rw [msr_of H10.out hlc10, msr_of HH1.out (by rw [HNF.out]; exact hnfc), (hp10.map (fun f : Frt => f.l.length)).sum_nat, List.map_cons, List.sum_cons, List.length_cons]
                      omega
                  · have hqb : ((q : Int) == 0) = false := by simpa using hq0
                    have hqI : (0 : Int) < q := by omega
                    clear hq0
                    gi_wp2_with fail
                    refine ⟨trivial, ?_⟩
                    have htn : t ≠ [] := fun h => by have := HQ.out; rw [h] at this; simp at this; omega
                    refine (callsIn_wide.2 (hfix_c w8 S b c2 nf _ HH8.out (by rw [List.length_cons, HNR.out, hnr1]) (by omega) (by omega) (by omega) (fun f hf => by
                      rcases List.mem_cons.1 hf with rfl | hf
                      · exact HOK8'.out htn
                      · exact HOK8.out f hf) HD8.out)).mono ?_
                    rintro e w10 ⟨⟨u10, rfl⟩, fs10, h10, p10, hh10, f10⟩
                    have H10 := Lib.hid h10
                    have P10 := Lib.hid p10
                    have HE10 := Lib.hid hh10
                    have HTN := Lib.hid htn
                    have F10 : Hid (Fr (fun k => k = b) w7 w10) := F8.out.trans f10 (fun _ _ h => h)
                    have F10' := Lib.hid f10
                    clear h10 p10 hh10 f10 hqb g0 g1 htn
                    gi_wp2_with fail
                    have hp10 : fs10.Perm (⟨gg, o', cp - 1, t, pl⟩ :: fr) := P10.out
                    have hl10 : fs10.length = nf := by rw [hp10.length_eq, List.length_cons, HNR.out, hnr1]
                    obtain ⟨cb8, hb8, -, -⟩ := HH8.out.2
                    have hok10 : ∀ f ∈ fs10, FOk w10 f := fun f hf => by
                      have h1 : FOk w8 f := by
                        rcases List.mem_cons.1 (hp10.mem_iff.1 hf) with h | h
                        · rw [h]; exact HOK8'.out HTN.out
                        · exact HOK8.out f h
                      exact h1.fr F10'.out (fun h => h1.ne hb8 h)
                    obtain ⟨hS10, cb10, hb10, hcs10, ht10⟩ := id H10.out
                    have hlc10 : fs10.length ≤ c2 := by omega
                    refine ⟨⟨ek, true, .slice (some ⟨b, 0, none⟩) fs10.length c2, fs10, _, rfl, rfl, by omega, by have := F10.out.size; omega, ⟨hS10, front_own hSb hb10 rfl hlc10 HCM.out hcs10 ht10, hok10, by rw [hl10]; exact HE10.out⟩, (M7.out ⟨gg, o', cp - 1, t, pl⟩ rfl rfl).perm hp10, ?_, fun k hk => by cases hk; exact hbT, fun f hf => ?_⟩, ?_⟩
                    · refine HJ.out HH HH _ w7 w10 J7'.out (F10.out.mono (fun k _ h => ?_)) (fun k h => .inl h)
                      rw [HHH.out, h]
                      exact ⟨hSb, hbT⟩
                    · rcases List.mem_cons.1 (hp10.mem_iff.1 hf) with h | h
                      · rw [h]; exact hg.out ⟨gg, o, cp, (ek, ev) :: t, pl⟩ List.mem_cons_self
                      · exact hg.out f (List.mem_cons_of_mem _ h)
                    · rw [msr_of H10.out hlc10, msr_of HH1.out (by rw [HNF.out]; exact hnfc), (hp10.map (fun f : Frt => f.l.length)).sum_nat]
                      simp only [List.map_cons, List.sum_cons, List.length_cons]
                      omega
                · have J7 := Lib.hid j7
                  clear hy j7 f7
                  gi_wp2_with fail
                  refine bodyPost_ret (results_none rfl _ _ _) rfl ?_
                  exact ⟨⟨_, rfl⟩, .inr ⟨_, HJX.out _ _ _ _ _ J7.out (Fr.refl _ _) (fun k hk => hk.elim)⟩⟩
end Go.Proofs.YtillifkilkjpdaaDoor
