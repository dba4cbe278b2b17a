/-
  CONTRACT of the parser's value. Written by gen_pv.py.
-/
import Derived.Test.YtnkfkicabgajmaaGreatDoorEls
namespace Go.Proofs.YtnkfkicabgajmaaGreatDoor
set_option linter.unusedSimpArgs false
set_option linter.unusedVariables false
open Go Go.RowKit

/-- Where the parser's value stands: its result, the parser. -/
structure Vlx (w : World) (p rb : Nat) (s : List UInt8) (W : World) : Prop where
  res : Blk W rb 25 (vcs 0 0 [] none 0 0 none 0 0)
  par : Blk W p 66 (pcs s false)
  fr : Fr (fun q => q = p) w W
  laid : LaidOk W
structure Vlp (w : World) (p rb : Nat) : Prop where
  hr : w.heap.size = rb
  hp : p < rb
  h8 : 8 ≤ p
theorem Vlx.fr_ {w W W2 : World} {p rb : Nat} {s r : List UInt8} (h : Vlx w p rb s W) (e : Vlp w p rb) (hf : Fr (fun q => q = p) W W2) (hp : Blk W2 p 66 (pcs r false)) : Vlx w p rb r W2 := by
  have e2 := e.hp
  have e3 := e.h8
  exact ⟨h.res.fr hf (by omega), hp, h.fr.trans hf (fun _ _ h => h), h.laid.fr hf (fun q hq he => by omega)⟩
theorem Vlx.fin {w W W2 W9 : World} {p rb : Nat} {s r : List UInt8} {b : Bool} {C : Array Value} {v : V} (h : Vlx w p rb s W) (e : Vlp w p rb) (ho : OwnV W2 (fun q => W.heap.size ≤ q ∧ q < W2.heap.size) C v) (hp : Blk W2 p 66 (pcs r b)) (hf : Fr (fun q => q = p) W W2) (f9 : Fr (fun q => q = rb) W2 W9) :
    OwnV W9 (fun q => w.heap.size ≤ q ∧ q < W9.heap.size) C v ∧ Blk W9 p 66 (pcs r b) ∧ Fr (fun q => q = p) w W9 := by
  have e1 := e.hr
  have e2 := e.hp
  have s1 := h.res.lt
  have s2 := hf.size
  have s3 := f9.size
  exact ⟨(ho.fr f9 (fun q hq he => by omega)).mono (fun q hq => ⟨by omega, by omega⟩), hp.fr f9 (by omega), (h.fr.trans hf (fun _ _ h => h)).trans f9 (fun q hq he => by omega)⟩
set_option maxRecDepth 100000 in
set_option maxHeartbeats 16000000 in
theorem pvalue_step (w : World) (p : Nat) (s : List UInt8) (hs : s.length ≤ 1000) (hp : Blk w p 66 (pcs s false)) (hL : LaidOk w) (h8 : 8 ≤ p) (ih : ∀ n, n < s.length → PIH p n) (f : Nat) (hf : 3 * s.length + 1 ≤ f) :
    Calls Tryz.prog 49 #[.pointer (some ⟨p, 0, none⟩)] w (PvQ (pval f s) p s w) := by
  have hplt := hp.lt
  have HP := Lib.hid hp
  have HL := Lib.hid hL
  have IH := Lib.hid ih
  obtain ⟨f, rfl⟩ : ∃ f1, f = f1 + 1 := ⟨f - 1, by omega⟩
  clear hp hL ih
  obtain ⟨o, ho⟩ : ∃ o, pval (f + 1) s = o := ⟨_, rfl⟩
  rw [ho]
  unfold pval at ho
  have HVF := Lib.hid ho.symm
  clear ho
  go_enter Tryz.func49, Tryz.ntmps49
  go_upto_region 1 with fail
  obtain ⟨rb, hrb⟩ : ∃ rb, w.heap.size = rb := ⟨_, rfl⟩
  have EP : Hid (Vlp w p rb) := Lib.hid ⟨hrb, hrb ▸ hplt, h8⟩
  refine abs_world (fun W => Hid (Vlx w p rb s W)) ⟨hrb ▸ Blk.new w _ _, HP.out.alloc _, ((Fr.refl _ w).alloc _), HL.out.far ((Fr.refl _ w).alloc _)⟩ ?_
  rintro W1 X1
  rw [hrb] at hplt ⊢
  clear HP HL hrb
  have hres := results_one (P := Tryz.prog) (fn := Tryz.f49) (p := 2) (ty := 25) Tryz.results49
  have TK := Lib.hid (take_c W1 p s tNull false X1.out.par)
  cases hc1 : cutP s tNull with
  | some r =>
    rw [hc1] at TK
    have hr : r.length + (tNull).length = s.length := by
      have := cutP_some hc1
      rw [this]
      simp <;> omega
    have h := HVF.out
    rw [hc1] at h
    dsimp only at h
    have HV := Lib.hid h
    clear HVF h hc1
    go_wp2_with fail
    refine TK.out.mono ?_
    rintro e W2 ⟨rfl, p2, f2⟩
    have X2 : Hid (Vlx w p rb r W2) := Lib.hid (X1.out.fr_ EP.out f2 p2)
    clear p2 f2 TK X1
    have S1 := Lib.hid (show (Tryz.prog.info? 25).map (·.size) = some (vcs 0 0 [] none 0 0 none 0 0).size from lw5)
    have HO1 := Lib.hid (show (vcs 0 0 [] none 0 0 none 0 0).all (·.oneCell') = true by simp [vcs, Value.oneCell'])
    have BR := Lib.hid (X2.out.res)
    go_wp2_with (refine wpList_store_blk rfl 25 _ _ rfl rb (vcs 0 0 [] none 0 0 none 0 0) rfl rfl BR.out (rfl) S1.out HO1.out ?_
                 intro W9 q9 f9
                 have F9 := Lib.hid f9
                 have Q9 := Lib.hid q9
                 clear q9 f9)
    refine bodyPost_ret (v := .agg (vcs 0 0 [] none 0 0 none 0 0)) (hres _ W9 rb 25 _ _ rfl Q9.out Tryz.underlying25 rfl S1.out) rfl ?_
    obtain ⟨h1, h2, h3⟩ := X2.out.fin EP.out (C := vcs 0 0 [] none 0 0 none 0 0) (v := .mk 0 0 [] [] []) (OwnV.flat_ _ _ ⟨by decide, by decide, by decide, by decide, Nat.zero_le _, Nat.zero_le _, Nat.zero_le _, fun _ h => by cases h⟩) X2.out.par (Fr.refl _ _) F9.out
    exact ⟨_, _, r, false, rfl, h1, Sm.flat_ (Nat.zero_le _), h2, h3, by omega, .inl ⟨HV.out, rfl⟩⟩
  | none =>
    rw [hc1] at TK
    have h := HVF.out
    rw [hc1] at h
    dsimp only at h
    have HVF := Lib.hid h
    clear h hc1
    go_wp2_with fail
    refine TK.out.mono ?_
    rintro e W2 ⟨rfl, p2, f2⟩
    have X2 : Hid (Vlx w p rb s W2) := Lib.hid (X1.out.fr_ EP.out f2 p2)
    clear p2 f2 TK X1
    have TK := Lib.hid (take_c W2 p s tFalse false X2.out.par)
    cases hc2 : cutP s tFalse with
    | some r =>
      rw [hc2] at TK
      have hr : r.length + (tFalse).length = s.length := by
        have := cutP_some hc2
        rw [this]
        simp <;> omega
      have h := HVF.out
      rw [hc2] at h
      dsimp only at h
      have HV := Lib.hid h
      clear HVF h hc2
      go_wp2_with fail
      refine TK.out.mono ?_
      rintro e W3 ⟨rfl, p2, f2⟩
      have X3 : Hid (Vlx w p rb r W3) := Lib.hid (X2.out.fr_ EP.out f2 p2)
      clear p2 f2 TK X2
      have S1 := Lib.hid (show (Tryz.prog.info? 25).map (·.size) = some (vcs 1 0 [] none 0 0 none 0 0).size from lw5)
      have HO1 := Lib.hid (show (vcs 1 0 [] none 0 0 none 0 0).all (·.oneCell') = true by simp [vcs, Value.oneCell'])
      have BR := Lib.hid (X3.out.res)
      go_wp2_with (refine wpList_store_blk rfl 25 _ _ rfl rb (vcs 1 0 [] none 0 0 none 0 0) rfl rfl BR.out (rfl) S1.out HO1.out ?_
                   intro W9 q9 f9
                   have F9 := Lib.hid f9
                   have Q9 := Lib.hid q9
                   clear q9 f9)
      refine bodyPost_ret (v := .agg (vcs 1 0 [] none 0 0 none 0 0)) (hres _ W9 rb 25 _ _ rfl Q9.out Tryz.underlying25 rfl S1.out) rfl ?_
      obtain ⟨h1, h2, h3⟩ := X3.out.fin EP.out (C := vcs 1 0 [] none 0 0 none 0 0) (v := .mk 1 0 [] [] []) (OwnV.flat_ _ _ ⟨by decide, by decide, by decide, by decide, Nat.zero_le _, Nat.zero_le _, Nat.zero_le _, fun _ h => by cases h⟩) X3.out.par (Fr.refl _ _) F9.out
      exact ⟨_, _, r, false, rfl, h1, Sm.flat_ (Nat.zero_le _), h2, h3, by omega, .inl ⟨HV.out, rfl⟩⟩
    | none =>
      rw [hc2] at TK
      have h := HVF.out
      rw [hc2] at h
      dsimp only at h
      have HVF := Lib.hid h
      clear h hc2
      go_wp2_with fail
      refine TK.out.mono ?_
      rintro e W3 ⟨rfl, p2, f2⟩
      have X3 : Hid (Vlx w p rb s W3) := Lib.hid (X2.out.fr_ EP.out f2 p2)
      clear p2 f2 TK X2
      have TK := Lib.hid (take_c W3 p s tTrue false X3.out.par)
      cases hc3 : cutP s tTrue with
      | some r =>
        rw [hc3] at TK
        have hr : r.length + (tTrue).length = s.length := by
          have := cutP_some hc3
          rw [this]
          simp <;> omega
        have h := HVF.out
        rw [hc3] at h
        dsimp only at h
        have HV := Lib.hid h
        clear HVF h hc3
        go_wp2_with fail
        refine TK.out.mono ?_
        rintro e W4 ⟨rfl, p2, f2⟩
        have X4 : Hid (Vlx w p rb r W4) := Lib.hid (X3.out.fr_ EP.out f2 p2)
        clear p2 f2 TK X3
        have S1 := Lib.hid (show (Tryz.prog.info? 25).map (·.size) = some (vcs 2 0 [] none 0 0 none 0 0).size from lw5)
        have HO1 := Lib.hid (show (vcs 2 0 [] none 0 0 none 0 0).all (·.oneCell') = true by simp [vcs, Value.oneCell'])
        have BR := Lib.hid (X4.out.res)
        go_wp2_with (refine wpList_store_blk rfl 25 _ _ rfl rb (vcs 2 0 [] none 0 0 none 0 0) rfl rfl BR.out (rfl) S1.out HO1.out ?_
                     intro W9 q9 f9
                     have F9 := Lib.hid f9
                     have Q9 := Lib.hid q9
                     clear q9 f9)
        refine bodyPost_ret (v := .agg (vcs 2 0 [] none 0 0 none 0 0)) (hres _ W9 rb 25 _ _ rfl Q9.out Tryz.underlying25 rfl S1.out) rfl ?_
        obtain ⟨h1, h2, h3⟩ := X4.out.fin EP.out (C := vcs 2 0 [] none 0 0 none 0 0) (v := .mk 2 0 [] [] []) (OwnV.flat_ _ _ ⟨by decide, by decide, by decide, by decide, Nat.zero_le _, Nat.zero_le _, Nat.zero_le _, fun _ h => by cases h⟩) X4.out.par (Fr.refl _ _) F9.out
        exact ⟨_, _, r, false, rfl, h1, Sm.flat_ (Nat.zero_le _), h2, h3, by omega, .inl ⟨HV.out, rfl⟩⟩
      | none =>
        rw [hc3] at TK
        have h := HVF.out
        rw [hc3] at h
        dsimp only at h
        have HVF := Lib.hid h
        clear h hc3
        go_wp2_with fail
        refine TK.out.mono ?_
        rintro e W4 ⟨rfl, p2, f2⟩
        have X4 : Hid (Vlx w p rb s W4) := Lib.hid (X3.out.fr_ EP.out f2 p2)
        clear p2 f2 TK X3
        have TK := Lib.hid (take_c W4 p s [91] false X4.out.par)
        cases hc4 : cutP s [91] with
        | some r =>
          rw [hc4] at TK
          have hr : r.length + ([91]).length = s.length := by
            have := cutP_some hc4
            rw [this]
            simp <;> omega
          have h := HVF.out
          rw [hc4] at h
          dsimp only at h
          have HV := Lib.hid h
          clear HVF h hc4
          go_wp2_with fail
          refine TK.out.mono ?_
          rintro e W5 ⟨rfl, p2, f2⟩
          have X5 : Hid (Vlx w p rb r W5) := Lib.hid (X4.out.fr_ EP.out f2 p2)
          clear p2 f2 TK X4
          have hr1 : r.length + 1 = s.length := hr
          have EL := Lib.hid (els5_c W5 p r (by omega) X5.out.par X5.out.laid h8 (IH.out r.length (by omega)) f (by omega))
          go_wp2_with fail
          refine EL.out.mono ?_
          rintro e W6 ⟨C2, v2, r2, b2, rfl, o2, sm2, p2, f2, hr2, ht2⟩
          have O2 := Lib.hid o2
          have SM2 := Lib.hid sm2
          have P2 := Lib.hid p2
          have F2 := Lib.hid f2
          have HR2 := Lib.hid hr2
          have HT2 := Lib.hid ht2
          clear o2 sm2 p2 f2 hr2 ht2
          have S1 := Lib.hid (show (Tryz.prog.info? 25).map (·.size) = some (C2).size from szV O2.out.rd)
          have HO1 := Lib.hid (show (C2).all (·.oneCell') = true by exact oneV O2.out.rd)
          have BR := Lib.hid (X5.out.res.fr F2.out (by have := EP.out.hp; omega))
          go_wp2_with (refine wpList_store_blk rfl 25 _ _ rfl rb (C2) rfl rfl BR.out (O2.out.rd.size) S1.out HO1.out ?_
                       intro W9 q9 f9
                       have F9 := Lib.hid f9
                       have Q9 := Lib.hid q9
                       clear q9 f9)
          refine bodyPost_ret (v := .agg (C2)) (hres _ W9 rb 25 _ _ rfl Q9.out Tryz.underlying25 rfl S1.out) rfl ?_
          obtain ⟨h1, h2, h3⟩ := X5.out.fin EP.out O2.out P2.out F2.out F9.out
          have hr2 := HR2.out
          refine ⟨_, _, r2, b2, rfl, h1, SM2.out, h2, h3, by omega, ?_⟩
          rw [HV.out]
          exact HT2.out
        | none =>
          rw [hc4] at TK
          have h := HVF.out
          rw [hc4] at h
          dsimp only at h
          have HVF := Lib.hid h
          clear h hc4
          go_wp2_with fail
          refine TK.out.mono ?_
          rintro e W5 ⟨rfl, p2, f2⟩
          have X5 : Hid (Vlx w p rb s W5) := Lib.hid (X4.out.fr_ EP.out f2 p2)
          clear p2 f2 TK X4
          have TK := Lib.hid (take_c W5 p s [123] false X5.out.par)
          cases hc5 : cutP s [123] with
          | some r =>
            rw [hc5] at TK
            have hr : r.length + ([123]).length = s.length := by
              have := cutP_some hc5
              rw [this]
              simp <;> omega
            have h := HVF.out
            rw [hc5] at h
            dsimp only at h
            have HV := Lib.hid h
            clear HVF h hc5
            go_wp2_with fail
            refine TK.out.mono ?_
            rintro e W6 ⟨rfl, p2, f2⟩
            have X6 : Hid (Vlx w p rb r W6) := Lib.hid (X5.out.fr_ EP.out f2 p2)
            clear p2 f2 TK X5
            have hr1 : r.length + 1 = s.length := hr
            have EL := Lib.hid (els6_c W6 p r (by omega) X6.out.par X6.out.laid h8 (IH.out r.length (by omega)) f (by omega))
            go_wp2_with fail
            refine EL.out.mono ?_
            rintro e W7 ⟨C2, v2, r2, b2, rfl, o2, sm2, p2, f2, hr2, ht2⟩
            have O2 := Lib.hid o2
            have SM2 := Lib.hid sm2
            have P2 := Lib.hid p2
            have F2 := Lib.hid f2
            have HR2 := Lib.hid hr2
            have HT2 := Lib.hid ht2
            clear o2 sm2 p2 f2 hr2 ht2
            have S1 := Lib.hid (show (Tryz.prog.info? 25).map (·.size) = some (C2).size from szV O2.out.rd)
            have HO1 := Lib.hid (show (C2).all (·.oneCell') = true by exact oneV O2.out.rd)
            have BR := Lib.hid (X6.out.res.fr F2.out (by have := EP.out.hp; omega))
            go_wp2_with (refine wpList_store_blk rfl 25 _ _ rfl rb (C2) rfl rfl BR.out (O2.out.rd.size) S1.out HO1.out ?_
                         intro W9 q9 f9
                         have F9 := Lib.hid f9
                         have Q9 := Lib.hid q9
                         clear q9 f9)
            refine bodyPost_ret (v := .agg (C2)) (hres _ W9 rb 25 _ _ rfl Q9.out Tryz.underlying25 rfl S1.out) rfl ?_
            obtain ⟨h1, h2, h3⟩ := X6.out.fin EP.out O2.out P2.out F2.out F9.out
            have hr2 := HR2.out
            refine ⟨_, _, r2, b2, rfl, h1, SM2.out, h2, h3, by omega, ?_⟩
            rw [HV.out]
            exact HT2.out
          | none =>
            rw [hc5] at TK
            have h := HVF.out
            rw [hc5] at h
            dsimp only at h
            have HVF := Lib.hid h
            clear h hc5
            go_wp2_with fail
            refine TK.out.mono ?_
            rintro e W6 ⟨rfl, p2, f2⟩
            have X6 : Hid (Vlx w p rb s W6) := Lib.hid (X5.out.fr_ EP.out f2 p2)
            clear p2 f2 TK X5
            have c0 : W6.cell? ⟨p, 0, none⟩ = some (.string (strOf s)) := X6.out.par.cell 0
            have PF := Lib.hid (prefix_c W6 s [34])
            by_cases hp34 : [34].isPrefixOf s = true
            case pos =>
              rw [hp34] at PF
              have h := HVF.out
              rw [if_pos hp34] at h
              have HV := Lib.hid h
              clear HVF h hp34
              have PQ := Lib.hid (pquoted_c W6 p s hs X6.out.par)
              go_wp2_with fail
              refine PF.out.mono ?_
              rintro e W7 ⟨rfl, rfl⟩
              go_wp2_with fail
              refine PQ.out.mono ?_
              rintro e W7 ⟨a, r1, b1, rfl, p2, f2, hr1, ha1, ht⟩
              have P2 := Lib.hid p2
              have F2 := Lib.hid f2
              have HT := Lib.hid ht
              clear p2 f2 ht PF PQ c0
              go_wp2_with fail
              refine (text_val W7 a).mono ?_
              rintro e W8 ⟨rfl, f8⟩
              have P8 := Lib.hid (P2.out.fr f8 (fun h => h))
              have F8 : Hid (Fr (fun q => q = p) W6 W8) := Lib.hid (F2.out.trans f8 (fun _ _ h => h.elim))
              clear f8 P2 F2
              have S1 := Lib.hid (show (Tryz.prog.info? 25).map (·.size) = some (vcs 4 0 a none 0 0 none 0 0).size from lw5)
              have HO1 := Lib.hid (show (vcs 4 0 a none 0 0 none 0 0).all (·.oneCell') = true by simp [vcs, Value.oneCell'])
              have BR := Lib.hid (X6.out.res.fr F8.out (by have := EP.out.hp; omega))
              go_wp2_with (refine wpList_store_blk rfl 25 _ _ rfl rb (vcs 4 0 a none 0 0 none 0 0) rfl rfl BR.out (rfl) S1.out HO1.out ?_
                           intro W9 q9 f9
                           have F9 := Lib.hid f9
                           have Q9 := Lib.hid q9
                           clear q9 f9)
              refine bodyPost_ret (v := .agg (vcs 4 0 a none 0 0 none 0 0)) (hres _ W9 rb 25 _ _ rfl Q9.out Tryz.underlying25 rfl S1.out) rfl ?_
              obtain ⟨h1, h2, h3⟩ := X6.out.fin EP.out (C := vcs 4 0 a none 0 0 none 0 0) (v := .mk 4 0 a [] []) (OwnV.flat_ _ _ ⟨by decide, by decide, by decide, by decide, by omega, Nat.zero_le _, Nat.zero_le _, fun _ h => by cases h⟩) P8.out F8.out F9.out
              refine ⟨_, _, r1, b1, rfl, h1, Sm.flat_ (by omega), h2, h3, by omega, ?_⟩
              rcases HT.out with ⟨t1, t2⟩ | ⟨t1, t2⟩
              · exact .inl ⟨by rw [HV.out, t1], t2⟩
              · exact .inr ⟨by rw [HV.out, t1], t2⟩
            case neg =>
              have hp34' : [34].isPrefixOf s = false := (Bool.not_eq_true _).mp hp34
              rw [hp34'] at PF
              have h := HVF.out
              rw [if_neg hp34] at h
              have HV : Hid (o = pNum s) := Lib.hid h
              clear HVF h hp34 hp34'
              have NU := Lib.hid (pnumber_c W6 p s hs X6.out.par X6.out.laid h8)
              go_wp2_with fail
              refine PF.out.mono ?_
              rintro e W7 ⟨rfl, rfl⟩
              go_wp2_with fail
              refine NU.out.mono ?_
              rintro e W7 ⟨C2, v2, r2, b2, rfl, o2, sm2, p2, f2, hr2, ht2⟩
              have O2 := Lib.hid o2
              have SM2 := Lib.hid sm2
              have P2 := Lib.hid p2
              have F2 := Lib.hid f2
              have HR2 := Lib.hid hr2
              have HT2 := Lib.hid ht2
              clear o2 sm2 p2 f2 hr2 ht2
              have S1 := Lib.hid (show (Tryz.prog.info? 25).map (·.size) = some (C2).size from szV O2.out.rd)
              have HO1 := Lib.hid (show (C2).all (·.oneCell') = true by exact oneV O2.out.rd)
              have BR := Lib.hid (X6.out.res.fr F2.out (by have := EP.out.hp; omega))
              go_wp2_with (refine wpList_store_blk rfl 25 _ _ rfl rb (C2) rfl rfl BR.out (O2.out.rd.size) S1.out HO1.out ?_
                           intro W9 q9 f9
                           have F9 := Lib.hid f9
                           have Q9 := Lib.hid q9
                           clear q9 f9)
              refine bodyPost_ret (v := .agg (C2)) (hres _ W9 rb 25 _ _ rfl Q9.out Tryz.underlying25 rfl S1.out) rfl ?_
              obtain ⟨h1, h2, h3⟩ := X6.out.fin EP.out O2.out P2.out F2.out F9.out
              have hr2 := HR2.out
              refine ⟨_, _, r2, b2, rfl, h1, SM2.out, h2, h3, by omega, ?_⟩
              rw [HV.out]
              exact HT2.out

theorem pvalue_c : ∀ (n : Nat) (s : List UInt8), s.length ≤ n → s.length ≤ 1000 → ∀ (w : World) (p f : Nat), Blk w p 66 (pcs s false) → LaidOk w → 8 ≤ p → 3 * s.length + 1 ≤ f → Calls Tryz.prog 49 #[.pointer (some ⟨p, 0, none⟩)] w (PvQ (pval f s) p s w) := by
  intro n
  induction n with
  | zero =>
    intro s h0 h1 w p f hp hL h8 hf
    exact pvalue_step w p s h1 hp hL h8 (fun m hm => by omega) f hf
  | succ n ih =>
    intro s h0 h1 w p f hp hL h8 hf
    exact pvalue_step w p s h1 hp hL h8 (fun m hm s' hs' W f' hp' hL' hf' => ih s' (by omega) (by omega) W p f' hp' hL' h8 hf') f hf
end Go.Proofs.YtnkfkicabgajmaaGreatDoor
