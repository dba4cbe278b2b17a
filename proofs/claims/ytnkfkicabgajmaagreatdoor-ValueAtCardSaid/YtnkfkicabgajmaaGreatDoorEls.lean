/-
  CONTRACT of the parser's elements. Written by gen_els.py.
-/
import Derived.Test.YtnkfkicabgajmaaGreatDoorEl
import Derived.Deep.AppendLies
import Derived.WalkMore
namespace Go.Proofs.YtnkfkicabgajmaaGreatDoor
set_option linter.unusedSimpArgs false
set_option linter.unusedVariables false
open Go Go.RowKit
theorem s_info : (Tryz.prog.info? 9).map (fun i => (i.zero, i.size, i.bytes)) = some (some (.string ⟨#[]⟩), 1, 16) := by kernel_rfl
set_option maxRecDepth 100000 in
set_option maxHeartbeats 16000000 in
theorem els5_c (w : World) (p : Nat) (s : List UInt8) (hs : s.length ≤ 1000) (hp : Blk w p 66 (pcs s false)) (hL : LaidOk w) (h8 : 8 ≤ p) (ih : PIH p s.length) (f : Nat) (hf : 3 * s.length + 3 ≤ f) :
    Calls Tryz.prog 69 #[.pointer (some ⟨p, 0, none⟩), .int .i64 5, .string (strOf [93])] w (PvQ (pel f 5 93 s) p s w) := by
  have hplt := hp.lt
  have HP := Lib.hid hp
  have HL := Lib.hid hL
  have IH := Lib.hid ih
  have hL8 := hL.size
  obtain ⟨i0, hi0, hz0', hz1', hz2'⟩ := info_parts v_info
  have HI0 := Lib.hid hi0
  obtain ⟨j0, hj0, jz0', jz1', jz2'⟩ := info_parts s_info
  have HJ0 := Lib.hid hj0
  obtain ⟨f1, rfl⟩ : ∃ f1, f = f1 + 1 := ⟨f - 1, by omega⟩
  clear hp hL ih hi0 hj0
  go_enter Tryz.func69, Tryz.ntmps69
  go_upto_region 1 with fail
  refine abs_world (fun W => Hid (Blk W w.heap.size 25 (vcs 0 0 [] none 0 0 none 0 0)) ∧ Hid (Blk W p 66 (pcs s false)) ∧ Hid (Fr (fun _ => False) w W) ∧ W.heap.size = w.heap.size + 1) ⟨Blk.new w _ _, HP.out.alloc _, (Fr.refl _ w).alloc _, by simp⟩ ?_
  rintro W0 ⟨R0, P0, F0, S0⟩
  obtain ⟨rb, hrb⟩ : ∃ rb, w.heap.size = rb := ⟨_, rfl⟩
  have HRB := Lib.hid hrb
  rw [hrb] at R0 hplt S0 ⊢
  clear hrb
  go_step3
  go_upto_region 2 with fail
  have BN := Lib.hid (S0 ▸ Blk.new W0 25 (vcs 5 0 [] none 0 0 none 0 0))
  refine abs_world (fun W => Hid (Blk W rb 25 (vcs 0 0 [] none 0 0 none 0 0)) ∧ Hid (Blk W (rb + 1) 25 (vcs 5 0 [] none 0 0 none 0 0)) ∧ Hid (Blk W p 66 (pcs s false)) ∧ Hid (Fr (fun _ => False) w W)) ⟨R0.out.alloc _, BN.out, P0.out.alloc _, F0.out.alloc _⟩ ?_
  rintro W1 ⟨R1, B1, P1, F1⟩
  clear BN
  obtain ⟨vb, hvb⟩ : ∃ vb, rb + 1 = vb := ⟨_, rfl⟩
  rw [hvb] at B1 ⊢
  have EP : Hid (Elp w p vb rb) := Lib.hid ⟨HRB.out, hvb, hplt, h8⟩
  have X1 : Hid (Elx w p vb rb 5 [] [] none 0 none 0 [] (fun _ _ => False) s false W1) := Lib.hid ⟨OwnL.nil _ _, World.ownsRow_nil _ _ _ _, fun i q hi => absurd hi (by simp), B1.out, R1.out, P1.out, F1.out.mono (fun _ _ h => h.elim), HL.out.far F1.out, fun x h => by (cases h), fun x h => by (cases h)⟩
  have s1 := B1.out.lt
  have HVB := Lib.hid hvb
  clear hvb hplt R0 P0 F0 S0 R1 B1 P1 F1
  have TK := Lib.hid (take_c W1 p s [93] false X1.out.par)
  cases hc : cutP s [93] with
  | some r0 =>
    rw [hc] at TK
    have HT : Hid (pel (f1 + 1) 5 93 s = some (.mk 5 0 [] [] [], r0)) := Lib.hid (by unfold pel; rw [hc])
    have hr0 : r0.length ≤ s.length := by
      have := cutP_some hc
      rw [this]
      simp
    clear hc
    go_wp2_with fail
    refine TK.out.mono ?_
    rintro e W2 ⟨rfl, p2, f2⟩
    have X2 : Hid (Elx w p vb rb 5 [] [] none 0 none 0 [] (fun _ _ => False) r0 false W2) := Lib.hid (X1.out.fr_ EP.out f2 p2)
    clear p2 f2 TK X1
    have BA := Lib.hid (blk_all X2.out.box)
    have BR := Lib.hid X2.out.res
    have S1 := Lib.hid (show (Tryz.prog.info? 25).map (·.size) = some (vcs 5 0 [] none ([] : List V).length 0 none ([] : List (List UInt8)).length 0).size from lw5)
    have HO1 := Lib.hid (show (vcs 5 0 [] none ([] : List V).length 0 none ([] : List (List UInt8)).length 0).all (·.oneCell') = true by simp [vcs, Value.oneCell'])
    go_wp2_with (first
      | (refine wpList_load_val rfl 25 _ rfl vb _ rfl _ BA.out _ Tryz.underlying25 rfl S1.out ?_)
      | (refine wpList_store_blk rfl 25 _ _ rfl rb (vcs 5 0 [] none ([] : List V).length 0 none ([] : List (List UInt8)).length 0) rfl rfl BR.out rfl S1.out HO1.out ?_
         intro W9 q9 f9
         have F9 := Lib.hid f9
         have Q9 := Lib.hid q9
         clear q9 f9))
    have hres := results_one (P := Tryz.prog) (fn := Tryz.f69) (p := 6) (ty := 25) Tryz.results69
    refine bodyPost_ret (v := .agg (vcs 5 0 [] none ([] : List V).length 0 none ([] : List (List UInt8)).length 0)) (hres _ W9 rb 25 _ _ rfl Q9.out Tryz.underlying25 rfl S1.out) rfl ?_
    obtain ⟨h1, h2, h3⟩ := X2.out.fin EP.out ⟨by decide, by decide, by decide, by decide, Nat.zero_le _, Nat.zero_le _, Nat.zero_le _, fun _ h => by cases h⟩ F9.out
    exact ⟨_, _, r0, false, rfl, h1, Sm.flat_ (Nat.zero_le _), h2, h3, by omega, .inl ⟨HT.out, rfl⟩⟩
  | none =>
    rw [hc] at TK
    have HT : Hid (pel (f1 + 1) 5 93 s = ploop f1 5 93 [] [] s) := Lib.hid (by unfold pel; rw [hc])
    clear hc
    go_wp2_with fail
    refine TK.out.mono ?_
    rintro e W2 ⟨rfl, p2, f2⟩
    have X2 : Hid (Elx w p vb rb 5 [] [] none 0 none 0 [] (fun _ _ => False) s false W2) := Lib.hid (X1.out.fr_ EP.out f2 p2)
    clear p2 f2 TK X1
    go_wp2_with fail
    go_step3
    go_wp2_with fail
    go_loopw [14] (fun kv wr => ∃ (al : List V) (ak : List (List UInt8)) (A : Option Addr) (c : Nat) (K : Option Addr) (kc : Nat) (css : List (Array Value)) (Fs : Nat → Nat → Prop) (r : List UInt8) (f : Nat), al.length + r.length ≤ 1000 ∧ ak.length ≤ al.length ∧ r.length ≤ s.length ∧ 3 * r.length + 2 ≤ f ∧ Hid (ploop f1 5 93 [] [] s = ploop f 5 93 al ak r) ∧ Hid (Elx w p vb rb 5 al ak A c K kc css Fs r false wr)) (fun _ wr => msr p wr)
    case atStart => exact ⟨[], [], none, 0, none, 0, [], _, s, f1, by simp; omega, Nat.le_refl _, Nat.le_refl _, by omega, rfl, X2.out⟩
    case round =>
      obtain ⟨al, ak, A, c, K, kc, css, Fs, r, f, hal, hak, hrs, hfr, hq, hx⟩ := hrel
      have hms : msr p wr = r.length := msr_of hx.out.par
      have HMS := Lib.hid hms
      obtain ⟨f, rfl⟩ : ∃ f', f = f' + 1 := ⟨f - 1, by omega⟩
      clear hms X2
      have HKEY : Hid (pKey 5 ak r = some (ak, r)) := Lib.hid (by unfold pKey; rw [if_neg (by decide)])
      have PV := Lib.hid (IH.out r (by omega) wr.drew f hx.out.par.drew (hx.out.laid.far ((Fr.refl (fun _ => False) wr).drew)) (by omega))
      have hd2 := Lib.hid (hx.out.far EP.out ((Fr.refl (fun _ => False) wr).drew))
      obtain ⟨m, hm⟩ : ∃ m, al.length = m := ⟨_, rfl⟩
      have HM := Lib.hid hm
      have c3 : wr.cell? ⟨vb, 3, none⟩ = some (.slice A m c) := hm ▸ hx.out.box.cell 3
      have hm1000 : m ≤ 1000 := by omega
      clear hm
      go_upto_region 8 with fail
      go_region_law (first
        | (go_simp
           go_at_call 49
           refine PV.out.mono ?_
           rintro e W6 ⟨C6, v6, r6, b6, rfl, o6, sm6, p6, f6, hr6, ht6⟩
           obtain ⟨k6, n6, t6, l6, ks6, A6, c6, B6, d6, cs6, Fs6, e6, rfl, -⟩ := o6.inv
           have X6 := Lib.hid (hd2.out.fr_ EP.out f6 p6)
           have O6 := Lib.hid o6
           have SM6 := Lib.hid sm6
           have P6 := Lib.hid p6
           have F6 := Lib.hid f6
           have HR6 := Lib.hid hr6
           have HT6 := Lib.hid ht6
           have N6 := Lib.hid o6.rd.one
           have E6 := Lib.hid e6
           have KO6 : Hid (∀ o, (W6.alloc o).ownsRow 0 25 5 (.slice A m c) m (flat css)) := Lib.hid (fun o => HM.out ▸ own_fr X6.out.row.row ((Fr.refl (fun _ => False) W6).alloc o) (fun _ _ h => h))
           have x4 : W6.cell? ⟨vb, 3, none⟩ = some (.slice A m c) := HM.out ▸ X6.out.box.cell 3
           have x5 : ∀ o, (W6.alloc o).cell? ⟨vb, 3, none⟩ = some (.slice A m c) := fun o => HM.out ▸ (X6.out.box.alloc o).cell 3
           clear o6 sm6 p6 f6 hr6 ht6 e6)
        | (refine oper_app_p rfl (.tmp 30) (.tmp 33) _ _ rfl 0 25 i0 _ 5 80 Tryz.underlying22 HI0.out hz0' hz1' hz2' rfl _ m (flat css) (by simp [Act.eval, Act.put]) (KO6.out _) _ 1 _ (by simp [Act.eval, Act.put]) (Src.one (Blk.rng (Blk.new W6 25 (vcs k6 n6 t6 A6 l6.length c6 B6 ks6.length d6))) rfl N6.out) (by omega) (by unfold maxLen; omega) (Nat.zero_le _) ?_
           intro v8 W8 o8 f8 n8
           obtain ⟨A8, c8, rfl, -, -⟩ := own_slice o8
           have O8 := Lib.hid o8
           have F8 := Lib.hid f8
           have N8 := Lib.hid n8
           have y6 : W8.frozen? ⟨vb, 3, none⟩ = false := (Blk.fr (X6.out.box.alloc _) f8 (fun he => by
             have := (X6.out.row.rf vb (HM.out.symm ▸ he)).1
             omega)).frozen 3
           have y7 : W8.cell? ⟨vb, 3, none⟩ = some (.slice A m c) := HM.out ▸ (Blk.fr (X6.out.box.alloc _) f8 (fun he => by
             have := (X6.out.row.rf vb (HM.out.symm ▸ he)).1
             omega)).cell 3
           clear o8 f8 n8))
      all_goals
        have X9 := Lib.hid (by
          have hm := HM.out
          have o8 := O8.out
          have f8 := F8.out
          have n8 := N8.out
          subst hm
          exact Elx.elem hd2.out EP.out SM6.out F6.out P6.out O6.out ((Fr.refl (fun _ => False) W6).alloc _) o8 f8 n8)
        obtain ⟨Fs9, X9⟩ := X9.out
        have X9 := Lib.hid X9
        refine abs_exit (fun W => Hid (Elx w p vb rb 5 (al ++ [v6]) ak A8 c8 K kc (css ++ [vcs k6 n6 t6 A6 l6.length c6 B6 ks6.length d6]) Fs9 r6 b6 W)) (by rw [← HM.out]; exact X9.out) ?_
        clear X9
        rintro W9 X9
        have hr6 := HR6.out
        have hla : (al ++ [v6]).length = al.length + 1 := by simp
        have c9 : W9.cell? ⟨p, 1, none⟩ = some (.bool b6) := X9.out.par.cell 1
        rcases HT6.out with ⟨h1, h2⟩ | ⟨h1, h2⟩
        case inr =>
          have HNO : Hid (ploop (f + 1) 5 93 al ak r = none) := Lib.hid (by unfold ploop; rw [HKEY.out]; dsimp only; rw [h1])
          subst h2
          clear h1
          have BR := Lib.hid X9.out.res
          have S1 := Lib.hid (show (Tryz.prog.info? 25).map (·.size) = some (vcs 0 0 [] none 0 0 none 0 0).size from lw5)
          have HO1 := Lib.hid (show (vcs 0 0 [] none 0 0 none 0 0).all (·.oneCell') = true by simp [vcs, Value.oneCell'])
          go_wp2_with (refine wpList_store_blk rfl 25 _ _ rfl rb (vcs 0 0 [] none 0 0 none 0 0) rfl rfl BR.out rfl S1.out HO1.out ?_
                       intro W9 q9 f9
                       have F9 := Lib.hid f9
                       have Q9 := Lib.hid q9
                       clear q9 f9)
          have hres := results_one (P := Tryz.prog) (fn := Tryz.f69) (p := 6) (ty := 25) Tryz.results69
          refine bodyPost_ret (v := .agg (vcs 0 0 [] none 0 0 none 0 0)) (hres _ W9 rb 25 _ _ rfl Q9.out Tryz.underlying25 rfl S1.out) rfl ?_
          obtain ⟨h2, h3⟩ := X9.out.out_ EP.out F9.out
          exact ⟨_, V.zero, r6, true, rfl, OwnV.zero _ _, Sm.flat_ (Nat.zero_le _), h2, h3, by omega, .inr ⟨HT.out.trans (hq.out.trans HNO.out), rfl⟩⟩
        case inl =>
          subst h2
          have TK9 := Lib.hid (take_c W9 p r6 [93] false X9.out.par)
          cases hc9 : cutP r6 [93] with
          | some r9 =>
            rw [hc9] at TK9
            have HYES : Hid (ploop (f + 1) 5 93 al ak r = some (.mk 5 0 [] (al ++ [v6]) ak, r9)) := Lib.hid (by unfold ploop; rw [HKEY.out]; dsimp only; rw [h1]; dsimp only; rw [hc9])
            have hr9 : r9.length + 1 ≤ r6.length := by
              have := cutP_some hc9
              rw [this]
              simp
            clear h1 hc9
            go_wp2_with fail
            refine TK9.out.mono ?_
            rintro e W10 ⟨rfl, p10, f10⟩
            have X10 : Hid (Elx w p vb rb 5 (al ++ [v6]) ak A8 c8 K kc (css ++ [vcs k6 n6 t6 A6 l6.length c6 B6 ks6.length d6]) Fs9 r9 false W10) := Lib.hid (X9.out.fr_ EP.out f10 p10)
            clear p10 f10 TK9 X9 c9
            have BA := Lib.hid (blk_all X10.out.box)
            have BR := Lib.hid X10.out.res
            have S1 := Lib.hid (show (Tryz.prog.info? 25).map (·.size) = some (vcs 5 0 [] A8 (al ++ [v6]).length c8 K ak.length kc).size from lw5)
            have HO1 := Lib.hid (show (vcs 5 0 [] A8 (al ++ [v6]).length c8 K ak.length kc).all (·.oneCell') = true by simp [vcs, Value.oneCell'])
            go_wp2_with (first
              | (refine wpList_load_val rfl 25 _ rfl vb _ rfl _ BA.out _ Tryz.underlying25 rfl S1.out ?_)
              | (refine wpList_store_blk rfl 25 _ _ rfl rb (vcs 5 0 [] A8 (al ++ [v6]).length c8 K ak.length kc) rfl rfl BR.out rfl S1.out HO1.out ?_
                 intro W9 q9 f9
                 have F9 := Lib.hid f9
                 have Q9 := Lib.hid q9
                 clear q9 f9))
            have hres := results_one (P := Tryz.prog) (fn := Tryz.f69) (p := 6) (ty := 25) Tryz.results69
            refine bodyPost_ret (v := .agg (vcs 5 0 [] A8 (al ++ [v6]).length c8 K ak.length kc)) (hres _ W9 rb 25 _ _ rfl Q9.out Tryz.underlying25 rfl S1.out) rfl ?_
            obtain ⟨h1, h2, h3⟩ := X10.out.fin EP.out ⟨by decide, by decide, by decide, by decide, Nat.zero_le _, by have := hrs; omega, by have := hrs; skip; omega, fun s hs => Nat.le_trans (X10.out.smk s hs) (by decide)⟩ F9.out
            exact ⟨_, _, r9, false, rfl, h1, Sm.mk (Nat.zero_le _) (by omega) (by skip; omega) (fun s hs => Nat.le_trans (X10.out.smk s hs) (by decide)) X10.out.sma, h2, h3, by omega, .inl ⟨HT.out.trans (hq.out.trans HYES.out), rfl⟩⟩
          | none =>
            rw [hc9] at TK9
            have TK9 := Lib.hid TK9.out
            cases hc10 : cutP r6 [44] with
            | none =>
              have HNO : Hid (ploop (f + 1) 5 93 al ak r = none) := Lib.hid (by unfold ploop; rw [HKEY.out]; dsimp only; rw [h1]; dsimp only; rw [hc9]; dsimp only; rw [hc10])
              have ND := Lib.hid (fun W h => need_c W p r6 [44] false h)
              rw [hc10] at ND
              clear h1 hc9 hc10
              go_wp2_with fail
              refine TK9.out.mono ?_
              rintro e W10 ⟨rfl, p10, f10⟩
              have X10 : Hid (Elx w p vb rb 5 (al ++ [v6]) ak A8 c8 K kc (css ++ [vcs k6 n6 t6 A6 l6.length c6 B6 ks6.length d6]) Fs9 r6 false W10) := Lib.hid (X9.out.fr_ EP.out f10 p10)
              clear p10 f10 TK9 X9 c9
              go_wp2_with fail
              refine (ND.out W10 X10.out.par).mono ?_
              rintro e W11 ⟨rfl, p11, f11⟩
              have X11 : Hid (Elx w p vb rb 5 (al ++ [v6]) ak A8 c8 K kc (css ++ [vcs k6 n6 t6 A6 l6.length c6 B6 ks6.length d6]) Fs9 r6 true W11) := Lib.hid (X10.out.fr_ EP.out f11 p11)
              clear p11 f11 X10 ND
              have BR := Lib.hid X11.out.res
              have S1 := Lib.hid (show (Tryz.prog.info? 25).map (·.size) = some (vcs 0 0 [] none 0 0 none 0 0).size from lw5)
              have HO1 := Lib.hid (show (vcs 0 0 [] none 0 0 none 0 0).all (·.oneCell') = true by simp [vcs, Value.oneCell'])
              go_wp2_with (refine wpList_store_blk rfl 25 _ _ rfl rb (vcs 0 0 [] none 0 0 none 0 0) rfl rfl BR.out rfl S1.out HO1.out ?_
                           intro W9 q9 f9
                           have F9 := Lib.hid f9
                           have Q9 := Lib.hid q9
                           clear q9 f9)
              have hres := results_one (P := Tryz.prog) (fn := Tryz.f69) (p := 6) (ty := 25) Tryz.results69
              refine bodyPost_ret (v := .agg (vcs 0 0 [] none 0 0 none 0 0)) (hres _ W9 rb 25 _ _ rfl Q9.out Tryz.underlying25 rfl S1.out) rfl ?_
              obtain ⟨h2, h3⟩ := X11.out.out_ EP.out F9.out
              exact ⟨_, V.zero, r6, true, rfl, OwnV.zero _ _, Sm.flat_ (Nat.zero_le _), h2, h3, by omega, .inr ⟨HT.out.trans (hq.out.trans HNO.out), rfl⟩⟩
            | some r9 =>
              have HGO : Hid (ploop (f + 1) 5 93 al ak r = ploop f 5 93 (al ++ [v6]) ak r9) := Lib.hid (by rw [ploop]; rw [HKEY.out]; dsimp only; rw [h1]; dsimp only; rw [hc9]; dsimp only; rw [hc10])
              have hr9 : r9.length + 1 ≤ r6.length := by
                have := cutP_some hc10
                rw [this]
                simp
              have ND := Lib.hid (fun W h => need_c W p r6 [44] false h)
              rw [hc10] at ND
              clear h1 hc9 hc10
              go_wp2_with fail
              refine TK9.out.mono ?_
              rintro e W10 ⟨rfl, p10, f10⟩
              have X10 : Hid (Elx w p vb rb 5 (al ++ [v6]) ak A8 c8 K kc (css ++ [vcs k6 n6 t6 A6 l6.length c6 B6 ks6.length d6]) Fs9 r6 false W10) := Lib.hid (X9.out.fr_ EP.out f10 p10)
              clear p10 f10 TK9 X9 c9
              go_wp2_with fail
              refine (ND.out W10 X10.out.par).mono ?_
              rintro e W11 ⟨rfl, p11, f11⟩
              have X11 : Hid (Elx w p vb rb 5 (al ++ [v6]) ak A8 c8 K kc (css ++ [vcs k6 n6 t6 A6 l6.length c6 B6 ks6.length d6]) Fs9 r9 false W11) := Lib.hid (X10.out.fr_ EP.out f11 p11)
              clear p11 f11 X10 ND
              go_wp2_with fail
              go_roundw
              case rel => exact ⟨al ++ [v6], ak, A8, c8, K, kc, _, Fs9, r9, f, by omega, by skip; omega, by omega, by omega, hq.out.trans HGO.out, X11.out⟩
              case measure =>
                rw [msr_of X11.out.par, HMS.out]
                omega
set_option maxRecDepth 100000 in
set_option maxHeartbeats 16000000 in
theorem els6_c (w : World) (p : Nat) (s : List UInt8) (hs : s.length ≤ 1000) (hp : Blk w p 66 (pcs s false)) (hL : LaidOk w) (h8 : 8 ≤ p) (ih : PIH p s.length) (f : Nat) (hf : 3 * s.length + 3 ≤ f) :
    Calls Tryz.prog 69 #[.pointer (some ⟨p, 0, none⟩), .int .i64 6, .string (strOf [125])] w (PvQ (pel f 6 125 s) p s w) := by
  have hplt := hp.lt
  have HP := Lib.hid hp
  have HL := Lib.hid hL
  have IH := Lib.hid ih
  have hL8 := hL.size
  obtain ⟨i0, hi0, hz0', hz1', hz2'⟩ := info_parts v_info
  have HI0 := Lib.hid hi0
  obtain ⟨j0, hj0, jz0', jz1', jz2'⟩ := info_parts s_info
  have HJ0 := Lib.hid hj0
  obtain ⟨f1, rfl⟩ : ∃ f1, f = f1 + 1 := ⟨f - 1, by omega⟩
  clear hp hL ih hi0 hj0
  go_enter Tryz.func69, Tryz.ntmps69
  go_upto_region 1 with fail
  refine abs_world (fun W => Hid (Blk W w.heap.size 25 (vcs 0 0 [] none 0 0 none 0 0)) ∧ Hid (Blk W p 66 (pcs s false)) ∧ Hid (Fr (fun _ => False) w W) ∧ W.heap.size = w.heap.size + 1) ⟨Blk.new w _ _, HP.out.alloc _, (Fr.refl _ w).alloc _, by simp⟩ ?_
  rintro W0 ⟨R0, P0, F0, S0⟩
  obtain ⟨rb, hrb⟩ : ∃ rb, w.heap.size = rb := ⟨_, rfl⟩
  have HRB := Lib.hid hrb
  rw [hrb] at R0 hplt S0 ⊢
  clear hrb
  go_step3
  go_upto_region 2 with fail
  have BN := Lib.hid (S0 ▸ Blk.new W0 25 (vcs 6 0 [] none 0 0 none 0 0))
  refine abs_world (fun W => Hid (Blk W rb 25 (vcs 0 0 [] none 0 0 none 0 0)) ∧ Hid (Blk W (rb + 1) 25 (vcs 6 0 [] none 0 0 none 0 0)) ∧ Hid (Blk W p 66 (pcs s false)) ∧ Hid (Fr (fun _ => False) w W)) ⟨R0.out.alloc _, BN.out, P0.out.alloc _, F0.out.alloc _⟩ ?_
  rintro W1 ⟨R1, B1, P1, F1⟩
  clear BN
  obtain ⟨vb, hvb⟩ : ∃ vb, rb + 1 = vb := ⟨_, rfl⟩
  rw [hvb] at B1 ⊢
  have EP : Hid (Elp w p vb rb) := Lib.hid ⟨HRB.out, hvb, hplt, h8⟩
  have X1 : Hid (Elx w p vb rb 6 [] [] none 0 none 0 [] (fun _ _ => False) s false W1) := Lib.hid ⟨OwnL.nil _ _, World.ownsRow_nil _ _ _ _, fun i q hi => absurd hi (by simp), B1.out, R1.out, P1.out, F1.out.mono (fun _ _ h => h.elim), HL.out.far F1.out, fun x h => by (cases h), fun x h => by (cases h)⟩
  have s1 := B1.out.lt
  have HVB := Lib.hid hvb
  clear hvb hplt R0 P0 F0 S0 R1 B1 P1 F1
  have TK := Lib.hid (take_c W1 p s [125] false X1.out.par)
  cases hc : cutP s [125] with
  | some r0 =>
    rw [hc] at TK
    have HT : Hid (pel (f1 + 1) 6 125 s = some (.mk 6 0 [] [] [], r0)) := Lib.hid (by unfold pel; rw [hc])
    have hr0 : r0.length ≤ s.length := by
      have := cutP_some hc
      rw [this]
      simp
    clear hc
    go_wp2_with fail
    refine TK.out.mono ?_
    rintro e W2 ⟨rfl, p2, f2⟩
    have X2 : Hid (Elx w p vb rb 6 [] [] none 0 none 0 [] (fun _ _ => False) r0 false W2) := Lib.hid (X1.out.fr_ EP.out f2 p2)
    clear p2 f2 TK X1
    have BA := Lib.hid (blk_all X2.out.box)
    have BR := Lib.hid X2.out.res
    have S1 := Lib.hid (show (Tryz.prog.info? 25).map (·.size) = some (vcs 6 0 [] none ([] : List V).length 0 none ([] : List (List UInt8)).length 0).size from lw5)
    have HO1 := Lib.hid (show (vcs 6 0 [] none ([] : List V).length 0 none ([] : List (List UInt8)).length 0).all (·.oneCell') = true by simp [vcs, Value.oneCell'])
    go_wp2_with (first
      | (refine wpList_load_val rfl 25 _ rfl vb _ rfl _ BA.out _ Tryz.underlying25 rfl S1.out ?_)
      | (refine wpList_store_blk rfl 25 _ _ rfl rb (vcs 6 0 [] none ([] : List V).length 0 none ([] : List (List UInt8)).length 0) rfl rfl BR.out rfl S1.out HO1.out ?_
         intro W9 q9 f9
         have F9 := Lib.hid f9
         have Q9 := Lib.hid q9
         clear q9 f9))
    have hres := results_one (P := Tryz.prog) (fn := Tryz.f69) (p := 6) (ty := 25) Tryz.results69
    refine bodyPost_ret (v := .agg (vcs 6 0 [] none ([] : List V).length 0 none ([] : List (List UInt8)).length 0)) (hres _ W9 rb 25 _ _ rfl Q9.out Tryz.underlying25 rfl S1.out) rfl ?_
    obtain ⟨h1, h2, h3⟩ := X2.out.fin EP.out ⟨by decide, by decide, by decide, by decide, Nat.zero_le _, Nat.zero_le _, Nat.zero_le _, fun _ h => by cases h⟩ F9.out
    exact ⟨_, _, r0, false, rfl, h1, Sm.flat_ (Nat.zero_le _), h2, h3, by omega, .inl ⟨HT.out, rfl⟩⟩
  | none =>
    rw [hc] at TK
    have HT : Hid (pel (f1 + 1) 6 125 s = ploop f1 6 125 [] [] s) := Lib.hid (by unfold pel; rw [hc])
    clear hc
    go_wp2_with fail
    refine TK.out.mono ?_
    rintro e W2 ⟨rfl, p2, f2⟩
    have X2 : Hid (Elx w p vb rb 6 [] [] none 0 none 0 [] (fun _ _ => False) s false W2) := Lib.hid (X1.out.fr_ EP.out f2 p2)
    clear p2 f2 TK X1
    go_wp2_with fail
    go_step3
    go_wp2_with fail
    go_loopw [14] (fun kv wr => ∃ (al : List V) (ak : List (List UInt8)) (A : Option Addr) (c : Nat) (K : Option Addr) (kc : Nat) (css : List (Array Value)) (Fs : Nat → Nat → Prop) (r : List UInt8) (f : Nat), al.length + r.length ≤ 1000 ∧ ak.length ≤ al.length ∧ r.length ≤ s.length ∧ 3 * r.length + 2 ≤ f ∧ Hid (ploop f1 6 125 [] [] s = ploop f 6 125 al ak r) ∧ Hid (Elx w p vb rb 6 al ak A c K kc css Fs r false wr)) (fun _ wr => msr p wr)
    case atStart => exact ⟨[], [], none, 0, none, 0, [], _, s, f1, by simp; omega, Nat.le_refl _, Nat.le_refl _, by omega, rfl, X2.out⟩
    case round =>
      obtain ⟨al, ak, A, c, K, kc, css, Fs, r, f, hal, hak, hrs, hfr, hq, hx⟩ := hrel
      have hms : msr p wr = r.length := msr_of hx.out.par
      have HMS := Lib.hid hms
      obtain ⟨f, rfl⟩ : ∃ f', f = f' + 1 := ⟨f - 1, by omega⟩
      clear hms X2
      have PQ := Lib.hid (pquoted_c wr.drew p r (by omega) hx.out.par.drew)
      have hd := Lib.hid (hx.out.far EP.out ((Fr.refl (fun _ => False) wr).drew))
      obtain ⟨n, hn⟩ : ∃ n, ak.length = n := ⟨_, rfl⟩
      have HN := Lib.hid hn
      have c4 : wr.cell? ⟨vb, 4, none⟩ = some (.slice K n kc) := hn ▸ hx.out.box.cell 4
      have hn1000 : n ≤ 1000 := by omega
      clear hn
      go_upto_region 5 with fail
      go_region_law (first
        | (go_simp
           go_at_call 71
           refine PQ.out.mono ?_
           rintro e W2 ⟨a, r1, b1, rfl, p2, f2, hr1, ha1, ht⟩
           have X2 := Lib.hid (hd.out.fr_ EP.out f2 p2)
           have HT2 := Lib.hid ht
           have HR1 := Lib.hid hr1
           have HA1 := Lib.hid ha1
           have KO : Hid (∀ o, (W2.alloc o).ownsRow (vb + 1) 9 1 (.slice K n kc) n (strs ak)) := Lib.hid (fun o => HN.out ▸ own_fr X2.out.keys ((Fr.refl (fun _ => False) W2).alloc o) (fun _ _ h => h))
           have z4 : W2.cell? ⟨vb, 4, none⟩ = some (.slice K n kc) := HN.out ▸ X2.out.box.cell 4
           have z5 : ∀ o, (W2.alloc o).cell? ⟨vb, 4, none⟩ = some (.slice K n kc) := fun o => HN.out ▸ (X2.out.box.alloc o).cell 4
           have zs := Nat.succ_le_of_lt X2.out.box.lt
           clear p2 f2 hr1 ha1 ht)
        | (refine oper_app_p rfl (.tmp 17) (.tmp 20) _ _ rfl (vb + 1) 9 j0 _ 1 16 Tryz.underlying23 HJ0.out jz0' jz1' jz2' rfl _ n (strs ak) (by simp [Act.eval, Act.put]) (KO.out _) _ 1 _ (by simp [Act.eval, Act.put]) (src_s (Blk.new W2 9 _)) (by omega) (by unfold maxLen; omega) (by simp only [World.size_alloc]; omega) ?_
           intro v4 W4 o4 f4 n4
           obtain ⟨K4, kc4, rfl, -, -⟩ := own_slice o4
           have O4 := Lib.hid o4
           have F4 := Lib.hid f4
           have N4 := Lib.hid n4
           have y4 : W4.frozen? ⟨vb, 4, none⟩ = false := (Blk.fr (X2.out.box.alloc _) f4 (fun he => by
             have := (X2.out.keys.lt vb (HN.out.symm ▸ he)).1
             omega)).frozen 4
           have y5 : W4.cell? ⟨vb, 4, none⟩ = some (.slice K n kc) := HN.out ▸ (Blk.fr (X2.out.box.alloc _) f4 (fun he => by
             have := (X2.out.keys.lt vb (HN.out.symm ▸ he)).1
             omega)).cell 4
           clear o4 f4 n4))
      all_goals
        have X5 := Lib.hid (by
          have hn := HN.out
          have o4 := O4.out
          have f4 := F4.out
          have n4 := N4.out
          subst hn
          exact Elx.key X2.out EP.out (Nat.le_trans HA1.out (by omega)) ((Fr.refl (fun _ => False) W2).alloc _) o4 f4 n4)
        refine abs_exit (fun W => Hid (Elx w p vb rb 6 al (ak ++ [a]) A c K4 kc4 css Fs r1 b1 W)) (by rw [← HN.out]; exact X5.out) ?_
        clear X5
        rintro W5 X5
        have hr1 := HR1.out
        have hlk : (ak ++ [a]).length = ak.length + 1 := by simp
        have ND5 := Lib.hid (need_c W5 p r1 [58] b1 X5.out.par)
        clear X2 PQ hd z4 z5 zs KO O4 F4 N4 y4 y5 c4 HN hn1000
        rcases HT2.out with ⟨h1, h2⟩ | ⟨h1, h2⟩
        case inr =>
          have HNO : Hid (ploop (f + 1) 6 125 al ak r = none) := Lib.hid (by unfold ploop pKey; rw [if_pos rfl, h1])
          subst h2
          clear h1
          go_wp2_with fail
          refine ND5.out.mono ?_
          rintro e W6 ⟨rfl, p6, f6⟩
          have X6 : Hid (Elx w p vb rb 6 al (ak ++ [a]) A c K4 kc4 css Fs ((cutP r1 [58]).getD r1) true W6) := Lib.hid (X5.out.fr_ EP.out f6 p6)
          have hg : ((cutP r1 [58]).getD r1).length ≤ r1.length := by
            cases hc : cutP r1 [58] with
            | none => exact Nat.le_refl _
            | some r2 =>
              have := cutP_some hc
              rw [this]
              simp
          generalize ((cutP r1 [58]).getD r1) = r2 at X6 hg
          have c6 : W6.cell? ⟨p, 1, none⟩ = some (.bool true) := X6.out.par.cell 1
          clear p6 f6 ND5 X5
          have BR := Lib.hid X6.out.res
          have S1 := Lib.hid (show (Tryz.prog.info? 25).map (·.size) = some (vcs 0 0 [] none 0 0 none 0 0).size from lw5)
          have HO1 := Lib.hid (show (vcs 0 0 [] none 0 0 none 0 0).all (·.oneCell') = true by simp [vcs, Value.oneCell'])
          go_wp2_with (refine wpList_store_blk rfl 25 _ _ rfl rb (vcs 0 0 [] none 0 0 none 0 0) rfl rfl BR.out rfl S1.out HO1.out ?_
                       intro W9 q9 f9
                       have F9 := Lib.hid f9
                       have Q9 := Lib.hid q9
                       clear q9 f9)
          have hres := results_one (P := Tryz.prog) (fn := Tryz.f69) (p := 6) (ty := 25) Tryz.results69
          refine bodyPost_ret (v := .agg (vcs 0 0 [] none 0 0 none 0 0)) (hres _ W9 rb 25 _ _ rfl Q9.out Tryz.underlying25 rfl S1.out) rfl ?_
          obtain ⟨h2, h3⟩ := X6.out.out_ EP.out F9.out
          exact ⟨_, V.zero, r2, true, rfl, OwnV.zero _ _, Sm.flat_ (Nat.zero_le _), h2, h3, by omega, .inr ⟨HT.out.trans (hq.out.trans HNO.out), rfl⟩⟩
        case inl =>
          subst h2
          cases hc5 : cutP r1 [58] with
          | none =>
            have HNO : Hid (ploop (f + 1) 6 125 al ak r = none) := Lib.hid (by unfold ploop pKey; rw [if_pos rfl, h1]; dsimp only; rw [hc5])
            rw [hc5] at ND5
            clear h1 hc5
            go_wp2_with fail
            refine ND5.out.mono ?_
            rintro e W6 ⟨rfl, p6, f6⟩
            have X6 : Hid (Elx w p vb rb 6 al (ak ++ [a]) A c K4 kc4 css Fs r1 true W6) := Lib.hid (X5.out.fr_ EP.out f6 p6)
            have c6 : W6.cell? ⟨p, 1, none⟩ = some (.bool true) := X6.out.par.cell 1
            clear p6 f6 ND5 X5
            have BR := Lib.hid X6.out.res
            have S1 := Lib.hid (show (Tryz.prog.info? 25).map (·.size) = some (vcs 0 0 [] none 0 0 none 0 0).size from lw5)
            have HO1 := Lib.hid (show (vcs 0 0 [] none 0 0 none 0 0).all (·.oneCell') = true by simp [vcs, Value.oneCell'])
            go_wp2_with (refine wpList_store_blk rfl 25 _ _ rfl rb (vcs 0 0 [] none 0 0 none 0 0) rfl rfl BR.out rfl S1.out HO1.out ?_
                         intro W9 q9 f9
                         have F9 := Lib.hid f9
                         have Q9 := Lib.hid q9
                         clear q9 f9)
            have hres := results_one (P := Tryz.prog) (fn := Tryz.f69) (p := 6) (ty := 25) Tryz.results69
            refine bodyPost_ret (v := .agg (vcs 0 0 [] none 0 0 none 0 0)) (hres _ W9 rb 25 _ _ rfl Q9.out Tryz.underlying25 rfl S1.out) rfl ?_
            obtain ⟨h2, h3⟩ := X6.out.out_ EP.out F9.out
            exact ⟨_, V.zero, r1, true, rfl, OwnV.zero _ _, Sm.flat_ (Nat.zero_le _), h2, h3, by omega, .inr ⟨HT.out.trans (hq.out.trans HNO.out), rfl⟩⟩
          | some r2 =>
            have HKEY : Hid (pKey 6 ak r = some (ak ++ [a], r2)) := Lib.hid (by unfold pKey; rw [if_pos rfl, h1]; dsimp only; rw [hc5])
            have hr2 : r2.length + 1 ≤ r1.length := by
              have := cutP_some hc5
              rw [this]
              simp
            rw [hc5] at ND5
            clear h1 hc5
            go_wp2_with fail
            refine ND5.out.mono ?_
            rintro e W6 ⟨rfl, p6, f6⟩
            have X7 : Hid (Elx w p vb rb 6 al (ak ++ [a]) A c K4 kc4 css Fs r2 false W6) := Lib.hid (X5.out.fr_ EP.out f6 p6)
            have c6 : W6.cell? ⟨p, 1, none⟩ = some (.bool false) := X7.out.par.cell 1
            clear p6 f6 ND5 X5
            go_upto_region 8 with fail
            clear c6
            refine abs_world (fun W => Hid (Elx w p vb rb 6 al (ak ++ [a]) A c K4 kc4 css Fs r2 false W)) X7 ?_
            clear X7 HT2 HR1 HA1
            rintro W7 X7
            have PV := Lib.hid (IH.out r2 (by omega) W7.drew f X7.out.par.drew (X7.out.laid.far ((Fr.refl (fun _ => False) W7).drew)) (by omega))
            have hd2 := Lib.hid (X7.out.far EP.out ((Fr.refl (fun _ => False) W7).drew))
            obtain ⟨m, hm⟩ : ∃ m, al.length = m := ⟨_, rfl⟩
            have HM := Lib.hid hm
            have c3 : W7.cell? ⟨vb, 3, none⟩ = some (.slice A m c) := hm ▸ X7.out.box.cell 3
            have hm1000 : m ≤ 1000 := by omega
            clear hm
            go_upto_region 8 with fail
            go_region_law (first
              | (go_simp
                 go_at_call 49
                 refine PV.out.mono ?_
                 rintro e W6 ⟨C6, v6, r6, b6, rfl, o6, sm6, p6, f6, hr6, ht6⟩
                 obtain ⟨k6, n6, t6, l6, ks6, A6, c6, B6, d6, cs6, Fs6, e6, rfl, -⟩ := o6.inv
                 have X6 := Lib.hid (hd2.out.fr_ EP.out f6 p6)
                 have O6 := Lib.hid o6
                 have SM6 := Lib.hid sm6
                 have P6 := Lib.hid p6
                 have F6 := Lib.hid f6
                 have HR6 := Lib.hid hr6
                 have HT6 := Lib.hid ht6
                 have N6 := Lib.hid o6.rd.one
                 have E6 := Lib.hid e6
                 have KO6 : Hid (∀ o, (W6.alloc o).ownsRow 0 25 5 (.slice A m c) m (flat css)) := Lib.hid (fun o => HM.out ▸ own_fr X6.out.row.row ((Fr.refl (fun _ => False) W6).alloc o) (fun _ _ h => h))
                 have x4 : W6.cell? ⟨vb, 3, none⟩ = some (.slice A m c) := HM.out ▸ X6.out.box.cell 3
                 have x5 : ∀ o, (W6.alloc o).cell? ⟨vb, 3, none⟩ = some (.slice A m c) := fun o => HM.out ▸ (X6.out.box.alloc o).cell 3
                 clear o6 sm6 p6 f6 hr6 ht6 e6)
              | (refine oper_app_p rfl (.tmp 30) (.tmp 33) _ _ rfl 0 25 i0 _ 5 80 Tryz.underlying22 HI0.out hz0' hz1' hz2' rfl _ m (flat css) (by simp [Act.eval, Act.put]) (KO6.out _) _ 1 _ (by simp [Act.eval, Act.put]) (Src.one (Blk.rng (Blk.new W6 25 (vcs k6 n6 t6 A6 l6.length c6 B6 ks6.length d6))) rfl N6.out) (by omega) (by unfold maxLen; omega) (Nat.zero_le _) ?_
                 intro v8 W8 o8 f8 n8
                 obtain ⟨A8, c8, rfl, -, -⟩ := own_slice o8
                 have O8 := Lib.hid o8
                 have F8 := Lib.hid f8
                 have N8 := Lib.hid n8
                 have y6 : W8.frozen? ⟨vb, 3, none⟩ = false := (Blk.fr (X6.out.box.alloc _) f8 (fun he => by
                   have := (X6.out.row.rf vb (HM.out.symm ▸ he)).1
                   omega)).frozen 3
                 have y7 : W8.cell? ⟨vb, 3, none⟩ = some (.slice A m c) := HM.out ▸ (Blk.fr (X6.out.box.alloc _) f8 (fun he => by
                   have := (X6.out.row.rf vb (HM.out.symm ▸ he)).1
                   omega)).cell 3
                 clear o8 f8 n8))
            all_goals
              have X9 := Lib.hid (by
                have hm := HM.out
                have o8 := O8.out
                have f8 := F8.out
                have n8 := N8.out
                subst hm
                exact Elx.elem hd2.out EP.out SM6.out F6.out P6.out O6.out ((Fr.refl (fun _ => False) W6).alloc _) o8 f8 n8)
              obtain ⟨Fs9, X9⟩ := X9.out
              have X9 := Lib.hid X9
              refine abs_exit (fun W => Hid (Elx w p vb rb 6 (al ++ [v6]) (ak ++ [a]) A8 c8 K4 kc4 (css ++ [vcs k6 n6 t6 A6 l6.length c6 B6 ks6.length d6]) Fs9 r6 b6 W)) (by rw [← HM.out]; exact X9.out) ?_
              clear X9
              rintro W9 X9
              have hr6 := HR6.out
              have hla : (al ++ [v6]).length = al.length + 1 := by simp
              have c9 : W9.cell? ⟨p, 1, none⟩ = some (.bool b6) := X9.out.par.cell 1
              rcases HT6.out with ⟨h1, h2⟩ | ⟨h1, h2⟩
              case inr =>
                have HNO : Hid (ploop (f + 1) 6 125 al ak r = none) := Lib.hid (by unfold ploop; rw [HKEY.out]; dsimp only; rw [h1])
                subst h2
                clear h1
                have BR := Lib.hid X9.out.res
                have S1 := Lib.hid (show (Tryz.prog.info? 25).map (·.size) = some (vcs 0 0 [] none 0 0 none 0 0).size from lw5)
                have HO1 := Lib.hid (show (vcs 0 0 [] none 0 0 none 0 0).all (·.oneCell') = true by simp [vcs, Value.oneCell'])
                go_wp2_with (refine wpList_store_blk rfl 25 _ _ rfl rb (vcs 0 0 [] none 0 0 none 0 0) rfl rfl BR.out rfl S1.out HO1.out ?_
                             intro W9 q9 f9
                             have F9 := Lib.hid f9
                             have Q9 := Lib.hid q9
                             clear q9 f9)
                have hres := results_one (P := Tryz.prog) (fn := Tryz.f69) (p := 6) (ty := 25) Tryz.results69
                refine bodyPost_ret (v := .agg (vcs 0 0 [] none 0 0 none 0 0)) (hres _ W9 rb 25 _ _ rfl Q9.out Tryz.underlying25 rfl S1.out) rfl ?_
                obtain ⟨h2, h3⟩ := X9.out.out_ EP.out F9.out
                exact ⟨_, V.zero, r6, true, rfl, OwnV.zero _ _, Sm.flat_ (Nat.zero_le _), h2, h3, by omega, .inr ⟨HT.out.trans (hq.out.trans HNO.out), rfl⟩⟩
              case inl =>
                subst h2
                have TK9 := Lib.hid (take_c W9 p r6 [125] false X9.out.par)
                cases hc9 : cutP r6 [125] with
                | some r9 =>
                  rw [hc9] at TK9
                  have HYES : Hid (ploop (f + 1) 6 125 al ak r = some (.mk 6 0 [] (al ++ [v6]) (ak ++ [a]), r9)) := Lib.hid (by unfold ploop; rw [HKEY.out]; dsimp only; rw [h1]; dsimp only; rw [hc9])
                  have hr9 : r9.length + 1 ≤ r6.length := by
                    have := cutP_some hc9
                    rw [this]
                    simp
                  clear h1 hc9
                  go_wp2_with fail
                  refine TK9.out.mono ?_
                  rintro e W10 ⟨rfl, p10, f10⟩
                  have X10 : Hid (Elx w p vb rb 6 (al ++ [v6]) (ak ++ [a]) A8 c8 K4 kc4 (css ++ [vcs k6 n6 t6 A6 l6.length c6 B6 ks6.length d6]) Fs9 r9 false W10) := Lib.hid (X9.out.fr_ EP.out f10 p10)
                  clear p10 f10 TK9 X9 c9
                  have BA := Lib.hid (blk_all X10.out.box)
                  have BR := Lib.hid X10.out.res
                  have S1 := Lib.hid (show (Tryz.prog.info? 25).map (·.size) = some (vcs 6 0 [] A8 (al ++ [v6]).length c8 K4 (ak ++ [a]).length kc4).size from lw5)
                  have HO1 := Lib.hid (show (vcs 6 0 [] A8 (al ++ [v6]).length c8 K4 (ak ++ [a]).length kc4).all (·.oneCell') = true by simp [vcs, Value.oneCell'])
                  go_wp2_with (first
                    | (refine wpList_load_val rfl 25 _ rfl vb _ rfl _ BA.out _ Tryz.underlying25 rfl S1.out ?_)
                    | (refine wpList_store_blk rfl 25 _ _ rfl rb (vcs 6 0 [] A8 (al ++ [v6]).length c8 K4 (ak ++ [a]).length kc4) rfl rfl BR.out rfl S1.out HO1.out ?_
                       intro W9 q9 f9
                       have F9 := Lib.hid f9
                       have Q9 := Lib.hid q9
                       clear q9 f9))
                  have hres := results_one (P := Tryz.prog) (fn := Tryz.f69) (p := 6) (ty := 25) Tryz.results69
                  refine bodyPost_ret (v := .agg (vcs 6 0 [] A8 (al ++ [v6]).length c8 K4 (ak ++ [a]).length kc4)) (hres _ W9 rb 25 _ _ rfl Q9.out Tryz.underlying25 rfl S1.out) rfl ?_
                  obtain ⟨h1, h2, h3⟩ := X10.out.fin EP.out ⟨by decide, by decide, by decide, by decide, Nat.zero_le _, by have := hrs; omega, by have := hrs; rw [hlk]; omega, fun s hs => Nat.le_trans (X10.out.smk s hs) (by decide)⟩ F9.out
                  exact ⟨_, _, r9, false, rfl, h1, Sm.mk (Nat.zero_le _) (by omega) (by rw [hlk]; omega) (fun s hs => Nat.le_trans (X10.out.smk s hs) (by decide)) X10.out.sma, h2, h3, by omega, .inl ⟨HT.out.trans (hq.out.trans HYES.out), rfl⟩⟩
                | none =>
                  rw [hc9] at TK9
                  have TK9 := Lib.hid TK9.out
                  cases hc10 : cutP r6 [44] with
                  | none =>
                    have HNO : Hid (ploop (f + 1) 6 125 al ak r = none) := Lib.hid (by unfold ploop; rw [HKEY.out]; dsimp only; rw [h1]; dsimp only; rw [hc9]; dsimp only; rw [hc10])
                    have ND := Lib.hid (fun W h => need_c W p r6 [44] false h)
                    rw [hc10] at ND
                    clear h1 hc9 hc10
                    go_wp2_with fail
                    refine TK9.out.mono ?_
                    rintro e W10 ⟨rfl, p10, f10⟩
                    have X10 : Hid (Elx w p vb rb 6 (al ++ [v6]) (ak ++ [a]) A8 c8 K4 kc4 (css ++ [vcs k6 n6 t6 A6 l6.length c6 B6 ks6.length d6]) Fs9 r6 false W10) := Lib.hid (X9.out.fr_ EP.out f10 p10)
                    clear p10 f10 TK9 X9 c9
                    go_wp2_with fail
                    refine (ND.out W10 X10.out.par).mono ?_
                    rintro e W11 ⟨rfl, p11, f11⟩
                    have X11 : Hid (Elx w p vb rb 6 (al ++ [v6]) (ak ++ [a]) A8 c8 K4 kc4 (css ++ [vcs k6 n6 t6 A6 l6.length c6 B6 ks6.length d6]) Fs9 r6 true W11) := Lib.hid (X10.out.fr_ EP.out f11 p11)
                    clear p11 f11 X10 ND
                    have BR := Lib.hid X11.out.res
                    have S1 := Lib.hid (show (Tryz.prog.info? 25).map (·.size) = some (vcs 0 0 [] none 0 0 none 0 0).size from lw5)
                    have HO1 := Lib.hid (show (vcs 0 0 [] none 0 0 none 0 0).all (·.oneCell') = true by simp [vcs, Value.oneCell'])
                    go_wp2_with (refine wpList_store_blk rfl 25 _ _ rfl rb (vcs 0 0 [] none 0 0 none 0 0) rfl rfl BR.out rfl S1.out HO1.out ?_
                                 intro W9 q9 f9
                                 have F9 := Lib.hid f9
                                 have Q9 := Lib.hid q9
                                 clear q9 f9)
                    have hres := results_one (P := Tryz.prog) (fn := Tryz.f69) (p := 6) (ty := 25) Tryz.results69
                    refine bodyPost_ret (v := .agg (vcs 0 0 [] none 0 0 none 0 0)) (hres _ W9 rb 25 _ _ rfl Q9.out Tryz.underlying25 rfl S1.out) rfl ?_
                    obtain ⟨h2, h3⟩ := X11.out.out_ EP.out F9.out
                    exact ⟨_, V.zero, r6, true, rfl, OwnV.zero _ _, Sm.flat_ (Nat.zero_le _), h2, h3, by omega, .inr ⟨HT.out.trans (hq.out.trans HNO.out), rfl⟩⟩
                  | some r9 =>
                    have HGO : Hid (ploop (f + 1) 6 125 al ak r = ploop f 6 125 (al ++ [v6]) (ak ++ [a]) r9) := Lib.hid (by rw [ploop]; rw [HKEY.out]; dsimp only; rw [h1]; dsimp only; rw [hc9]; dsimp only; rw [hc10])
                    have hr9 : r9.length + 1 ≤ r6.length := by
                      have := cutP_some hc10
                      rw [this]
                      simp
                    have ND := Lib.hid (fun W h => need_c W p r6 [44] false h)
                    rw [hc10] at ND
                    clear h1 hc9 hc10
                    go_wp2_with fail
                    refine TK9.out.mono ?_
                    rintro e W10 ⟨rfl, p10, f10⟩
                    have X10 : Hid (Elx w p vb rb 6 (al ++ [v6]) (ak ++ [a]) A8 c8 K4 kc4 (css ++ [vcs k6 n6 t6 A6 l6.length c6 B6 ks6.length d6]) Fs9 r6 false W10) := Lib.hid (X9.out.fr_ EP.out f10 p10)
                    clear p10 f10 TK9 X9 c9
                    go_wp2_with fail
                    refine (ND.out W10 X10.out.par).mono ?_
                    rintro e W11 ⟨rfl, p11, f11⟩
                    have X11 : Hid (Elx w p vb rb 6 (al ++ [v6]) (ak ++ [a]) A8 c8 K4 kc4 (css ++ [vcs k6 n6 t6 A6 l6.length c6 B6 ks6.length d6]) Fs9 r9 false W11) := Lib.hid (X10.out.fr_ EP.out f11 p11)
                    clear p11 f11 X10 ND
                    go_wp2_with fail
                    go_roundw
                    case rel => exact ⟨al ++ [v6], (ak ++ [a]), A8, c8, K4, kc4, _, Fs9, r9, f, by omega, by rw [hlk]; omega, by omega, by omega, hq.out.trans HGO.out, X11.out⟩
                    case measure =>
                      rw [msr_of X11.out.par, HMS.out]
                      omega
end Go.Proofs.YtnkfkicabgajmaaGreatDoor
