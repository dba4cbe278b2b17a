/-
  KeysTwo.
-/
import Derived.Test.YtillifkilkjpdaaDoorTwo1
namespace Go.Proofs.YtillifkilkjpdaaDoor
set_option linter.unusedSimpArgs false
set_option linter.unusedVariables false
open Go Go.RowKit

theorem IX.up {w w' : World} {B g : Nat} {v : Value} {m : Ents} (F : Fr (fun _ => False) w w') (hx : IX w' B g v m) (hB : w.heap.size ≤ B) {w2 : World} (h : Fr (fun k => k = g ∨ v.ownBlock = some k) w' w2) : Fr (fun _ => False) w w2 :=
  F.trans h (fun k hk e => by
    rcases e with e | e
    · have := hx.base; omega
    · have := (World.ownsRow.lt hx.own k e).1; omega)

theorem IX.drew {w : World} {B g : Nat} {v : Value} {m : Ents} (h : IX w B g v m) : IX w.drew B g v m := h.far ((Fr.refl _ w).drew)
set_option maxRecDepth 100000 in
set_option maxHeartbeats 2000000 in
theorem keysTwo_c (w : World) (A A' : Option Addr) (n n' c c' : Nat) (l m : List Ac) (hr : RdA w A n l) (hl : l.length = n) (hn : n ≤ 140737488355328) (hok : ∀ a ∈ l, a.Ok) (hr' : RdA w A' n' m) (hl' : m.length = n') (hn' : n' ≤ 140737488355328) (hok' : ∀ a ∈ m, a.Ok) (htab : TabOk w) :
    Calls Tryd.prog 8 #[.slice A n c, .slice A' n' c'] w fun e w' => e = .returned (.bool true) ∧ Fr (fun _ => False) w w' := by
  have HR := Lib.hid hr
  have HL := Lib.hid hl
  have HOK := Lib.hid hok
  have HR' := Lib.hid hr'
  have HL' := Lib.hid hl'
  have HOK' := Lib.hid hok'
  have HT := Lib.hid htab
  clear hr hl hok hr' hl' hok' htab
  go_enter Tryd.func8, Tryd.ntmps8
  go_wp2_with fail
  refine (long_c w A n c l HR.out HL.out hn HOK.out).mono ?_
  rintro e w1 ⟨⟨b1, rfl, hb1⟩, f1⟩
  have HB1 := Lib.hid hb1
  have F1 := Lib.hid f1
  clear hb1 f1
  cases b1 with
  | true =>
    go_wp2_with fail
    refine (awake_c w1 (HT.out.far F1.out)).mono ?_
    rintro e wz ⟨rfl, fz⟩
    have FZ := Lib.hid (F1.out.trans fz (fun _ _ h => h))
    clear fz
    go_wp2_with fail
    go_ret
    exact ⟨rfl, FZ.out⟩
  | false =>
    have hn4 : n ≤ 400 := HB1.out rfl
    clear HB1
    go_wp2_with fail
    refine (long_c w1 A' n' c' m (HR'.out.far F1.out) HL'.out hn' HOK'.out).mono ?_
    rintro e w2 ⟨⟨b2, rfl, hb2⟩, f2⟩
    have HB2 := Lib.hid hb2
    have F2 := Lib.hid (F1.out.trans f2 (fun _ _ h => h))
    clear hb2 f2 F1
    cases b2 with
    | true =>
      go_wp2_with fail
      refine (awake_c w2 (HT.out.far F2.out)).mono ?_
      rintro e wz ⟨rfl, fz⟩
      have FZ := Lib.hid (F2.out.trans fz (fun _ _ h => h))
      clear fz
      go_wp2_with fail
      go_ret
      exact ⟨rfl, FZ.out⟩
    | false =>
      have hm4 : n' ≤ 400 := HB2.out rfl
      clear HB2
      go_wp2_with fail
      have hws := F2.out.size
      refine (new_c w2).mono ?_
      rintro e w3 ⟨rfl, xa, f3⟩
      obtain ⟨ga, hga⟩ : ∃ ga, w2.heap.size = ga := ⟨_, rfl⟩
      rw [hga] at xa ⊢
      have XA3 := Lib.hid (xa.base_ (B' := w.heap.size) (by omega))
      have F3 := Lib.hid (F2.out.trans f3 (fun _ _ h => h))
      have hg3 : ga < w3.heap.size := xa.blk.lt
      clear xa f3 F2 hga hws
      go_wp2_with fail
      have hws := F3.out.size
      refine (new_c w3).mono ?_
      rintro e w4 ⟨rfl, xb, f4⟩
      obtain ⟨gb, hgb⟩ : ∃ gb, w3.heap.size = gb := ⟨_, rfl⟩
      rw [hgb] at xb ⊢
      have XB4 := Lib.hid (xb.base_ (B' := w.heap.size) (by omega))
      have XA4 := Lib.hid (XA3.out.far f4)
      have F4 := Lib.hid (F3.out.trans f4 (fun _ _ h => h))
      have hg4 : gb < w4.heap.size := xb.blk.lt
      have hab : ga < gb := by omega
      clear xb f4 F3 hgb hws XA3
      go_wp2_with fail
      have hws := F4.out.size
      refine (new_c w4).mono ?_
      rintro e w5 ⟨rfl, xc, f5⟩
      obtain ⟨gc, hgc⟩ : ∃ gc, w4.heap.size = gc := ⟨_, rfl⟩
      rw [hgc] at xc ⊢
      have XC5 := Lib.hid (xc.base_ (B' := w.heap.size) (by omega))
      have XA5 := Lib.hid (XA4.out.far f5)
      have XB5 := Lib.hid (XB4.out.far f5)
      have F5 := Lib.hid (F4.out.trans f5 (fun _ _ h => h))
      have hbc : gb < gc := by omega
      clear xc f5 F4 hgc hws XA4 XB4 hg3 hg4
      go_wp2_with fail
      go_loopw [8] (fun u wr => ∃ (i : Nat) (vb vc : Value), u = .int .i64 i ∧ i ≤ n' ∧ Hid (IX wr w.heap.size ga (.slice none 0 0) []) ∧ Hid (IX wr w.heap.size gb vb (fsetA [] (m.take i))) ∧ Hid (IX wr w.heap.size gc vc (fsetA [] (m.take i))) ∧ Hid (Dj vb vc) ∧ Hid (Fr (fun _ => False) w wr)) (fun u _ => n' - (intOf u).toNat)
      case atStart => exact ⟨0, _, _, rfl, Nat.zero_le _, XA5.out, XB5.out, XC5.out, Dj.nil _, F5.out⟩
      case round =>
        clear XA5 XB5 XC5 F5
        obtain ⟨i, vb, vc, rfl, hi, xa, xb, xc, hd, hf⟩ := hrel
        by_cases hlt : i < n'
        · have hdl : decide ((i : Int) < (n' : Int)) = true := decide_eq_true (by omega)
          have hdn : decide (i < n') = true := decide_eq_true hlt
          have hI : (i : Int) < n' := by omega
          obtain ⟨b, off, rfl, hbl, -, c1, c2, -⟩ := HR'.out.act HL'.out hlt
          have hin : i < m.length := by rw [HL'.out]; exact hlt
          have y1 := (hf.out.cell hbl (fun h => h)).trans c1
          have y2 := (hf.out.cell hbl (fun h => h)).trans c2
          have HC1 := Lib.hid c1
          have HC2 := Lib.hid c2
          have HFT := Lib.hid (fsetA_take hin [])
          have HLN : Hid ((fsetA [] (m.take i)).length ≤ 100000) := by
            have h1 := fsetA_len (m.take i) []
            rw [List.length_take, List.length_nil] at h1
            have h3 := HL'.out
            show _ ≤ _
            omega
          clear c1 c2
          generalize m[i].k = kk at *
          generalize m[i].u = uu at *
          go_wp2_with fail
          go_region_with ((go_at_call 13; refine (set_c wr.drew w.heap.size gb vb (fsetA [] (m.take i)) kk uu xb.out.drew HLN.out).mono ?_; rintro e w6 ⟨rfl, vb6, xb6, f6, n6⟩; have XB6 := Lib.hid xb6; have XF6 := Lib.hid f6; have XN6 := Lib.hid n6; clear xb6 f6 n6))
          all_goals
            have XA6 : Hid (IX w6 w.heap.size ga (.slice none 0 0) []) := IX.other (w := wr.drew) xa.out.drew (B := w.heap.size) (m := fsetA [] (m.take i)) xb.out.drew (by omega) (Dj.nil _).symm XF6.out
            have XC6 : Hid (IX w6 w.heap.size gc vc (fsetA [] (m.take i))) := IX.other (w := wr.drew) xc.out.drew (B := w.heap.size) (m := fsetA [] (m.take i)) xb.out.drew (by omega) hd.out XF6.out
            have D6 : Hid (Dj vb6 vc) := Dj.step (w := wr.drew) hd.out (B' := w.heap.size) (g' := gc) (m' := fsetA [] (m.take i)) xc.out.drew XN6.out
            have HF6 : Hid (Fr (fun _ => False) w w6) := IX.up (w' := wr.drew) hf.out.drew (B := w.heap.size) (m := fsetA [] (m.take i)) xb.out.drew (Nat.le_refl _) XF6.out
            clear y1 y2 XF6 XN6
            have y1 := (HF6.out.cell hbl (fun h => h)).trans HC1.out
            have y2 := (HF6.out.cell hbl (fun h => h)).trans HC2.out
            go_wp2_with fail
            go_region_with ((go_at_call 13; refine (set_c w6.drew w.heap.size gc vc (fsetA [] (m.take i)) kk uu XC6.out.drew HLN.out).mono ?_; rintro e w7 ⟨rfl, vc7, xc7, f7, n7⟩; have XC7 := Lib.hid xc7; have XF7 := Lib.hid f7; have XN7 := Lib.hid n7; clear xc7 f7 n7))
            all_goals
              have XA7 : Hid (IX w7 w.heap.size ga (.slice none 0 0) []) := IX.other (w := w6.drew) XA6.out.drew (B := w.heap.size) (m := fsetA [] (m.take i)) XC6.out.drew (by omega) (Dj.nil _).symm XF7.out
              have XB7 : Hid (IX w7 w.heap.size gb vb6 (mset (fsetA [] (m.take i)) kk uu)) := IX.other (w := w6.drew) XB6.out.drew (B := w.heap.size) (m := fsetA [] (m.take i)) XC6.out.drew (by omega) D6.out.symm XF7.out
              have D7 : Hid (Dj vb6 vc7) := (Dj.step (w := w6.drew) D6.out.symm (B' := w.heap.size) (g' := gb) (m' := mset (fsetA [] (m.take i)) kk uu) XB6.out.drew XN7.out).symm
              have HF7 : Hid (Fr (fun _ => False) w w7) := IX.up (w' := w6.drew) HF6.out.drew (B := w.heap.size) (m := fsetA [] (m.take i)) XC6.out.drew (Nat.le_refl _) XF7.out
              clear y1 y2 XF7 XN7 XA6 XB6 XC6 D6 HF6
              go_wp2_with fail
              refine ⟨⟨i + 1, vb6, vc7, by push_cast; rfl, by omega, XA7.out, ?_, ?_, D7.out, HF7.out⟩, by simp only [intOf]; omega⟩
              · rw [HFT.out]; exact XB7.out
              · rw [HFT.out]; exact XC7.out
        · have hdl : decide ((i : Int) < (n' : Int)) = false := decide_eq_false (by omega)
          have hdn : decide (i < n') = false := decide_eq_false hlt
          have hin : i = n' := by omega
          have htk : Hid (m.take i = m) := by show _ = _; rw [hin, ← HL'.out, List.take_length]
          have XB8 : Hid (IX wr w.heap.size gb vb (fsetA [] m)) := by have := xb.out; rw [htk.out] at this; exact this
          have XC8 : Hid (IX wr w.heap.size gc vc (fsetA [] m)) := by have := xc.out; rw [htk.out] at this; exact this
          have XA8 := Lib.hid xa.out
          have D8 := Lib.hid hd.out
          have F8 := Lib.hid hf.out
          clear xa xb xc hd hf htk hin hi
          go_wp2_with fail
          clear hlt hdl hdn
          obtain ⟨M, hM⟩ : ∃ M, fsetA [] m = M := ⟨_, rfl⟩
          have hMl : M.length ≤ 400 := by
            have h1 := fsetA_len m []
            rw [hM, List.length_nil] at h1
            have h3 := HL'.out
            omega
          rw [hM] at XB8 XC8
          have HM := Lib.hid hM
          clear hM
          go_loopw [9] (fun u wr => ∃ (i : Nat) (va vc : Value), u = .int .i64 i ∧ i ≤ n ∧ Hid (IX wr w.heap.size ga va (fsetA [] (l.take i))) ∧ Hid (IX wr w.heap.size gb vb M) ∧ Hid (IX wr w.heap.size gc vc (fsetA M (l.take i))) ∧ Hid (Dj va vc) ∧ Hid (Dj va vb) ∧ Hid (Dj vc vb) ∧ Hid (Fr (fun _ => False) w wr)) (fun u _ => n - (intOf u).toNat)
          case atStart => exact ⟨0, _, _, rfl, Nat.zero_le _, XA8.out, XB8.out, XC8.out, Dj.nil _, Dj.nil _, D8.out.symm, F8.out⟩
          case round =>
            clear XA8 XB8 XC8 F8 D8
            obtain ⟨i, va, vc, rfl, hi, xa, xb, xc, hac, hab', hcb, hf⟩ := hrel
            by_cases hlt : i < n
            · have hdl : decide ((i : Int) < (n : Int)) = true := decide_eq_true (by omega)
              have hdn : decide (i < n) = true := decide_eq_true hlt
              have hI : (i : Int) < n := by omega
              obtain ⟨b, off, rfl, hbl, -, c1, c2, -⟩ := HR.out.act HL.out hlt
              have hin : i < l.length := by rw [HL.out]; exact hlt
              have y1 := (hf.out.cell hbl (fun h => h)).trans c1
              have y2 := (hf.out.cell hbl (fun h => h)).trans c2
              have HC1 := Lib.hid c1
              have HC2 := Lib.hid c2
              have HFT := Lib.hid (fsetA_take hin [])
              have HFU := Lib.hid (fsetA_take hin M)
              have HLN : Hid ((fsetA [] (l.take i)).length ≤ 100000) := by
                have h1 := fsetA_len (l.take i) []
                rw [List.length_take, List.length_nil] at h1
                have h3 := HL.out
                show _ ≤ _
                omega
              have HLM : Hid ((fsetA M (l.take i)).length ≤ 100000) := by
                have h1 := fsetA_len (l.take i) M
                rw [List.length_take] at h1
                have h3 := HL.out
                show _ ≤ _
                omega
              clear c1 c2
              generalize l[i].k = kk at *
              generalize l[i].u = uu at *
              go_wp2_with fail
              go_region_with ((go_at_call 13; refine (set_c wr.drew w.heap.size ga va (fsetA [] (l.take i)) kk uu xa.out.drew HLN.out).mono ?_; rintro e w6 ⟨rfl, va6, xa6, f6, n6⟩; have XA6 := Lib.hid xa6; have XF6 := Lib.hid f6; have XN6 := Lib.hid n6; clear xa6 f6 n6))
              all_goals
                have XB6 : Hid (IX w6 w.heap.size gb vb M) := IX.other (w := wr.drew) xb.out.drew (B := w.heap.size) (m := fsetA [] (l.take i)) xa.out.drew (by omega) hab'.out XF6.out
                have XC6 : Hid (IX w6 w.heap.size gc vc (fsetA M (l.take i))) := IX.other (w := wr.drew) xc.out.drew (B := w.heap.size) (m := fsetA [] (l.take i)) xa.out.drew (by omega) hac.out XF6.out
                have D6 : Hid (Dj va6 vc) := Dj.step (w := wr.drew) hac.out (B' := w.heap.size) (g' := gc) (m' := fsetA M (l.take i)) xc.out.drew XN6.out
                have E6 : Hid (Dj va6 vb) := Dj.step (w := wr.drew) hab'.out (B' := w.heap.size) (g' := gb) (m' := M) xb.out.drew XN6.out
                have HF6 : Hid (Fr (fun _ => False) w w6) := IX.up (w' := wr.drew) hf.out.drew (B := w.heap.size) (m := fsetA [] (l.take i)) xa.out.drew (Nat.le_refl _) XF6.out
                clear y1 y2 XF6 XN6
                have y1 := (HF6.out.cell hbl (fun h => h)).trans HC1.out
                have y2 := (HF6.out.cell hbl (fun h => h)).trans HC2.out
                go_wp2_with fail
                go_region_with ((go_at_call 13; refine (set_c w6.drew w.heap.size gc vc (fsetA M (l.take i)) kk uu XC6.out.drew HLM.out).mono ?_; rintro e w7 ⟨rfl, vc7, xc7, f7, n7⟩; have XC7 := Lib.hid xc7; have XF7 := Lib.hid f7; have XN7 := Lib.hid n7; clear xc7 f7 n7))
                all_goals
                  have XA7 : Hid (IX w7 w.heap.size ga va6 (mset (fsetA [] (l.take i)) kk uu)) := IX.other (w := w6.drew) XA6.out.drew (B := w.heap.size) (m := fsetA M (l.take i)) XC6.out.drew (by omega) D6.out.symm XF7.out
                  have XB7 : Hid (IX w7 w.heap.size gb vb M) := IX.other (w := w6.drew) XB6.out.drew (B := w.heap.size) (m := fsetA M (l.take i)) XC6.out.drew (by omega) hcb.out XF7.out
                  have D7 : Hid (Dj va6 vc7) := (Dj.step (w := w6.drew) D6.out.symm (B' := w.heap.size) (g' := ga) (m' := mset (fsetA [] (l.take i)) kk uu) XA6.out.drew XN7.out).symm
                  have C7 : Hid (Dj vc7 vb) := Dj.step (w := w6.drew) hcb.out (B' := w.heap.size) (g' := gb) (m' := M) XB6.out.drew XN7.out
                  have HF7 : Hid (Fr (fun _ => False) w w7) := IX.up (w' := w6.drew) HF6.out.drew (B := w.heap.size) (m := fsetA M (l.take i)) XC6.out.drew (Nat.le_refl _) XF7.out
                  clear y1 y2 XF7 XN7 XA6 XB6 XC6 D6 HF6
                  go_wp2_with fail
                  refine ⟨⟨i + 1, va6, vc7, by push_cast; rfl, by omega, ?_, XB7.out, ?_, D7.out, E6.out, C7.out, HF7.out⟩, by simp only [intOf]; omega⟩
                  · rw [HFT.out]; exact XA7.out
                  · rw [HFU.out]; exact XC7.out
            · have hdl : decide ((i : Int) < (n : Int)) = false := decide_eq_false (by omega)
              have hdn : decide (i < n) = false := decide_eq_false hlt
              have hin : i = n := by omega
              have htk : Hid (l.take i = l) := by show _ = _; rw [hin, ← HL.out, List.take_length]
              have XA9 : Hid (IX wr w.heap.size ga va (fsetA [] l)) := by have := xa.out; rw [htk.out] at this; exact this
              have XC9 : Hid (IX wr w.heap.size gc vc (fsetA M l)) := by have := xc.out; rw [htk.out] at this; exact this
              have XB9 := Lib.hid xb.out
              have F9 := Lib.hid hf.out
              have HTW : Hid (mrg [fsetA [] l, M] = fsetA M l) := by rw [← HM.out]; exact two_eq l m
              have hLa : (fsetA [] l).length ≤ 400 := by
                have h1 := fsetA_len l []
                rw [List.length_nil] at h1
                have h3 := HL.out
                omega
              have hLc : (fsetA M l).length ≤ 800 := by
                have h1 := fsetA_len l M
                have h3 := HL.out
                omega
              clear xa xb xc hac hab' hcb hf htk hin hi HM
              generalize fsetA M l = C at *
              generalize fsetA [] l = D at *
              go_wp2_with fail
              clear hlt hdl hdn
              have FB : Fr (fun _ => False) wr (wr.alloc (.cells #[.pointer (some ⟨ga, 0, none⟩), .pointer (some ⟨gb, 0, none⟩)] 25)) := (Fr.refl _ wr).alloc _
              have HRD : Hid (Rd (wr.alloc (.cells #[.pointer (some ⟨ga, 0, none⟩), .pointer (some ⟨gb, 0, none⟩)] 25)) (some ⟨wr.heap.size, 0, none⟩) 2 [.pointer (some ⟨ga, 0, none⟩), .pointer (some ⟨gb, 0, none⟩)]) := by
                have := Rd.of_blk (n := 2) (Blk.new wr 25 #[.pointer (some ⟨ga, 0, none⟩), .pointer (some ⟨gb, 0, none⟩)]) (by simp)
                exact this
              have HXS : Hid (XRs (wr.alloc (.cells #[.pointer (some ⟨ga, 0, none⟩), .pointer (some ⟨gb, 0, none⟩)] 25)) [.pointer (some ⟨ga, 0, none⟩), .pointer (some ⟨gb, 0, none⟩)] [D, M]) := ⟨rfl, fun i x m h1 h2 => by
                match i, h1, h2 with
                | 0, h1, h2 => cases h1; cases h2; exact XA9.out.xr.far FB
                | 1, h1, h2 => cases h1; cases h2; exact XB9.out.xr.far FB⟩
              have HSR : Hid (∀ m ∈ ([D, M] : List Ents), Srt m) := by
                intro m hm
                rcases List.mem_cons.1 hm with rfl | hm
                · exact XA9.out.srt
                · rcases List.mem_cons.1 hm with rfl | hm
                  · exact XB9.out.srt
                  · cases hm
              have HLNS : Hid (∀ m ∈ ([D, M] : List Ents), m.length ≤ 100000) := by
                intro m hm
                rcases List.mem_cons.1 hm with rfl | hm
                · omega
                · rcases List.mem_cons.1 hm with rfl | hm
                  · omega
                  · cases hm
              refine (merge_c _ (some ⟨wr.heap.size, 0, none⟩) 2 [.pointer (some ⟨ga, 0, none⟩), .pointer (some ⟨gb, 0, none⟩)] [D, M] HRD.out HXS.out HSR.out HLNS.out (by simp)).mono ?_
              rintro e w16 ⟨s16, rfl, hs16, f16⟩
              rw [HTW.out] at hs16
              have HS16 := Lib.hid hs16
              have XC16 := Lib.hid (XC9.out.far (FB.trans f16 (fun _ _ h => h)))
              have F16 := Lib.hid (F9.out.trans (FB.trans f16 (fun _ _ h => h)) (fun _ _ h => h))
              clear hs16 f16 FB HRD HXS HSR HLNS XA9 XB9 XC9 F9
              go_wp2_with fail
              refine (rows_c w16 _ (-1) _ HS16.out (by omega) (by decide)).mono ?_
              rintro e w17 ⟨r17, rfl, hr17, f17⟩
              rw [show upto (-1) C = C from rfl] at hr17
              obtain ⟨A17, c17, rfl, hr17', hc17⟩ := OwR.rd hr17
              have HR17 := Lib.hid hr17'
              have XC17 := Lib.hid (XC16.out.far f17)
              have F17 := Lib.hid (F16.out.trans f17 (fun _ _ h => h))
              clear hr17 hr17' f17 HS16 XC16 F16
              have estr : (⟨#[]⟩ : ByteArray) = strOf [] := rfl
              go_wp2_with fail
              refine (scan_c w17 _ C [] [] XC17.out.xr XC17.out.srt (by omega)).mono ?_
              rintro e w18 ⟨s18, rfl, hs18, f18⟩
              rw [scn_all] at hs18
              have HS18 := Lib.hid hs18
              have HR18 := Lib.hid (HR17.out.far f18)
              have F18 := Lib.hid (F17.out.trans f18 (fun _ _ h => h))
              clear hs18 f18 XC17 HR17 F17
              go_wp2_with fail
              refine (rows_c w18 _ (-1) _ HS18.out (by omega) (by decide)).mono ?_
              rintro e w19 ⟨r19, rfl, hr19, f19⟩
              rw [show upto (-1) C = C from rfl] at hr19
              obtain ⟨A19, c19, rfl, hr19', hc19⟩ := OwR.rd hr19
              have HR19 := Lib.hid hr19'
              have HR18b := Lib.hid (HR18.out.far f19)
              have F19 := Lib.hid (F18.out.trans f19 (fun _ _ h => h))
              clear hr19 hr19' f19 HS18 HR18 F18
              go_wp2_with fail
              refine (same_c w19 A17 A19 c17 c19 C C HR18b.out HR19.out (by omega) (by omega)).mono ?_
              rintro e w20 ⟨rfl, f20⟩
              rw [decide_eq_true (rfl : C = C)]
              have F20 := Lib.hid (F19.out.trans f20 (fun _ _ h => h))
              clear f20 F19 HR19 HR18b
              go_wp2_with fail
              refine (awake_c w20 (HT.out.far F20.out)).mono ?_
              rintro e wz ⟨rfl, fz⟩
              have FZ := Lib.hid (F20.out.trans fz (fun _ _ h => h))
              clear fz
              go_wp2_with fail
              go_ret
              exact ⟨rfl, FZ.out⟩
end Go.Proofs.YtillifkilkjpdaaDoor
