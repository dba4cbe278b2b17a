/-
  CONTRACT of value.Cmp. Written by gen_cmp2.py.
-/
import Derived.Test.YtnkfkicabgajmaaGreatDoorCmp
namespace Go.Proofs.YtnkfkicabgajmaaGreatDoor
set_option linter.unusedSimpArgs false
set_option linter.unusedVariables false
open Go Go.RowKit

theorem lex_assoc (a b c : Int) : lex a (lex b c) = lex (lex a b) c := by
  unfold lex
  by_cases h : a = 0 <;> simp [h]
theorem headC_drop (ks js : List (List UInt8)) (i : Nat) : headC (ks.drop i) (js.drop i) = entC ks js i := by
  unfold entC
  by_cases h : i < ks.length
  · by_cases h' : i < js.length
    · rw [if_pos ⟨h, h'⟩, List.drop_eq_getElem_cons h, List.drop_eq_getElem_cons h', headC]
      simp [h, h']
    · rw [if_neg (fun e => h' e.2), (show js.drop i = [] from List.drop_eq_nil_of_le (by omega))]
      cases ks.drop i <;> rfl
  · rw [if_neg (fun e => h e.1), (show ks.drop i = [] from List.drop_eq_nil_of_le (by omega))]
    cases js.drop i <;> rfl
theorem cmpL_drop (l m : List V) (ks js : List (List UInt8)) (i : Nat) (h : i < l.length) (h' : i < m.length) :
    cmpL (l.drop i) (ks.drop i) (m.drop i) (js.drop i) = lex (lex (entC ks js i) (cmpV l[i] m[i])) (cmpL (l.drop (i + 1)) (ks.drop (i + 1)) (m.drop (i + 1)) (js.drop (i + 1))) := by
  rw [List.drop_eq_getElem_cons h, List.drop_eq_getElem_cons h', cmpL, headC_drop, lex_assoc, List.tail_drop, List.tail_drop]
theorem cmpL_end (l m : List V) (ks js : List (List UInt8)) (i : Nat) (h : i = min l.length m.length) :
    cmpL (l.drop i) (ks.drop i) (m.drop i) (js.drop i) = if l.length = m.length then 0 else ord (decide (l.length < m.length)) := by
  rcases Nat.lt_trichotomy l.length m.length with h1 | h1 | h1
  · have e : i = l.length := by omega
    subst e
    rw [List.drop_length, if_neg (by omega), List.drop_eq_getElem_cons h1, cmpL, decide_eq_true h1]
    rfl
  · have e : i = l.length := by omega
    subst e
    rw [List.drop_length, if_pos h1, (show m.drop l.length = [] from List.drop_eq_nil_of_le (by omega)), cmpL]
  · have e : i = m.length := by omega
    subst e
    rw [List.drop_length, if_neg (by omega), List.drop_eq_getElem_cons h1, cmpL, decide_eq_false (by omega)]
    rfl
set_option maxRecDepth 100000 in
set_option maxHeartbeats 2000000 in
theorem cmp_step (w : World) {D E : Nat → Prop} {k n k' n' : Int} {t t' : List UInt8} {l l' : List V} {ks ks' : List (List UInt8)} {Al Ak Al' Ak' : Option Addr} {cl ck cl' ck' : Nat} {css css' : List (Array Value)}
    (hp : VP D w k n t l ks Al cl Ak ck css) (hq : VP E w k' n' t' l' ks' Al' cl' Ak' ck' css')
    (ih : ∀ (x : V), x ∈ l → ∀ (W : World) (C C' : Array Value) (y : V), RdV D W C x → RdV E W C' y → Calls Tryz.prog 20 #[.agg C, .agg C'] W fun e w' => e = .returned (.int .i64 (cmpV x y)) ∧ Fr (fun _ => False) W w') :
    Calls Tryz.prog 20 #[.agg (vcs k n t Al l.length cl Ak ks.length ck), .agg (vcs k' n' t' Al' l'.length cl' Ak' ks'.length ck')] w fun e w' => e = .returned (.int .i64 (cmpV (.mk k n t l ks) (.mk k' n' t' l' ks'))) ∧ Fr (fun _ => False) w w' := by
  have hb2 := hp.b.ll
  have hb3 := hq.b.ll
  have HP := Lib.hid hp
  have HQ := Lib.hid hq
  have IH := Lib.hid ih
  clear hp hq ih
  by_cases h1 : k = k'
  case neg =>
    have hv : cmpV (.mk k n t l ks) (.mk k' n' t' l' ks') = ord (decide (k < k')) := by rw [cmpV, if_pos h1]
    have d1 : (k != k') = true := by simpa using h1
    have HV := Lib.hid hv
    obtain ⟨z, hz⟩ : ∃ z, decide (k < k') = z := ⟨_, rfl⟩
    have HZ := Lib.hid hz
    clear hv HP HQ IH h1
    cases z
    case false =>
      go_enter Tryz.func20, Tryz.ntmps20
      go_upto_region 1 with fail
      refine abs_world (fun W => Hid (Blk W w.heap.size 25 (vcs k n t Al l.length cl Ak ks.length ck)) ∧ Hid (Blk W (w.heap.size + 1) 25 (vcs k' n' t' Al' l'.length cl' Ak' ks'.length ck')) ∧ Hid (Fr (fun _ => False) w W)) ⟨(Blk.new w _ _).alloc _, Blk.new1 w _ _ _, ((Fr.refl _ w).alloc _).alloc _⟩ ?_
      rintro W1 ⟨B1, B2, F1⟩
      have a0 : W1.cell? ⟨w.heap.size, 0, none⟩ = some (.int .i64 k) := B1.out.cell 0
      have b0 : W1.cell? ⟨w.heap.size + 1, 0, none⟩ = some (.int .i64 k') := B2.out.cell 0
      go_wp2_with fail
      refine (order_c _ _).mono ?_
      rintro e w2 ⟨rfl, rfl⟩
      go_wp2_with fail
      go_ret
      exact ⟨ret_int (by rw [HV.out, HZ.out]), F1.out⟩
    case true =>
      go_enter Tryz.func20, Tryz.ntmps20
      go_upto_region 1 with fail
      refine abs_world (fun W => Hid (Blk W w.heap.size 25 (vcs k n t Al l.length cl Ak ks.length ck)) ∧ Hid (Blk W (w.heap.size + 1) 25 (vcs k' n' t' Al' l'.length cl' Ak' ks'.length ck')) ∧ Hid (Fr (fun _ => False) w W)) ⟨(Blk.new w _ _).alloc _, Blk.new1 w _ _ _, ((Fr.refl _ w).alloc _).alloc _⟩ ?_
      rintro W1 ⟨B1, B2, F1⟩
      have a0 : W1.cell? ⟨w.heap.size, 0, none⟩ = some (.int .i64 k) := B1.out.cell 0
      have b0 : W1.cell? ⟨w.heap.size + 1, 0, none⟩ = some (.int .i64 k') := B2.out.cell 0
      go_wp2_with fail
      refine (order_c _ _).mono ?_
      rintro e w2 ⟨rfl, rfl⟩
      go_wp2_with fail
      go_ret
      exact ⟨ret_int (by rw [HV.out, HZ.out]), F1.out⟩
  obtain rfl := h1
  have d1 : (k != k) = false := by simp
  by_cases h2 : k = 3 ∧ n ≠ n'
  case pos =>
    have hv : cmpV (.mk k n t l ks) (.mk k n' t' l' ks') = ord (decide (n < n')) := by rw [cmpV, if_neg (fun h => h rfl), if_pos h2]
    obtain ⟨rfl, h3⟩ := h2
    have d2 : (n != n') = true := by simpa using h3
    have HV := Lib.hid hv
    obtain ⟨z, hz⟩ : ∃ z, decide (n < n') = z := ⟨_, rfl⟩
    have HZ := Lib.hid hz
    clear hv HP HQ IH h3
    cases z
    case false =>
      go_enter Tryz.func20, Tryz.ntmps20
      go_upto_region 1 with fail
      refine abs_world (fun W => Hid (Blk W w.heap.size 25 (vcs 3 n t Al l.length cl Ak ks.length ck)) ∧ Hid (Blk W (w.heap.size + 1) 25 (vcs 3 n' t' Al' l'.length cl' Ak' ks'.length ck')) ∧ Hid (Fr (fun _ => False) w W)) ⟨(Blk.new w _ _).alloc _, Blk.new1 w _ _ _, ((Fr.refl _ w).alloc _).alloc _⟩ ?_
      rintro W1 ⟨B1, B2, F1⟩
      have a0 : W1.cell? ⟨w.heap.size, 0, none⟩ = some (.int .i64 3) := B1.out.cell 0
      have b0 : W1.cell? ⟨w.heap.size + 1, 0, none⟩ = some (.int .i64 3) := B2.out.cell 0
      have a1 : W1.cell? ⟨w.heap.size, 1, none⟩ = some (.int .i64 n) := B1.out.cell 1
      have b1 : W1.cell? ⟨w.heap.size + 1, 1, none⟩ = some (.int .i64 n') := B2.out.cell 1
      go_wp2_with fail
      refine (order_c _ _).mono ?_
      rintro e w2 ⟨rfl, rfl⟩
      go_wp2_with fail
      go_ret
      exact ⟨ret_int (by rw [HV.out, HZ.out]), F1.out⟩
    case true =>
      go_enter Tryz.func20, Tryz.ntmps20
      go_upto_region 1 with fail
      refine abs_world (fun W => Hid (Blk W w.heap.size 25 (vcs 3 n t Al l.length cl Ak ks.length ck)) ∧ Hid (Blk W (w.heap.size + 1) 25 (vcs 3 n' t' Al' l'.length cl' Ak' ks'.length ck')) ∧ Hid (Fr (fun _ => False) w W)) ⟨(Blk.new w _ _).alloc _, Blk.new1 w _ _ _, ((Fr.refl _ w).alloc _).alloc _⟩ ?_
      rintro W1 ⟨B1, B2, F1⟩
      have a0 : W1.cell? ⟨w.heap.size, 0, none⟩ = some (.int .i64 3) := B1.out.cell 0
      have b0 : W1.cell? ⟨w.heap.size + 1, 0, none⟩ = some (.int .i64 3) := B2.out.cell 0
      have a1 : W1.cell? ⟨w.heap.size, 1, none⟩ = some (.int .i64 n) := B1.out.cell 1
      have b1 : W1.cell? ⟨w.heap.size + 1, 1, none⟩ = some (.int .i64 n') := B2.out.cell 1
      go_wp2_with fail
      refine (order_c _ _).mono ?_
      rintro e w2 ⟨rfl, rfl⟩
      go_wp2_with fail
      go_ret
      exact ⟨ret_int (by rw [HV.out, HZ.out]), F1.out⟩
  have H2 := Lib.hid h2
  have hv2 : cmpV (.mk k n t l ks) (.mk k n' t' l' ks') = if k = 4 then cmpT t t' else cmpL l ks l' ks' := by rw [cmpV, if_neg (fun h => h rfl), if_neg h2]
  have HV := Lib.hid hv2
  clear hv2
  by_cases h4 : k = 4
  case pos =>
    obtain rfl := h4
    clear h2 H2 HP HQ IH
    go_enter Tryz.func20, Tryz.ntmps20
    go_upto_region 1 with fail
    refine abs_world (fun W => Hid (Blk W w.heap.size 25 (vcs 4 n t Al l.length cl Ak ks.length ck)) ∧ Hid (Blk W (w.heap.size + 1) 25 (vcs 4 n' t' Al' l'.length cl' Ak' ks'.length ck')) ∧ Hid (Fr (fun _ => False) w W)) ⟨(Blk.new w _ _).alloc _, Blk.new1 w _ _ _, ((Fr.refl _ w).alloc _).alloc _⟩ ?_
    rintro W1 ⟨B1, B2, F1⟩
    have a0 : W1.cell? ⟨w.heap.size, 0, none⟩ = some (.int .i64 4) := B1.out.cell 0
    have b0 : W1.cell? ⟨w.heap.size + 1, 0, none⟩ = some (.int .i64 4) := B2.out.cell 0
    have a1 : W1.cell? ⟨w.heap.size, 1, none⟩ = some (.int .i64 n) := B1.out.cell 1
    have b1 : W1.cell? ⟨w.heap.size + 1, 1, none⟩ = some (.int .i64 n') := B2.out.cell 1
    have a2 : W1.cell? ⟨w.heap.size, 2, none⟩ = some (.string (strOf t)) := B1.out.cell 2
    have b2 : W1.cell? ⟨w.heap.size + 1, 2, none⟩ = some (.string (strOf t')) := B2.out.cell 2
    go_wp2_with fail
    refine (compare_c _ t t').mono ?_
    rintro e w2 ⟨rfl, rfl⟩
    go_wp2_with fail
    go_ret
    exact ⟨ret_int (by rw [HV.out]; simp), F1.out⟩
  have d4 : (k == 4) = false := by simpa using h4
  rw [HV.out, if_neg h4]
  clear HV
  -- the walk behind the three tests: the loop
  by_cases h3 : k = 3
  case pos =>
    obtain rfl := h3
    have hn : n = n' := Decidable.not_not.1 fun h => H2.out ⟨rfl, h⟩
    obtain rfl := hn
    have d2 : (n != n) = false := by simp
    clear h2 H2 h4 d4
    go_enter Tryz.func20, Tryz.ntmps20
    go_upto_region 1 with fail
    refine abs_world (fun W => Hid (Blk W w.heap.size 25 (vcs 3 n t Al l.length cl Ak ks.length ck)) ∧ Hid (Blk W (w.heap.size + 1) 25 (vcs 3 n t' Al' l'.length cl' Ak' ks'.length ck')) ∧ Hid (Fr (fun _ => False) w W)) ⟨(Blk.new w _ _).alloc _, Blk.new1 w _ _ _, ((Fr.refl _ w).alloc _).alloc _⟩ ?_
    rintro W1 ⟨B1, B2, F1⟩
    have a0 : W1.cell? ⟨w.heap.size, 0, none⟩ = some (.int .i64 3) := B1.out.cell 0
    have b0 : W1.cell? ⟨w.heap.size + 1, 0, none⟩ = some (.int .i64 3) := B2.out.cell 0
    have a1 : W1.cell? ⟨w.heap.size, 1, none⟩ = some (.int .i64 n) := B1.out.cell 1
    have b1 : W1.cell? ⟨w.heap.size + 1, 1, none⟩ = some (.int .i64 n) := B2.out.cell 1
    have a2 : W1.cell? ⟨w.heap.size, 2, none⟩ = some (.string (strOf t)) := B1.out.cell 2
    have b2 : W1.cell? ⟨w.heap.size + 1, 2, none⟩ = some (.string (strOf t')) := B2.out.cell 2
    have a3 : W1.cell? ⟨w.heap.size, 3, none⟩ = some (.slice Al l.length cl) := B1.out.cell 3
    have b3 : W1.cell? ⟨w.heap.size + 1, 3, none⟩ = some (.slice Al' l'.length cl') := B2.out.cell 3
    generalize hg2 : w.heap.size + 1 = g2 at *
    generalize hg1 : w.heap.size = g1 at *
    have HPW := Lib.hid (HP.out.far F1.out)
    have HQW := Lib.hid (HQ.out.far F1.out)
    have FW := Lib.hid F1.out
    have S1 := Lib.hid (show (Tryz.prog.info? 25).map (·.size) = some (vcs 3 n t Al l.length cl Ak ks.length ck).size from lw5)
    have S2 := Lib.hid (show (Tryz.prog.info? 25).map (·.size) = some (vcs 3 n t' Al' l'.length cl' Ak' ks'.length ck').size from lw5)
    clear HP HQ F1 hg1 hg2
    go_wp2_with fail
    generalize hmm : min (l.length : Int) (l'.length : Int) = mm
    have hm0 : mm ≤ l.length ∧ mm ≤ l'.length ∧ 0 ≤ mm ∧ (mm = l.length ∨ mm = l'.length) := by omega
    have HM0 := Lib.hid hm0
    have HMM := Lib.hid hmm
    clear hmm a0 a1 a2 a3 b0 b1 b2 b3
    obtain ⟨hm1, hm2, hm3, hm4⟩ := hm0
    clear hm4
    go_loopw [52] (fun iv wr => ∃ i : Nat, (i : Int) ≤ mm ∧ iv = .int .i64 (i : Int) ∧ Hid (cmpL l ks l' ks' = cmpL (l.drop i) (ks.drop i) (l'.drop i) (ks'.drop i)) ∧ Hid (Fr (fun _ => False) W1 wr)) (fun iv _ => (mm - intOf iv).toNat)
    case atStart => exact ⟨0, by omega, rfl, rfl, Fr.refl _ _⟩
    case round =>
      obtain ⟨i, hi, rfl, he, hf⟩ := hrel
      by_cases hlt : (i : Int) < mm
      case pos =>
        have hdl : decide ((i : Int) < mm) = true := decide_eq_true hlt
        have hl1 : i < l.length := by omega
        have hl2 : i < l'.length := by omega
        have C1 := Lib.hid (blk_all (keepB B1.out hf.out))
        have C2 := Lib.hid (blk_all (keepB B2.out hf.out))
        go_wp2_with (first
          | (refine wpList_load_val rfl 25 _ rfl g1 _ rfl _ C1.out _ Tryz.underlying25 rfl S1.out ?_)
          | (refine wpList_load_val rfl 25 _ rfl g2 _ rfl _ C2.out _ Tryz.underlying25 rfl S2.out ?_))
        refine (cmpEntry_c wr (HPW.out.far hf.out) (HQW.out.far hf.out) i hl1 hl2 IH.out).mono ?_
        rintro e W2 ⟨rfl, f2⟩
        have HF2 := Lib.hid (hf.out.trans f2 (fun _ _ h => h))
        have hst := cmpL_drop l l' ks ks' i hl1 hl2
        rw [← he.out] at hst
        obtain ⟨u, hu⟩ : ∃ u, lex (entC ks ks' i) (cmpV l[i] l'[i]) = u := ⟨_, rfl⟩
        rw [hu] at hst ⊢
        have HST := Lib.hid hst
        clear hst hu f2 C1 C2 he hf
        by_cases hz : u = 0
        case pos =>
          obtain rfl := hz
          go_wp2_with fail
          go_roundw
          case rel => exact ⟨i + 1, by omega, by go_num, HST.out, HF2.out⟩
          case measure => simp [intOf]; omega
        case neg =>
          have du : (u != 0) = true := by simpa using hz
          have HZ := Lib.hid hz
          clear hz
          go_wp2_with fail
          go_ret
          exact ⟨ret_int (by rw [HST.out]; unfold lex; rw [if_neg HZ.out]), FW.out.trans HF2.out (fun _ _ h => h)⟩
      case neg =>
        have hdl : decide ((i : Int) < mm) = false := decide_eq_false hlt
        have c3 : wr.cell? ⟨g1, 3, none⟩ = some (.slice Al l.length cl) := (keepB B1.out hf.out).cell 3
        have d3' : wr.cell? ⟨g2, 3, none⟩ = some (.slice Al' l'.length cl') := (keepB B2.out hf.out).cell 3
        have hend := cmpL_end l l' ks ks' i (by have := HM0.out.2.2.2; omega)
        rw [← he.out] at hend
        have HEND := Lib.hid hend
        clear hend he
        by_cases hl : l.length = l'.length
        case pos =>
          have dl : ((l.length : Int) == (l'.length : Int)) = true := by simp [hl]
          have dl' : (l.length == l'.length) = true := by simp [hl]
          have HL := Lib.hid hl
          clear hl
          go_wp2_with fail
          go_ret
          exact ⟨ret_int (by rw [HEND.out, if_pos HL.out]), FW.out.trans hf.out (fun _ _ h => h)⟩
        case neg =>
          have dl : ((l.length : Int) == (l'.length : Int)) = false := by simp; omega
          have dl' : (l.length == l'.length) = false := by simp; omega
          have HL := Lib.hid hl
          by_cases hlt2 : l.length < l'.length
          case pos =>
            have dq : decide ((l.length : Int) < (l'.length : Int)) = true := decide_eq_true (by omega)
            have dq' : decide (l.length < l'.length) = true := decide_eq_true hlt2
            clear hl
            go_wp2_with fail
            refine (order_c _ _).mono ?_
            rintro e w2 ⟨rfl, rfl⟩
            go_wp2_with fail
            go_ret
            exact ⟨ret_int (by rw [HEND.out, if_neg HL.out, dq']), FW.out.trans hf.out (fun _ _ h => h)⟩
          case neg =>
            have dq : decide ((l.length : Int) < (l'.length : Int)) = false := decide_eq_false (by omega)
            have dq' : decide (l.length < l'.length) = false := decide_eq_false hlt2
            clear hl
            go_wp2_with fail
            refine (order_c _ _).mono ?_
            rintro e w2 ⟨rfl, rfl⟩
            go_wp2_with fail
            go_ret
            exact ⟨ret_int (by rw [HEND.out, if_neg HL.out, dq']), FW.out.trans hf.out (fun _ _ h => h)⟩
  case neg =>
    have d3 : (k == 3) = false := by simpa using h3
    clear h2 H2
    go_enter Tryz.func20, Tryz.ntmps20
    go_upto_region 1 with fail
    refine abs_world (fun W => Hid (Blk W w.heap.size 25 (vcs k n t Al l.length cl Ak ks.length ck)) ∧ Hid (Blk W (w.heap.size + 1) 25 (vcs k n' t' Al' l'.length cl' Ak' ks'.length ck')) ∧ Hid (Fr (fun _ => False) w W)) ⟨(Blk.new w _ _).alloc _, Blk.new1 w _ _ _, ((Fr.refl _ w).alloc _).alloc _⟩ ?_
    rintro W1 ⟨B1, B2, F1⟩
    have a0 : W1.cell? ⟨w.heap.size, 0, none⟩ = some (.int .i64 k) := B1.out.cell 0
    have b0 : W1.cell? ⟨w.heap.size + 1, 0, none⟩ = some (.int .i64 k) := B2.out.cell 0
    have a1 : W1.cell? ⟨w.heap.size, 1, none⟩ = some (.int .i64 n) := B1.out.cell 1
    have b1 : W1.cell? ⟨w.heap.size + 1, 1, none⟩ = some (.int .i64 n') := B2.out.cell 1
    have a2 : W1.cell? ⟨w.heap.size, 2, none⟩ = some (.string (strOf t)) := B1.out.cell 2
    have b2 : W1.cell? ⟨w.heap.size + 1, 2, none⟩ = some (.string (strOf t')) := B2.out.cell 2
    have a3 : W1.cell? ⟨w.heap.size, 3, none⟩ = some (.slice Al l.length cl) := B1.out.cell 3
    have b3 : W1.cell? ⟨w.heap.size + 1, 3, none⟩ = some (.slice Al' l'.length cl') := B2.out.cell 3
    generalize hg2 : w.heap.size + 1 = g2 at *
    generalize hg1 : w.heap.size = g1 at *
    have HPW := Lib.hid (HP.out.far F1.out)
    have HQW := Lib.hid (HQ.out.far F1.out)
    have FW := Lib.hid F1.out
    have S1 := Lib.hid (show (Tryz.prog.info? 25).map (·.size) = some (vcs k n t Al l.length cl Ak ks.length ck).size from lw5)
    have S2 := Lib.hid (show (Tryz.prog.info? 25).map (·.size) = some (vcs k n' t' Al' l'.length cl' Ak' ks'.length ck').size from lw5)
    clear HP HQ F1 hg1 hg2
    go_wp2_with fail
    generalize hmm : min (l.length : Int) (l'.length : Int) = mm
    have hm0 : mm ≤ l.length ∧ mm ≤ l'.length ∧ 0 ≤ mm ∧ (mm = l.length ∨ mm = l'.length) := by omega
    have HM0 := Lib.hid hm0
    have HMM := Lib.hid hmm
    clear hmm a0 a1 a2 a3 b0 b1 b2 b3
    obtain ⟨hm1, hm2, hm3, hm4⟩ := hm0
    clear hm4
    go_loopw [52] (fun iv wr => ∃ i : Nat, (i : Int) ≤ mm ∧ iv = .int .i64 (i : Int) ∧ Hid (cmpL l ks l' ks' = cmpL (l.drop i) (ks.drop i) (l'.drop i) (ks'.drop i)) ∧ Hid (Fr (fun _ => False) W1 wr)) (fun iv _ => (mm - intOf iv).toNat)
    case atStart => exact ⟨0, by omega, rfl, rfl, Fr.refl _ _⟩
    case round =>
      obtain ⟨i, hi, rfl, he, hf⟩ := hrel
      by_cases hlt : (i : Int) < mm
      case pos =>
        have hdl : decide ((i : Int) < mm) = true := decide_eq_true hlt
        have hl1 : i < l.length := by omega
        have hl2 : i < l'.length := by omega
        have C1 := Lib.hid (blk_all (keepB B1.out hf.out))
        have C2 := Lib.hid (blk_all (keepB B2.out hf.out))
        go_wp2_with (first
          | (refine wpList_load_val rfl 25 _ rfl g1 _ rfl _ C1.out _ Tryz.underlying25 rfl S1.out ?_)
          | (refine wpList_load_val rfl 25 _ rfl g2 _ rfl _ C2.out _ Tryz.underlying25 rfl S2.out ?_))
        refine (cmpEntry_c wr (HPW.out.far hf.out) (HQW.out.far hf.out) i hl1 hl2 IH.out).mono ?_
        rintro e W2 ⟨rfl, f2⟩
        have HF2 := Lib.hid (hf.out.trans f2 (fun _ _ h => h))
        have hst := cmpL_drop l l' ks ks' i hl1 hl2
        rw [← he.out] at hst
        obtain ⟨u, hu⟩ : ∃ u, lex (entC ks ks' i) (cmpV l[i] l'[i]) = u := ⟨_, rfl⟩
        rw [hu] at hst ⊢
        have HST := Lib.hid hst
        clear hst hu f2 C1 C2 he hf
        by_cases hz : u = 0
        case pos =>
          obtain rfl := hz
          go_wp2_with fail
          go_roundw
          case rel => exact ⟨i + 1, by omega, by go_num, HST.out, HF2.out⟩
          case measure => simp [intOf]; omega
        case neg =>
          have du : (u != 0) = true := by simpa using hz
          have HZ := Lib.hid hz
          clear hz
          go_wp2_with fail
          go_ret
          exact ⟨ret_int (by rw [HST.out]; unfold lex; rw [if_neg HZ.out]), FW.out.trans HF2.out (fun _ _ h => h)⟩
      case neg =>
        have hdl : decide ((i : Int) < mm) = false := decide_eq_false hlt
        have c3 : wr.cell? ⟨g1, 3, none⟩ = some (.slice Al l.length cl) := (keepB B1.out hf.out).cell 3
        have d3' : wr.cell? ⟨g2, 3, none⟩ = some (.slice Al' l'.length cl') := (keepB B2.out hf.out).cell 3
        have hend := cmpL_end l l' ks ks' i (by have := HM0.out.2.2.2; omega)
        rw [← he.out] at hend
        have HEND := Lib.hid hend
        clear hend he
        by_cases hl : l.length = l'.length
        case pos =>
          have dl : ((l.length : Int) == (l'.length : Int)) = true := by simp [hl]
          have dl' : (l.length == l'.length) = true := by simp [hl]
          have HL := Lib.hid hl
          clear hl
          go_wp2_with fail
          go_ret
          exact ⟨ret_int (by rw [HEND.out, if_pos HL.out]), FW.out.trans hf.out (fun _ _ h => h)⟩
        case neg =>
          have dl : ((l.length : Int) == (l'.length : Int)) = false := by simp; omega
          have dl' : (l.length == l'.length) = false := by simp; omega
          have HL := Lib.hid hl
          by_cases hlt2 : l.length < l'.length
          case pos =>
            have dq : decide ((l.length : Int) < (l'.length : Int)) = true := decide_eq_true (by omega)
            have dq' : decide (l.length < l'.length) = true := decide_eq_true hlt2
            clear hl
            go_wp2_with fail
            refine (order_c _ _).mono ?_
            rintro e w2 ⟨rfl, rfl⟩
            go_wp2_with fail
            go_ret
            exact ⟨ret_int (by rw [HEND.out, if_neg HL.out, dq']), FW.out.trans hf.out (fun _ _ h => h)⟩
          case neg =>
            have dq : decide ((l.length : Int) < (l'.length : Int)) = false := decide_eq_false (by omega)
            have dq' : decide (l.length < l'.length) = false := decide_eq_false hlt2
            clear hl
            go_wp2_with fail
            refine (order_c _ _).mono ?_
            rintro e w2 ⟨rfl, rfl⟩
            go_wp2_with fail
            go_ret
            exact ⟨ret_int (by rw [HEND.out, if_neg HL.out, dq']), FW.out.trans hf.out (fun _ _ h => h)⟩
theorem cmp_c : ∀ (a b : V) (w : World) (D E : Nat → Prop) (C C' : Array Value), RdV D w C a → RdV E w C' b → Calls Tryz.prog 20 #[.agg C, .agg C'] w fun e w' => e = .returned (.int .i64 (cmpV a b)) ∧ Fr (fun _ => False) w w' := by
  intro a
  induction a using V.ind with
  | h k n t l ks ih =>
    intro b w D E C C' h h'
    obtain ⟨k1, n1, t1, l1, ks1, Al, cl, Ak, ck, css, e, rfl, hp⟩ := h.inv
    injection e with e1 e2 e3 e4 e5
    subst e1 e2 e3 e4 e5
    obtain ⟨k2, n2, t2, l2, ks2, Al', cl', Ak', ck', css', rfl, rfl, hq⟩ := h'.inv
    exact cmp_step w hp hq fun x hx W C C' y h1 h2 => ih x hx y W D E C C' h1 h2
end Go.Proofs.YtnkfkicabgajmaaGreatDoor
