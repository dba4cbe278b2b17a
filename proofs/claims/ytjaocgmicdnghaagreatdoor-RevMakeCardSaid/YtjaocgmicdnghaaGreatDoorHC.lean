/-
  Eq8, Of, Short, in one text (merge.py).
-/
import Derived.Test.YtjaocgmicdnghaaGreatDoorSum
import Derived.Laws.StructEq
import Derived.Test.YtjaocgmicdnghaaGreatDoorPar3
import Derived.Deep.MidRow
import Derived.Laws.Cover3

/-
  TWO STATES COMPARED.
-/
namespace Go.Proofs.YtjaocgmicdnghaaGreatDoor
set_option linter.unusedSimpArgs false
set_option linter.unusedVariables false
open Go Go.RowKit

set_option maxRecDepth 100000 in
set_option maxHeartbeats 1000000 in
theorem eq_cells (a0 a1 a2 a3 a4 a5 a6 a7 b0 b1 b2 b3 b4 b5 b6 b7 : Nat) (w : World) : (Op.equalIn 10000 77 (.agg #[.int .u32 (a0 : Nat), .int .u32 (a1 : Nat), .int .u32 (a2 : Nat), .int .u32 (a3 : Nat), .int .u32 (a4 : Nat), .int .u32 (a5 : Nat), .int .u32 (a6 : Nat), .int .u32 (a7 : Nat)]) (.agg #[.int .u32 (b0 : Nat), .int .u32 (b1 : Nat), .int .u32 (b2 : Nat), .int .u32 (b3 : Nat), .int .u32 (b4 : Nat), .int .u32 (b5 : Nat), .int .u32 (b6 : Nat), .int .u32 (b7 : Nat)])).run Tryz.prog w = .ok (a0 == b0 && (a1 == b1 && (a2 == b2 && (a3 == b3 && (a4 == b4 && (a5 == b5 && (a6 == b6 && a7 == b7))))))) w := by
  rw [show (10000 : Nat) = 9999 + 1 from rfl, Op.equalIn]
  simp only [Sem.run_bind, run_underlying Tryz.underlying77, Result.andThen_ok]
  simp only [Std.Legacy.Range.forIn_eq_forIn_range', Std.Legacy.Range.size, Nat.sub_zero, Nat.add_sub_cancel, Nat.div_one, List.range'_succ, List.range'_zero, List.forIn_cons, List.forIn_nil]
  go_simp
  by_cases h0 : (a0 : Int) = (b0 : Int)
  case neg =>
    have h' : ¬ a0 = b0 := by omega
    have e : (a0 == b0) = false := by simp [h']
    rw [e]
    simp [h0]
  obtain rfl : a0 = b0 := by omega
  by_cases h1 : (a1 : Int) = (b1 : Int)
  case neg =>
    have h' : ¬ a1 = b1 := by omega
    have e : (a1 == b1) = false := by simp [h']
    rw [e]
    simp [h1]
  obtain rfl : a1 = b1 := by omega
  by_cases h2 : (a2 : Int) = (b2 : Int)
  case neg =>
    have h' : ¬ a2 = b2 := by omega
    have e : (a2 == b2) = false := by simp [h']
    rw [e]
    simp [h2]
  obtain rfl : a2 = b2 := by omega
  by_cases h3 : (a3 : Int) = (b3 : Int)
  case neg =>
    have h' : ¬ a3 = b3 := by omega
    have e : (a3 == b3) = false := by simp [h']
    rw [e]
    simp [h3]
  obtain rfl : a3 = b3 := by omega
  by_cases h4 : (a4 : Int) = (b4 : Int)
  case neg =>
    have h' : ¬ a4 = b4 := by omega
    have e : (a4 == b4) = false := by simp [h']
    rw [e]
    simp [h4]
  obtain rfl : a4 = b4 := by omega
  by_cases h5 : (a5 : Int) = (b5 : Int)
  case neg =>
    have h' : ¬ a5 = b5 := by omega
    have e : (a5 == b5) = false := by simp [h']
    rw [e]
    simp [h5]
  obtain rfl : a5 = b5 := by omega
  by_cases h6 : (a6 : Int) = (b6 : Int)
  case neg =>
    have h' : ¬ a6 = b6 := by omega
    have e : (a6 == b6) = false := by simp [h']
    rw [e]
    simp [h6]
  obtain rfl : a6 = b6 := by omega
  by_cases h7 : (a7 : Int) = (b7 : Int)
  case neg =>
    have h' : ¬ a7 = b7 := by omega
    have e : (a7 == b7) = false := by simp [h']
    rw [e]
    simp [h7]
  obtain rfl : a7 = b7 := by omega
  simp

theorem eq_states (H K : List Nat) (hH : Ws 8 H) (hK : Ws 8 K) (w : World) : (Op.equalIn 10000 77 (.agg (uv H)) (.agg (uv K))).run Tryz.prog w = .ok (decide (H = K)) w := by
  rw [uv8 hH, uv8 hK, eq_cells]
  congr 1
  rw [Bool.eq_iff_iff]
  simp only [Bool.and_eq_true, beq_iff_eq, decide_eq_true_eq]
  constructor
  · rintro ⟨h0, h1, h2, h3, h4, h5, h6, h7⟩
    refine at_ext hH hK (fun i hi => ?_)
    have : i = 0 ∨ i = 1 ∨ i = 2 ∨ i = 3 ∨ i = 4 ∨ i = 5 ∨ i = 6 ∨ i = 7 := by omega
    rcases this with rfl | rfl | rfl | rfl | rfl | rfl | rfl | rfl <;> assumption
  · rintro rfl
    exact ⟨rfl, rfl, rfl, rfl, rfl, rfl, rfl, rfl⟩
end Go.Proofs.YtjaocgmicdnghaaGreatDoor

/-
  CONTRACTS of digest's Of and Short.
-/
namespace Go.Proofs.YtjaocgmicdnghaaGreatDoor
set_option linter.unusedSimpArgs false
set_option linter.unusedVariables false
open Go Go.RowKit

theorem sum_again (H : List Nat) (N : Nat) (l : List UInt8) (S : Nat) (hH : Ws 8 H) (hN : N < 18446744073709551616) : sumL (wrL H N l).1 (wrL H N l).2.1 (wrL H N l).2.2 S = sumL H N l S := by
  have h := (wrL_ok _ l H N (Nat.le_refl _) hH hN).2.1
  conv => lhs; unfold sumL
  rw [wrL_less h]
  rfl

set_option maxRecDepth 100000 in
set_option maxHeartbeats 1000000 in
theorem of_no (w : World) (S : Int) (A : Option Addr) (n c : Nat) (hS : szB S = false) :
    Calls Tryz.prog 29 #[.int .i64 S, .slice A n c] w fun e w' => e = .returned (.tuple #[.slice none 0 0, .int .i64 1]) ∧ Fr (fun _ => False) w w' := by
  go_enter Tryz.func29, Tryz.ntmps29
  go_wp2_with fail
  refine (begin_no w S hS).mono ?_
  rintro e w1 ⟨rfl, f1⟩
  have e0 : dc [] (.slice none 0 0) 0 0 = #[.int .u32 0, .int .u32 0, .int .u32 0, .int .u32 0, .int .u32 0, .int .u32 0, .int .u32 0, .int .u32 0, .slice none 0 0, .int .u64 0, .int .i64 0] := rfl
  rw [e0]
  have F1 := Lib.hid f1
  clear e0 f1
  have he : ∀ W, (Op.equalIn 10000 77 (.agg #[.int .u32 0, .int .u32 0, .int .u32 0, .int .u32 0, .int .u32 0, .int .u32 0, .int .u32 0, .int .u32 0]) (.agg #[.int .u32 0, .int .u32 0, .int .u32 0, .int .u32 0, .int .u32 0, .int .u32 0, .int .u32 0, .int .u32 0])).run Tryz.prog W = .ok true W := fun W => eq_cells 0 0 0 0 0 0 0 0 0 0 0 0 0 0 0 0 W
  go_wp2_with fail
  go_ret2
  exact ⟨rfl, F1.out.alloc _⟩
set_option maxRecDepth 100000 in
set_option maxHeartbeats 1000000 in
theorem of_yes (w : World) (S : Nat) (A : Option Addr) (n c : Nat) (ls : List (List UInt8)) (hS : szB (S : Int) = true) (hS2 : 1 ≤ S ∧ S ≤ 32) (hr : RdB w A n ls) (hn : n ≤ 9223372036854775807) (hl : ls.flatten.length ≤ 1000000000000) (hT : Tabs w) :
    Calls Tryz.prog 29 #[.int .i64 (S : Int), .slice A n c] w fun e w' => ∃ v, e = .returned (.tuple #[v, .int .i64 0]) ∧ w'.ownsRow w.heap.size 5 1 v S (bv (sumL (begL S) 0 ls.flatten S)) ∧ Fr (fun _ => False) w w' := by
  have HT := Lib.hid hT
  have HR := Lib.hid hr
  have HL := Lib.hid hl
  clear hT hr hl
  have hws := ws_begL S hS2.2
  have hne : at_ (begL S) 1 = 3144134277 := rfl
  go_enter Tryz.func29, Tryz.ntmps29
  go_wp2_with fail
  refine (begin_yes w S hS hS2.2 HT.out).mono ?_
  rintro e w1 ⟨rfl, f1⟩
  have F1 := Lib.hid f1
  have HWS := Lib.hid hws
  clear f1 hws
  obtain ⟨B, hB⟩ : ∃ B, begL S = B := ⟨_, rfl⟩
  rw [hB] at HWS hne ⊢
  have HBE := Lib.hid hB
  clear hB
  have he : ∀ W, (Op.equalIn 10000 77 (.agg #[.int .u32 (at_ B 0 : Nat), .int .u32 (at_ B 1 : Nat), .int .u32 (at_ B 2 : Nat), .int .u32 (at_ B 3 : Nat), .int .u32 (at_ B 4 : Nat), .int .u32 (at_ B 5 : Nat), .int .u32 (at_ B 6 : Nat), .int .u32 (at_ B 7 : Nat)]) (.agg #[.int .u32 0, .int .u32 0, .int .u32 0, .int .u32 0, .int .u32 0, .int .u32 0, .int .u32 0, .int .u32 0])).run Tryz.prog W = .ok false W := fun W => by
    have := eq_cells (at_ B 0) (at_ B 1) (at_ B 2) (at_ B 3) (at_ B 4) (at_ B 5) (at_ B 6) (at_ B 7) 0 0 0 0 0 0 0 0 W
    refine this.trans ?_
    rw [show (at_ B 1 == 0) = false from by rw [hne]; rfl]
    simp
  have q0 := Blk.new w1 79 (dc B (.slice none 0 0) 0 S)
  have q1 := F1.out.alloc (.cells (dc B (.slice none 0 0) 0 S) 79)
  have Q0 := Lib.hid q0
  have Q1 := Lib.hid q1
  clear q0 q1 hne
  unfold dc
  go_wp2_with fail
  clear he
  have hb : Blk (w1.alloc (.cells (dc B (.slice none 0 0) 0 S) 79)).drew w1.heap.size 79 (dc B (.slice none 0 0) 0 S) := Q0.out.drew
  have hf := Q1.out.drew
  have HB := Lib.hid hb
  have HF := Lib.hid hf
  clear hb hf Q0 Q1
  have hok := wrL_ok _ ls.flatten B 0 (Nat.le_refl _) HWS.out (by omega)
  have hsa := sum_again B 0 ls.flatten S HWS.out (by omega)
  have hwr : ∀ W A2 c2, Rd W A2 ls.flatten.length (bv ls.flatten) → ls.flatten.length ≤ c2 → c2 ≤ maxLen → Tabs W → Calls Tryz.prog 52 #[.agg (dc B (.slice none 0 0) 0 S), .slice A2 ls.flatten.length c2] W fun e w' => ∃ v, e = .returned (.agg (dc (wrL B 0 ls.flatten).1 v (wrL B 0 ls.flatten).2.1 S)) ∧ w'.ownsRow W.heap.size 5 1 v (wrL B 0 ls.flatten).2.2.length (bv (wrL B 0 ls.flatten).2.2) ∧ Fr (fun _ => False) W w' := fun W A2 c2 h2 h3 h4 ht => by
    have hw := write_c W B none 0 0 [] 0 S A2 ls.flatten.length c2 ls.flatten HWS.out (Rd.none_ _ _) ⟨Nat.le_refl _, by unfold maxLen; omega⟩ h2 ⟨h3, h4⟩ (by omega) (by simpa using HL.out) ht
    rw [List.nil_append] at hw
    exact hw
  have hflat := HL.out
  have hcc : ∀ W, RdB W A n ls → _ := fun W h => concat_c W A n c ls h hn (by omega)
  obtain ⟨st, hst⟩ : ∃ st, wrL B 0 ls.flatten = st := ⟨_, rfl⟩
  rw [hst] at hok hsa hwr
  clear hst
  obtain ⟨H3, N3, r3⟩ := st
  dsimp only at hok hsa hwr
  obtain ⟨⟨hH3, hN3⟩, hl3, -⟩ := hok
  dsimp only at hH3 hN3 hl3
  obtain ⟨R, hR⟩ : ∃ R, bv (sumL B 0 ls.flatten S) = R := ⟨_, rfl⟩
  have HE := Lib.hid hR
  rw [← hsa] at hR
  have HSA := Lib.hid hR
  have HWR := Lib.hid hwr
  have HCC := Lib.hid hcc
  obtain ⟨L, hL⟩ : ∃ L, ls.flatten = L := ⟨_, rfl⟩
  rw [hL] at HWR HCC
  clear hsa hwr hcc hflat hR hL
  refine (wpIn_wide (n := 9)).1 ?_
  refine wpIn_region_facts (k := 5) (Fr (fun _ => False)) (fun i v W => match i with
      | 0 => v = .agg (dc B (.slice none 0 0) 0 S)
      | 1 => v = .slice A n c
      | 2 => ∃ A2 c2, v = .slice A2 L.length c2 ∧ Rd W A2 L.length (bv L) ∧ L.length ≤ c2 ∧ c2 ≤ maxLen
      | 3 => ∃ A2 c2, v = .agg (dc H3 (.slice A2 r3.length c2) N3 S) ∧ Rd W A2 r3.length (bv r3) ∧ r3.length ≤ c2 ∧ c2 ≤ maxLen
      | _ => W.ownsRow w.heap.size 5 1 v S R) (by kernel_rfl) (by kernel_rfl) (Fr.refl _ _) (fun a b c h1 h2 => h1.trans h2 (fun _ _ h => h)) ?stab ?walk
  case stab =>
    intro i v W W' hg hx
    match i with
    | 0 => exact hx
    | 1 => exact hx
    | 2 => obtain ⟨A2, c2, h1, h2, h3, h4⟩ := hx; exact ⟨A2, c2, h1, h2.far hg, h3, h4⟩
    | 3 => obtain ⟨A2, c2, h1, h2, h3, h4⟩ := hx; exact ⟨A2, c2, h1, h2.far hg, h3, h4⟩
    | (n + 4) => exact own_fr hx hg (fun _ _ h => h)
  case walk =>
    refine factWalk_cons (fun W hW hf K hK => ?_) (fun v0 => ?_)
    · have bl := HB.out.fr (fp := fun _ => False) hW (fun h => h)
      have k0 := bl.cell 0; have k1 := bl.cell 1; have k2 := bl.cell 2; have k3 := bl.cell 3; have k4 := bl.cell 4; have k5 := bl.cell 5; have k6 := bl.cell 6; have k7 := bl.cell 7; have k8 := bl.cell 8; have k9 := bl.cell 9; have k10 := bl.cell 10
      simp only [dc, List.getElem?_toArray, List.getElem?_cons_zero, List.getElem?_cons_succ] at k0 k1 k2 k3 k4 k5 k6 k7 k8 k9 k10
      clear bl
      gi_step
      exact hK _ _ (Fr.refl _ _) rfl
    refine factWalk_cons (fun W hW hf K hK => ?_) (fun v1 => ?_)
    · gi_step
      exact hK _ _ (Fr.refl _ _) rfl
    refine factWalk_cons (fun W hW hf K hK => ?_) (fun v2 => ?_)
    · have e1 : v1 = .slice A n c := hf 1 (by omega) (by kernel_rfl)
      subst e1
      gi_step
      refine ⟨trivial, ?_⟩
      refine (callsIn_wide.2 (HCC.out W (HR.out.far (HF.out.trans hW (fun _ _ h => h))))).mono ?_
      rintro e W' ⟨v, rfl, o2, f2⟩
      obtain ⟨A2, c2, rfl, h3, h4⟩ := own_slice o2
      dsimp only
      exact hK _ _ f2 ⟨A2, c2, rfl, Rd.of_own o2, h3, h4⟩
    refine factWalk_cons (fun W hW hf K hK => ?_) (fun v3 => ?_)
    · have e0 : v0 = .agg (dc B (.slice none 0 0) 0 S) := hf 0 (by omega) (by kernel_rfl)
      obtain ⟨A2, c2, e2, h2, h3, h4⟩ : ∃ A2 c2, v2 = .slice A2 L.length c2 ∧ Rd W A2 L.length (bv L) ∧ L.length ≤ c2 ∧ c2 ≤ maxLen := hf 2 (by omega) (by kernel_rfl)
      subst e0 e2
      gi_step
      refine ⟨trivial, ?_⟩
      refine (callsIn_wide.2 (HWR.out W A2 c2 h2 h3 h4 ((HT.out.far HF.out).far hW))).mono ?_
      rintro e W' ⟨v, rfl, o2, f2⟩
      obtain ⟨A3, c3, rfl, h5, h6⟩ := own_slice o2
      dsimp only
      exact hK _ _ f2 ⟨A3, c3, rfl, Rd.of_own o2, h5, h6⟩
    refine factWalk_cons (fun W hW hf K hK => ?_) (fun v4 => ?_)
    · obtain ⟨A2, c2, e3, h2, h3, h4⟩ : ∃ A2 c2, v3 = .agg (dc H3 (.slice A2 r3.length c2) N3 S) ∧ Rd W A2 r3.length (bv r3) ∧ r3.length ≤ c2 ∧ c2 ≤ maxLen := hf 3 (by omega) (by kernel_rfl)
      subst e3
      gi_step
      refine ⟨trivial, ?_⟩
      have hs := sum_c W H3 A2 _ c2 r3 N3 S hH3 h2 ⟨h3, h4⟩ hN3 (by omega) hS hS2 ((HT.out.far HF.out).far hW)
      rw [HSA.out] at hs
      refine (callsIn_wide.2 hs).mono ?_
      rintro e W' ⟨v, rfl, o2, f2⟩
      dsimp only
      have hsz := HF.out.size
      have hsz2 := hW.size
      exact hK _ _ f2 (own_base o2 (fun k hk => by
        have h8 := (o2.lt k hk).1
        exact Nat.le_trans (Nat.le_trans hsz hsz2) h8))
    refine factWalk_nil (fun W hW hf => ?_)
    have o4 : W.ownsRow w.heap.size 5 1 v4 S R := hf 4 (by omega)
    change wpAnyIn _ _ _ _ _ _ 2 _ _ _
    refine wpAnyIn_ready (rs := [5]) (by kernel_rfl) (by simp) ?_
    refine AllReadyIn.cons rfl (fun K hK => ?_) AllReadyIn.nil
    go_simp
    refine hK _ _ ?_
    clear hK K
    refine wpAnyIn_ready (rs := [6]) (by kernel_rfl) (by simp) ?_
    refine AllReadyIn.cons rfl (fun K hK => ?_) AllReadyIn.nil
    go_simp
    refine hK _ _ ?_
    refine wpAnyIn_done (by kernel_rfl) ?_ _
    clear hK K hf
    have O4 := Lib.hid o4
    have FW := Lib.hid (HF.out.trans hW (fun _ _ h => h))
    clear o4 hW
    go_wp2_with fail
    go_ret2
    exact ⟨_, rfl, by rw [HBE.out, HE.out]; exact O4.out, FW.out⟩
end Go.Proofs.YtjaocgmicdnghaaGreatDoor

/-
  CONTRACT of digest's Short.
-/
namespace Go.Proofs.YtjaocgmicdnghaaGreatDoor
set_option linter.unusedSimpArgs false
set_option linter.unusedVariables false
open Go Go.RowKit Go.Shelf
attribute [local go_sem] Oper.semAt_some

theorem szB_16 : szB ((16 : Nat) : Int) = true := by decide
/-- Sixteen bytes as cells. -/
def b16 (q : List UInt8) : Array Value := (bv q).toArray
theorem b16_size (q : List UInt8) (h : q.length = 16) : (b16 q).size = 16 := by simp [b16, bv_length, h]
theorem b16_one (q : List UInt8) : (b16 q).all (·.oneCell') = true := all_oneCell_toArray (bv_one q)
set_option maxRecDepth 100000 in
set_option maxHeartbeats 1000000 in
theorem short_c (w : World) (A : Option Addr) (n c : Nat) (ls : List (List UInt8)) (hr : RdB w A n ls) (hn : n ≤ 9223372036854775807) (hl : ls.flatten.length ≤ 1000000000000) (hT : Tabs w) :
    Calls Tryz.prog 16 #[.slice A n c] w fun e w' => e = .returned (.agg (b16 (sumL (begL 16) 0 ls.flatten 16))) ∧ Fr (fun _ => False) w w' := by
  have hof := fun (W : World) (hW : Fr (fun _ => False) w W) => of_yes W 16 A n c ls szB_16 (by omega) (hr.far hW) hn hl (hT.far hW)
  obtain ⟨q, hq⟩ : ∃ q, sumL (begL 16) 0 ls.flatten 16 = q := ⟨_, rfl⟩
  have hql : q.length = 16 := by rw [← hq]; exact bytesL_len _ _
  rw [hq] at hof ⊢
  have HOF := Lib.hid hof
  have HQL := Lib.hid hql
  clear hof hr hn hl hq hql hT
  have hsz : (Tryz.prog.info? 23).map (·.size) = some (b16 q).size := by rw [b16_size q HQL.out]; kernel_rfl
  have HSZ := Lib.hid hsz
  have HONE := Lib.hid (b16_one q)
  clear hsz
  go_enter Tryz.func16, Tryz.ntmps16
  go_upto_region 1 with fail
  refine abs_world (fun W => Hid (Blk W w.heap.size 23 #[.int .u8 0, .int .u8 0, .int .u8 0, .int .u8 0, .int .u8 0, .int .u8 0, .int .u8 0, .int .u8 0, .int .u8 0, .int .u8 0, .int .u8 0, .int .u8 0, .int .u8 0, .int .u8 0, .int .u8 0, .int .u8 0]) ∧ Hid (Fr (fun _ => False) w W)) ⟨Blk.new w _ _, (Fr.refl _ w).alloc _⟩ ?_
  rintro W1 ⟨B0, HF1⟩
  go_wp2_with fail
  refine (HOF.out W1 HF1.out).mono ?_
  rintro e w2 ⟨v, rfl, o2, f2⟩
  obtain ⟨g, cap, h0, -, -⟩ := o2.form (by omega)
  obtain rfl := h0
  have hcs := o2.cells (g := g) rfl
  have hlt := o2.lt g rfl
  have hra : w2.rangeAt g 0 (bv q) := fun j u hu => by
    have h := hcs j u hu
    rw [Addr.add_lit] at h
    exact h
  have hb2 := B0.out.fr f2 (fun h => h)
  have hth : w2.there w.heap.size 0 (b16 q).size := by rw [b16_size q HQL.out]; exact hb2.there
  have hst := hb2.setAll (ds := b16 q) (by rw [b16_size q HQL.out]; rfl)
  have hil : (Tryz.prog.info? 23).map (·.size) = some (bv q).length := by rw [bv_length, HQL.out]; kernel_rfl
  have HRA := Lib.hid hra
  have HIL := Lib.hid hil
  have HTH := Lib.hid hth
  have HST := Lib.hid hst
  have FST := Lib.hid (Fr.setCells (fp := fun k => k = w.heap.size) (a := w2) (g := w.heap.size) (fun _ => rfl) (b16 q).toList 0 w2 (Fr.refl _ _))
  have F2 := Lib.hid (HF1.out.trans f2 (fun _ _ h => h))
  clear hcs hlt hra hb2 hth hst hil o2 f2 HOF
  have hat : ∀ W, (Instr.arrayAt 23 (.slice (some ⟨g, 0, none⟩) 16 cap)).run Tryz.prog W = .ok (.pointer (some ⟨g, 0, none⟩)) W := fun W => run_arrayAt W 23 _ 16 _ 16 cap Tryz.underlying23 (Nat.le_refl _)
  go_wp2_with (first
    | refine wpList_load_mid rfl 23 _ rfl g 0 rfl (bv q) _ HRA.out Tryz.underlying23 rfl HIL.out ?_
    | refine wpList_store_mid rfl 23 _ _ rfl w.heap.size 0 (b16 q) rfl rfl HTH.out HSZ.out HONE.out ?_)
  generalize w2.setCells w.heap.size 0 (b16 q).toList = w9 at *
  refine bodyPost_ret (v := .agg (b16 q)) (results_cell_row Tryz.results16 _ _ w.heap.size 23 _ (0, 0) _ rfl HST.out Tryz.underlying23 rfl HSZ.out) rfl ?_
  exact ⟨rfl, F2.out.trans FST.out (fun k hk e => by omega)⟩
end Go.Proofs.YtjaocgmicdnghaaGreatDoor
