/-
  CONTRACTS of digest's Of and Short.
-/
import Derived.Test.YtjaocgmicdnghaaDoorEq8
namespace Go.Proofs.YtjaocgmicdnghaaDoor
set_option linter.unusedSimpArgs false
set_option linter.unusedVariables false
open Go Go.RowKit

theorem sum_again (H : List Nat) (N : Nat) (l : List UInt8) (S : Nat) (hH : Ws 8 H) (hN : N < 18446744073709551616) : sumL (wrL H N l).1 (wrL H N l).2.1 (wrL H N l).2.2 S = sumL H N l S := by
  have h := (wrL_ok _ l H N (Nat.le_refl _) hH hN).2.1
  conv => lhs; unfold sumL
  rw [wrL_less h]
  rfl

set_option maxRecDepth 100000 in
set_option maxHeartbeats 1000000 in
theorem of_no (w : World) (S : Int) (A : Option Addr) (n c : Nat) (hS : szB S = false) :
    Calls Tryd.prog 36 #[.int .i64 S, .slice A n c] w fun e w' => e = .returned (.tuple #[.slice none 0 0, .int .i64 1]) ∧ Fr (fun _ => False) w w' := by
  go_enter Tryd.func36, Tryd.ntmps36
  go_wp2_with fail
  refine (begin_no w S hS).mono ?_
  rintro e w1 ⟨rfl, f1⟩
  have e0 : dc [] (.slice none 0 0) 0 0 = #[.int .u32 0, .int .u32 0, .int .u32 0, .int .u32 0, .int .u32 0, .int .u32 0, .int .u32 0, .int .u32 0, .slice none 0 0, .int .u64 0, .int .i64 0] := rfl
  rw [e0]
  have F1 := Lib.hid f1
  clear e0 f1
  have he : ∀ W, (Op.equalIn 10000 90 (.agg #[.int .u32 0, .int .u32 0, .int .u32 0, .int .u32 0, .int .u32 0, .int .u32 0, .int .u32 0, .int .u32 0]) (.agg #[.int .u32 0, .int .u32 0, .int .u32 0, .int .u32 0, .int .u32 0, .int .u32 0, .int .u32 0, .int .u32 0])).run Tryd.prog W = .ok true W := fun W => eq_cells 0 0 0 0 0 0 0 0 0 0 0 0 0 0 0 0 W
  go_wp2_with fail
  go_ret2
  exact ⟨rfl, F1.out.alloc _⟩
set_option maxRecDepth 100000 in
set_option maxHeartbeats 1000000 in
theorem of_yes (w : World) (S : Nat) (A : Option Addr) (n c : Nat) (ls : List (List UInt8)) (hS : szB (S : Int) = true) (hS2 : 1 ≤ S ∧ S ≤ 32) (hr : RdB w A n ls) (hn : n ≤ 9223372036854775807) (hl : ls.flatten.length ≤ 1000000000000) (hT : Tabs w) :
    Calls Tryd.prog 36 #[.int .i64 (S : Int), .slice A n c] w fun e w' => ∃ v, e = .returned (.tuple #[v, .int .i64 0]) ∧ w'.ownsRow w.heap.size 5 1 v S (bv (sumL (begL S) 0 ls.flatten S)) ∧ Fr (fun _ => False) w w' := by
  have HT := Lib.hid hT
  have HR := Lib.hid hr
  have HL := Lib.hid hl
  clear hT hr hl
  have hws := ws_begL S hS2.2
  have hne : at_ (begL S) 1 = 3144134277 := rfl
  go_enter Tryd.func36, Tryd.ntmps36
  go_wp2_with fail
  refine (begin_yes w S hS hS2.2 HT.out).mono ?_
  rintro e w1 ⟨rfl, f1⟩
  have F1 := Lib.hid f1
  have HWS := Lib.hid hws
  clear f1 hws
  obtain ⟨B, hB⟩ : ∃ B, begL S = B := ⟨_, rfl⟩
  rw [hB] at HWS hne ⊢
  have HBE := Lib.hid hB
  clear hB
  have he : ∀ W, (Op.equalIn 10000 90 (.agg #[.int .u32 (at_ B 0 : Nat), .int .u32 (at_ B 1 : Nat), .int .u32 (at_ B 2 : Nat), .int .u32 (at_ B 3 : Nat), .int .u32 (at_ B 4 : Nat), .int .u32 (at_ B 5 : Nat), .int .u32 (at_ B 6 : Nat), .int .u32 (at_ B 7 : Nat)]) (.agg #[.int .u32 0, .int .u32 0, .int .u32 0, .int .u32 0, .int .u32 0, .int .u32 0, .int .u32 0, .int .u32 0])).run Tryd.prog W = .ok false W := fun W => by
    have := eq_cells (at_ B 0) (at_ B 1) (at_ B 2) (at_ B 3) (at_ B 4) (at_ B 5) (at_ B 6) (at_ B 7) 0 0 0 0 0 0 0 0 W
    refine this.trans ?_
    rw [show (at_ B 1 == 0) = false from by rw [hne]; rfl]
    simp
  have q0 := Blk.new w1 92 (dc B (.slice none 0 0) 0 S)
  have q1 := F1.out.alloc (.cells (dc B (.slice none 0 0) 0 S) 92)
  have Q0 := Lib.hid q0
  have Q1 := Lib.hid q1
  clear q0 q1 hne
  unfold dc
  go_wp2_with fail
  clear he
  have hb : Blk (w1.alloc (.cells (dc B (.slice none 0 0) 0 S) 92)).drew w1.heap.size 92 (dc B (.slice none 0 0) 0 S) := Q0.out.drew
  have hf := Q1.out.drew
  have HB := Lib.hid hb
  have HF := Lib.hid hf
  clear hb hf Q0 Q1
  have hok := wrL_ok _ ls.flatten B 0 (Nat.le_refl _) HWS.out (by omega)
  have hsa := sum_again B 0 ls.flatten S HWS.out (by omega)
  have hwr : ∀ W A2 c2, Rd W A2 ls.flatten.length (bv ls.flatten) → ls.flatten.length ≤ c2 → c2 ≤ maxLen → Tabs W → Calls Tryd.prog 61 #[.agg (dc B (.slice none 0 0) 0 S), .slice A2 ls.flatten.length c2] W fun e w' => ∃ v, e = .returned (.agg (dc (wrL B 0 ls.flatten).1 v (wrL B 0 ls.flatten).2.1 S)) ∧ w'.ownsRow W.heap.size 5 1 v (wrL B 0 ls.flatten).2.2.length (bv (wrL B 0 ls.flatten).2.2) ∧ Fr (fun _ => False) W w' := fun W A2 c2 h2 h3 h4 ht => by
    have hw := write_c W B none 0 0 [] 0 S A2 ls.flatten.length c2 ls.flatten HWS.out (Rd.none_ _ _) ⟨Nat.le_refl _, by unfold maxLen; omega⟩ h2 ⟨h3, h4⟩ (by omega) (by simpa using HL.out) ht
    rw [List.nil_append] at hw
    exact hw
  have hflat := HL.out
  have hcc : ∀ W, RdB W A n ls → _ := fun W h => concat_c W A n c ls h hn (by omega)
  obtain ⟨st, hst⟩ : ∃ st, wrL B 0 ls.flatten = st := ⟨_, rfl⟩
  rw [hst] at hok hsa hwr
  clear hst
  obtain ⟨H3, N3, r3⟩ := st
  dsimp only at hok hsa hwr
  obtain ⟨⟨hH3, hN3⟩, hl3, -⟩ := hok
  dsimp only at hH3 hN3 hl3
  obtain ⟨R, hR⟩ : ∃ R, bv (sumL B 0 ls.flatten S) = R := ⟨_, rfl⟩
  have HE := Lib.hid hR
  rw [← hsa] at hR
  have HSA := Lib.hid hR
  have HWR := Lib.hid hwr
  have HCC := Lib.hid hcc
  obtain ⟨L, hL⟩ : ∃ L, ls.flatten = L := ⟨_, rfl⟩
  rw [hL] at HWR HCC
  clear hsa hwr hcc hflat hR hL
  refine (wpIn_wide (n := 9)).1 ?_
  refine wpIn_region_facts (k := 5) (Fr (fun _ => False)) (fun i v W => match i with
      | 0 => v = .agg (dc B (.slice none 0 0) 0 S)
      | 1 => v = .slice A n c
      | 2 => ∃ A2 c2, v = .slice A2 L.length c2 ∧ Rd W A2 L.length (bv L) ∧ L.length ≤ c2 ∧ c2 ≤ maxLen
      | 3 => ∃ A2 c2, v = .agg (dc H3 (.slice A2 r3.length c2) N3 S) ∧ Rd W A2 r3.length (bv r3) ∧ r3.length ≤ c2 ∧ c2 ≤ maxLen
      | _ => W.ownsRow w.heap.size 5 1 v S R) (by kernel_rfl) (by kernel_rfl) (Fr.refl _ _) (fun a b c h1 h2 => h1.trans h2 (fun _ _ h => h)) ?stab ?walk
  case stab =>
    intro i v W W' hg hx
    match i with
    | 0 => exact hx
    | 1 => exact hx
    | 2 => obtain ⟨A2, c2, h1, h2, h3, h4⟩ := hx; exact ⟨A2, c2, h1, h2.far hg, h3, h4⟩
    | 3 => obtain ⟨A2, c2, h1, h2, h3, h4⟩ := hx; exact ⟨A2, c2, h1, h2.far hg, h3, h4⟩
    | (n + 4) => exact own_fr hx hg (fun _ _ h => h)
  case walk =>
    refine factWalk_cons (fun W hW hf K hK => ?_) (fun v0 => ?_)
    · have bl := HB.out.fr (fp := fun _ => False) hW (fun h => h)
      have k0 := bl.cell 0; have k1 := bl.cell 1; have k2 := bl.cell 2; have k3 := bl.cell 3; have k4 := bl.cell 4; have k5 := bl.cell 5; have k6 := bl.cell 6; have k7 := bl.cell 7; have k8 := bl.cell 8; have k9 := bl.cell 9; have k10 := bl.cell 10
      simp only [dc, List.getElem?_toArray, List.getElem?_cons_zero, List.getElem?_cons_succ] at k0 k1 k2 k3 k4 k5 k6 k7 k8 k9 k10
      clear bl
      gi_step
      exact hK _ _ (Fr.refl _ _) rfl
    refine factWalk_cons (fun W hW hf K hK => ?_) (fun v1 => ?_)
    · gi_step
      exact hK _ _ (Fr.refl _ _) rfl
    refine factWalk_cons (fun W hW hf K hK => ?_) (fun v2 => ?_)
    · have e1 : v1 = .slice A n c := hf 1 (by omega) (by kernel_rfl)
      subst e1
      gi_step
      refine ⟨trivial, ?_⟩
      refine (callsIn_wide.2 (HCC.out W (HR.out.far (HF.out.trans hW (fun _ _ h => h))))).mono ?_
      rintro e W' ⟨v, rfl, o2, f2⟩
      obtain ⟨A2, c2, rfl, h3, h4⟩ := own_slice o2
      dsimp only
      exact hK _ _ f2 ⟨A2, c2, rfl, Rd.of_own o2, h3, h4⟩
    refine factWalk_cons (fun W hW hf K hK => ?_) (fun v3 => ?_)
    · have e0 : v0 = .agg (dc B (.slice none 0 0) 0 S) := hf 0 (by omega) (by kernel_rfl)
      obtain ⟨A2, c2, e2, h2, h3, h4⟩ : ∃ A2 c2, v2 = .slice A2 L.length c2 ∧ Rd W A2 L.length (bv L) ∧ L.length ≤ c2 ∧ c2 ≤ maxLen := hf 2 (by omega) (by kernel_rfl)
      subst e0 e2
      gi_step
      refine ⟨trivial, ?_⟩
      refine (callsIn_wide.2 (HWR.out W A2 c2 h2 h3 h4 ((HT.out.far HF.out).far hW))).mono ?_
      rintro e W' ⟨v, rfl, o2, f2⟩
      obtain ⟨A3, c3, rfl, h5, h6⟩ := own_slice o2
      dsimp only
      exact hK _ _ f2 ⟨A3, c3, rfl, Rd.of_own o2, h5, h6⟩
    refine factWalk_cons (fun W hW hf K hK => ?_) (fun v4 => ?_)
    · obtain ⟨A2, c2, e3, h2, h3, h4⟩ : ∃ A2 c2, v3 = .agg (dc H3 (.slice A2 r3.length c2) N3 S) ∧ Rd W A2 r3.length (bv r3) ∧ r3.length ≤ c2 ∧ c2 ≤ maxLen := hf 3 (by omega) (by kernel_rfl)
      subst e3
      gi_step
      refine ⟨trivial, ?_⟩
      have hs := sum_c W H3 A2 _ c2 r3 N3 S hH3 h2 ⟨h3, h4⟩ hN3 (by omega) hS hS2 ((HT.out.far HF.out).far hW)
      rw [HSA.out] at hs
      refine (callsIn_wide.2 hs).mono ?_
      rintro e W' ⟨v, rfl, o2, f2⟩
      dsimp only
      have hsz := HF.out.size
      have hsz2 := hW.size
      exact hK _ _ f2 (own_base o2 (fun k hk => by
        have h8 := (o2.lt k hk).1
        exact Nat.le_trans (Nat.le_trans hsz hsz2) h8))
    refine factWalk_nil (fun W hW hf => ?_)
    have o4 : W.ownsRow w.heap.size 5 1 v4 S R := hf 4 (by omega)
    change wpAnyIn _ _ _ _ _ _ 2 _ _ _
    refine wpAnyIn_ready (rs := [5]) (by kernel_rfl) (by simp) ?_
    refine AllReadyIn.cons rfl (fun K hK => ?_) AllReadyIn.nil
    go_simp
    refine hK _ _ ?_
    clear hK K
    refine wpAnyIn_ready (rs := [6]) (by kernel_rfl) (by simp) ?_
    refine AllReadyIn.cons rfl (fun K hK => ?_) AllReadyIn.nil
    go_simp
    refine hK _ _ ?_
    refine wpAnyIn_done (by kernel_rfl) ?_ _
    clear hK K hf
    have O4 := Lib.hid o4
    have FW := Lib.hid (HF.out.trans hW (fun _ _ h => h))
    clear o4 hW
    go_wp2_with fail
    go_ret2
    exact ⟨_, rfl, by rw [HBE.out, HE.out]; exact O4.out, FW.out⟩
end Go.Proofs.YtjaocgmicdnghaaDoor
