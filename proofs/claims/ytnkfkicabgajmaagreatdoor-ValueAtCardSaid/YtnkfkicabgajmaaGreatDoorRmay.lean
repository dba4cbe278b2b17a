/-
  CONTRACT of the reference's May, given that of its fields.
-/
import Derived.Test.YtnkfkicabgajmaaGreatDoorRpc
import Derived.Test.YtnkfkicabgajmaaGreatDoorDeep
namespace Go.Proofs.YtnkfkicabgajmaaGreatDoor
set_option linter.unusedSimpArgs false
set_option linter.unusedVariables false
open Go Go.RowKit

def FieldsC : Prop := ∀ (v : V) (w : World) (D : Nat → Prop) (C : Array Value), RdV D w C v → Calls Tryz.prog 31 #[.agg C] w fun e w' => e = .returned (.bool (fieldsV v)) ∧ Fr (fun _ => False) w w'
theorem RdV.nums {D : Nat → Prop} {w : World} {C : Array Value} {v : V} (h : RdV D w C v) : Nums v := by
  induction h with
  | mk css a b c d e f g i j m ih =>
    refine .mk a.n0 a.n1 (fun x hx => ?_)
    obtain ⟨q, hq, rfl⟩ := List.getElem_of_mem hx
    exact ih q _ _ (List.getElem?_eq_getElem (by rw [e]; exact hq)) (List.getElem?_eq_getElem hq)
set_option maxRecDepth 100000 in
set_option maxHeartbeats 4000000 in
theorem rmay_gen (RF : FieldsC) (v : V) (w : World) {D : Nat → Prop} {C : Array Value} (h : RdV D w C v) (hs : Sm v) (hl : fieldsV v = true → (prV v).length ≤ 1000000000) :
    Calls Tryz.prog 11 #[.agg C] w fun e w' => e = .returned (.bool (mayV v)) ∧ Fr (fun _ => False) w w' := by
  have R1 := Lib.hid h
  obtain ⟨k1, n1, t1, l1, ks1, Al1, cl1, Ak1, ck1, css1, ea1, rfl, -⟩ := h.inv
  have Z1 := Lib.hid (szV h)
  have HS := Lib.hid hs
  have HN := Lib.hid h.nums
  have HLG := Lib.hid hl
  have HRF := Lib.hid RF
  have hbd := deepV_bd v 15
  have hdi := deep_is v
  obtain ⟨z, hz⟩ : ∃ z, mayV v = z := ⟨_, rfl⟩
  rw [hz]
  unfold mayV at hz
  rw [← hdi] at hz
  have HZ := Lib.hid hz
  obtain ⟨g, hg⟩ : ∃ g, w.heap.size = g := ⟨_, rfl⟩
  have HG := Lib.hid hg
  have DC := Lib.hid (fun W (hW : Fr (fun _ => False) w W) => rdeep_c v 15 (by omega) W _ _ (h.far hW))
  clear h hs hl hz hg ea1 hdi RF
  obtain ⟨q, hq⟩ : ∃ q, deepV v 15 = q := ⟨_, rfl⟩
  rw [hq] at DC HZ hbd
  clear hq
  go_enter Tryz.func11, Tryz.ntmps11
  go_upto_region 1 with fail
  refine abs_world (fun W => Hid (Blk W w.heap.size 25 (vcs k1 n1 t1 Al1 l1.length cl1 Ak1 ks1.length ck1)) ∧ Hid (Fr (fun _ => False) w W)) ⟨Blk.new w _ _, (Fr.refl _ w).alloc _⟩ ?_
  rintro W1 ⟨B1, F⟩
  rw [HG.out] at B1 ⊢
  have A1 := Lib.hid (blk_all B1.out)
  go_wp2_with (refine wpList_load_val rfl 25 _ rfl g _ rfl _ A1.out _ Tryz.underlying25 rfl Z1.out ?_)
  refine (DC.out W1 F.out).mono ?_
  rintro e W2 ⟨rfl, f⟩
  have B2 := Lib.hid (keepB B1.out f)
  have F2 : Hid (Fr (fun _ => False) w W2) := Lib.hid (F.out.trans f (fun _ _ h => h))
  clear f DC A1 B1 F
  have c0 : W2.cell? ⟨g, 0, none⟩ = some (.int .i64 k1) := B2.out.cell 0
  have c1 : W2.cell? ⟨g, 1, none⟩ = some (.int .i64 n1) := B2.out.cell 1
  have c2 : W2.cell? ⟨g, 2, none⟩ = some (.string (strOf t1)) := B2.out.cell 2
  have c3 : W2.cell? ⟨g, 3, none⟩ = some (.slice Al1 l1.length cl1) := B2.out.cell 3
  have c4 : W2.cell? ⟨g, 4, none⟩ = some (.slice Ak1 ks1.length ck1) := B2.out.cell 4
  by_cases h8 : q ≤ 8
  case neg =>
    have d1 : decide ((q : Int) ≤ 8) = false := decide_eq_false (by omega)
    have d1' : decide (q ≤ 8) = false := decide_eq_false h8
    have HF : Hid (z = false) := Lib.hid (by rw [← HZ.out, d1']; rfl)
    go_wp2_with fail
    go_ret
    exact ⟨ret_bool HF.out.symm, F2.out⟩
  have d1 : decide ((q : Int) ≤ 8) = true := decide_eq_true (by omega)
  have d1' : decide (q ≤ 8) = true := decide_eq_true h8
  have FC := Lib.hid (HRF.out v W2 _ _ (R1.out.far F2.out))
  cases hf : fieldsV v with
  | false =>
    have HF : Hid (z = false) := Lib.hid (by rw [← HZ.out, hf]; simp)
    rw [hf] at FC
    clear hf
    go_wp2_with fail
    refine FC.out.mono ?_
    rintro e W3 ⟨rfl, f⟩
    have F3 : Hid (Fr (fun _ => False) w W3) := Lib.hid (F2.out.trans f (fun _ _ h => h))
    clear f
    go_wp2_with fail
    go_ret
    exact ⟨ret_bool HF.out.symm, F3.out⟩
  | true =>
    rw [hf] at FC
    have hpl := prV_len v hf
    have hbp := HLG.out hf
    have PC := Lib.hid (fun W (hW : Fr (fun _ => False) w W) => rprint_c v hf hbp HS.out W _ _ (R1.out.far hW))
    have HF : Hid (z = decide ((prV v).length ≤ 512)) := Lib.hid (by rw [← HZ.out, hf, d1', hpl]; simp)
    clear hf hpl hbp
    go_wp2_with fail
    refine FC.out.mono ?_
    rintro e W3 ⟨rfl, f⟩
    have B3 := Lib.hid (keepB B2.out f)
    have F3 : Hid (Fr (fun _ => False) w W3) := Lib.hid (F2.out.trans f (fun _ _ h => h))
    clear f c0 c1 c2 c3 c4
    have c0 : W3.cell? ⟨g, 0, none⟩ = some (.int .i64 k1) := B3.out.cell 0
    have c1 : W3.cell? ⟨g, 1, none⟩ = some (.int .i64 n1) := B3.out.cell 1
    have c2 : W3.cell? ⟨g, 2, none⟩ = some (.string (strOf t1)) := B3.out.cell 2
    have c3 : W3.cell? ⟨g, 3, none⟩ = some (.slice Al1 l1.length cl1) := B3.out.cell 3
    have c4 : W3.cell? ⟨g, 4, none⟩ = some (.slice Ak1 ks1.length ck1) := B3.out.cell 4
    go_wp2_with fail
    refine (PC.out W3 F3.out).mono ?_
    rintro e W4 ⟨rfl, f⟩
    have F4 : Hid (Fr (fun _ => False) w W4) := Lib.hid (F3.out.trans f (fun _ _ h => h))
    clear f
    have hsz := strOf_size (prV v)
    by_cases h5 : (prV v).length ≤ 512
    case pos =>
      have d5 : decide (((prV v).length : Int) ≤ 512) = true := decide_eq_true (by omega)
      have d5' : decide ((prV v).length ≤ 512) = true := decide_eq_true h5
      have HT : Hid (z = true) := Lib.hid (HF.out.trans d5')
      go_wp2_with fail
      go_ret
      exact ⟨ret_bool HT.out.symm, F4.out⟩
    case neg =>
      have d5 : decide (((prV v).length : Int) ≤ 512) = false := decide_eq_false (by omega)
      have d5' : decide ((prV v).length ≤ 512) = false := decide_eq_false h5
      have HT : Hid (z = false) := Lib.hid (HF.out.trans d5')
      go_wp2_with fail
      go_ret
      exact ⟨ret_bool HT.out.symm, F4.out⟩
theorem rmay_of (RF : FieldsC) (v : V) (w : World) {D : Nat → Prop} {C : Array Value} (h : RdV D w C v) (hl : decide (4000 < partsV v 20) = false) :
    Calls Tryz.prog 11 #[.agg C] w fun e w' => e = .returned (.bool (mayV v)) ∧ Fr (fun _ => False) w w' :=
  rmay_gen RF v w h (sm_of_not_long hl) (fun hf => prV_not_long hf h.nums hl)
end Go.Proofs.YtnkfkicabgajmaaGreatDoor
