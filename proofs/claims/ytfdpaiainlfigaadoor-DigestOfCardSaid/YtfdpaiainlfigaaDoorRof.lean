/-
  CONTRACTS of the reference's Of and Short, and of digest's Short.
-/
import Derived.Test.YtfdpaiainlfigaaDoorRsmall
import Derived.Test.YtfdpaiainlfigaaDoorPar3
import Derived.Deep.MidRow
import Derived.Laws.Cover3
namespace Go.Proofs.YtfdpaiainlfigaaDoor
set_option linter.unusedSimpArgs false
set_option linter.unusedVariables false
open Go Go.RowKit Go.Shelf
attribute [local go_sem] Oper.semAt_some

set_option maxRecDepth 100000 in
set_option maxHeartbeats 1000000 in
theorem rof_c (w : World) (S : Nat) (A : Option Addr) (n c : Nat) (b : List UInt8) (hS : 1 ≤ S ∧ S ≤ 32) (hA : Rd w A n (bv b)) (hn : n ≤ c ∧ c ≤ maxLen) (hl : b.length ≤ 100000000000) :
    Calls Tryd.prog 22 #[.int .i64 (S : Int), .slice A n c] w fun e w' => ∃ v, e = .returned v ∧ w'.ownsRow w.heap.size 5 1 v S (bv (sumL (begL S) 0 b S)) ∧ Fr (fun _ => False) w w' := by
  have HA := Lib.hid hA
  have HL := Lib.hid hl
  have HN := Lib.hid hn
  have hw0 := ws_begL S hS.2
  have hok := wrL_ok _ b (begL S) 0 (Nat.le_refl _) hw0 (by omega)
  have hsa := sum_again (begL S) 0 b S hw0 (by omega)
  obtain ⟨B, hB⟩ : ∃ B, begL S = B := ⟨_, rfl⟩
  rw [hB] at hw0 hok hsa ⊢
  obtain ⟨st, hst⟩ : ∃ st, wrL B 0 b = st := ⟨_, rfl⟩
  rw [hst] at hok hsa
  obtain ⟨H1, N1, r1⟩ := st
  dsimp only at hok hsa
  obtain ⟨⟨hH1, hN1⟩, hl1, -⟩ := hok
  dsimp only at hH1 hN1 hl1
  have HW0 := Lib.hid hw0
  have HB := Lib.hid hB
  have HST := Lib.hid hst
  have HSA := Lib.hid hsa
  have HH1 := Lib.hid hH1
  have HN1 := Lib.hid hN1
  have HL1 := Lib.hid hl1
  clear hA hl hn hw0 hB hst hsa hH1 hN1 hl1
  go_enter Tryd.func22, Tryd.ntmps22
  go_wp2_with fail
  refine (rbegin_c w S hS.2).mono ?_
  rintro e w1 ⟨rfl, f1⟩
  rw [HB.out]
  have F1 := Lib.hid f1
  clear f1
  go_wp2_with fail
  have hw := rwrite_c w1 B none 0 0 [] 0 S A n c b HW0.out (Rd.none_ _ _) ⟨Nat.le_refl _, by unfold maxLen; omega⟩ (HA.out.far F1.out) HN.out (by omega) (by simpa using Nat.le_trans HL.out (by omega))
  rw [List.nil_append, HST.out] at hw
  refine hw.mono ?_
  clear hw
  rintro e w2 ⟨v, rfl, o2, f2⟩
  dsimp only
  obtain ⟨A2, c2, rfl, rd2, h1, h2, -⟩ := o2.slice
  have F2 := Lib.hid (F1.out.trans f2 (fun _ _ h => h))
  have RD2 := Lib.hid rd2
  have H12 := Lib.hid (And.intro h1 h2)
  clear o2 f2 rd2 h1 h2
  go_wp2_with fail
  have hw := rsum_c w2 H1 A2 r1.length c2 r1 N1 S HH1.out RD2.out H12.out HN1.out (by have := HL1.out; omega) hS
  rw [HSA.out] at hw
  refine hw.mono ?_
  clear hw
  rintro e w3 ⟨v, rfl, o3, f3⟩
  have O3 := Lib.hid o3
  have F3 := Lib.hid (F2.out.trans f3 (fun _ _ h => h))
  have HZ := Lib.hid F2.out.size
  clear o3 f3
  go_wp2_with fail
  go_ret
  exact ⟨_, rfl, own_base O3.out (fun k hk => Nat.le_trans HZ.out (O3.out.lt k hk).1), F3.out⟩
/-- Sixteen bytes as cells. -/
def b16 (q : List UInt8) : Array Value := (bv q).toArray
theorem b16_size (q : List UInt8) (h : q.length = 16) : (b16 q).size = 16 := by simp [b16, bv_length, h]
theorem b16_one (q : List UInt8) : (b16 q).all (·.oneCell') = true := all_oneCell_toArray (bv_one q)
def rshX (g : Nat) (A : Option Addr) (n c : Nat) (q : List UInt8) (i : Nat) (v : Value) (W : World) : Prop := match i with
  | 0 => v = .slice (some ⟨g, 0, none⟩) 16 16
  | 1 => v = .slice A n c
  | 2 => ∃ A9 c9, v = .slice A9 16 c9 ∧ Rd W A9 16 (bv q)
  | 3 => v = .int .i64 16
  | _ => True
theorem rshX_far {g : Nat} {A : Option Addr} {n c : Nat} {q : List UInt8} {i : Nat} {v : Value} {W W' : World} (hg : Fr (fun _ => False) W W') (hx : rshX g A n c q i v W) : rshX g A n c q i v W' := by
  match i with
  | 0 => exact hx
  | 1 => exact hx
  | 2 => obtain ⟨a, c, e, r⟩ := hx; exact ⟨a, c, e, r.far hg⟩
  | 3 => exact hx
  | (n + 4) => exact hx
set_option maxRecDepth 100000 in
set_option maxHeartbeats 1000000 in
theorem rshort_c (w : World) (A : Option Addr) (n c : Nat) (b : List UInt8) (hA : Rd w A n (bv b)) (hn : n ≤ c ∧ c ≤ maxLen) (hl : b.length ≤ 100000000000) :
    Calls Tryd.prog 20 #[.slice A n c] w fun e w' => e = .returned (.agg (b16 (sumL (begL 16) 0 b 16))) ∧ Fr (fun _ => False) w w' := by
  obtain ⟨q, hq⟩ : ∃ q, sumL (begL 16) 0 b 16 = q := ⟨_, rfl⟩
  have hql : q.length = 16 := by rw [← hq]; exact bytesL_len _ _
  have hof : ∀ W, Fr (fun _ => False) w W → Calls Tryd.prog 22 #[.int .i64 16, .slice A n c] W fun e w' => ∃ A9 c9, e = .returned (.slice A9 16 c9) ∧ Rd w' A9 16 (bv q) ∧ Fr (fun _ => False) W w' := fun W hW => by
    have h := rof_c W 16 A n c b (by omega) (hA.far hW) hn hl
    rw [hq] at h
    refine h.mono ?_
    rintro e w' ⟨v, rfl, o, f⟩
    obtain ⟨A9, c9, rfl, -, -⟩ := own_slice o
    exact ⟨A9, c9, rfl, Rd.of_own o, f⟩
  rw [hq]
  have HOF0 := Lib.hid hof
  have HQL := Lib.hid hql
  clear hof hA hn hl hq hql
  go_enter Tryd.func20, Tryd.ntmps20
  go_upto_region 2 with fail
  refine abs_world (fun W => Hid (Blk W w.heap.size 43 #[.int .u8 0, .int .u8 0, .int .u8 0, .int .u8 0, .int .u8 0, .int .u8 0, .int .u8 0, .int .u8 0, .int .u8 0, .int .u8 0, .int .u8 0, .int .u8 0, .int .u8 0, .int .u8 0, .int .u8 0, .int .u8 0]) ∧ Hid (Blk W (w.heap.size + 1) 43 #[.int .u8 0, .int .u8 0, .int .u8 0, .int .u8 0, .int .u8 0, .int .u8 0, .int .u8 0, .int .u8 0, .int .u8 0, .int .u8 0, .int .u8 0, .int .u8 0, .int .u8 0, .int .u8 0, .int .u8 0, .int .u8 0]) ∧ Hid (Fr (fun _ => False) w W)) ?_ ?_
  · have b0 := Blk.new w 43 #[.int .u8 0, .int .u8 0, .int .u8 0, .int .u8 0, .int .u8 0, .int .u8 0, .int .u8 0, .int .u8 0, .int .u8 0, .int .u8 0, .int .u8 0, .int .u8 0, .int .u8 0, .int .u8 0, .int .u8 0, .int .u8 0]
    have b1 := Blk.new (w.alloc (.cells #[.int .u8 0, .int .u8 0, .int .u8 0, .int .u8 0, .int .u8 0, .int .u8 0, .int .u8 0, .int .u8 0, .int .u8 0, .int .u8 0, .int .u8 0, .int .u8 0, .int .u8 0, .int .u8 0, .int .u8 0, .int .u8 0] 43)) 43 #[.int .u8 0, .int .u8 0, .int .u8 0, .int .u8 0, .int .u8 0, .int .u8 0, .int .u8 0, .int .u8 0, .int .u8 0, .int .u8 0, .int .u8 0, .int .u8 0, .int .u8 0, .int .u8 0, .int .u8 0, .int .u8 0]
    rw [World.size_alloc] at b1
    exact ⟨b0.alloc _, b1, ((Fr.refl _ w).alloc _).alloc _⟩
  rintro W1 ⟨B0, B1, HF1⟩
  obtain ⟨g, hg⟩ : ∃ g, w.heap.size + 1 = g := ⟨_, rfl⟩
  rw [hg] at B1 ⊢
  have HG := Lib.hid hg
  clear hg
  have hof2 := fun W (hW : Fr (fun _ => False) W1 W) => HOF0.out W (HF1.out.trans hW (fun _ _ h => h))
  have HOF := Lib.hid hof2
  clear hof2 HOF0
  refine (wpIn_wide (n := 9)).1 ?_
  refine wpIn_region_factsG (ms := [0, 0, 2, 7]) (k := 3) (Fr (fun _ => False)) (rshX g A n c q) (fun i v W => True) (by kernel_rfl) (by kernel_rfl) (Fr.refl _ _) (fun a b c h1 h2 => h1.trans h2 (fun _ _ h => h)) (fun i v w w' hg hx => rshX_far hg hx) ?walk2
  case walk2 =>
  have hdr : ∀ W, Fr (fun _ => False) W1.drew W → Fr (fun _ => False) W1 W := fun W h => ((Fr.refl (fun _ => False) W1).drew).trans h (fun _ _ h => h)
  have HDR := Lib.hid hdr
  clear hdr
  refine factWalkG_cons (fun W hW hf K hK => ?_) (fun x0 => ?_)
  · skip
    refine ⟨by kernel_rfl, ?_⟩
    gi_step
    exact hK _ _ (Fr.refl _ _) rfl trivial
  simp only [Act.put, List.setIfInBounds_toArray, List.set_cons_succ, List.set_cons_zero]
  refine factWalkG_cons (fun W hW hf K hK => ?_) (fun x1 => ?_)
  · skip
    refine ⟨by kernel_rfl, ?_⟩
    gi_step
    exact hK _ _ (Fr.refl _ _) rfl trivial
  simp only [Act.put, List.setIfInBounds_toArray, List.set_cons_succ, List.set_cons_zero]
  refine factWalkG_cons (fun W hW hf K hK => ?_) (fun x2 => ?_)
  · skip
    have e1 : x1 = .slice A n c := hf 1 (by omega) (by kernel_rfl)
    subst e1
    have hw := HOF.out W (HDR.out W hW)
    refine ⟨by kernel_rfl, ?_⟩
    gi_step
    refine ⟨trivial, ?_⟩
    refine (callsIn_wide.2 (hw)).mono ?_
    rintro e W' ⟨_, _, rfl, o2, f2⟩
    dsimp only
    exact hK _ _ f2 ⟨_, _, rfl, o2⟩ trivial
  simp only [Act.put, List.setIfInBounds_toArray, List.set_cons_succ, List.set_cons_zero]
  refine factWalkG_nil (fun W hW hf hmet => ?_)
  obtain ⟨a2, d2, e2, rd2⟩ : ∃ A9 c9, x2 = .slice A9 16 c9 ∧ Rd W A9 16 (bv q) := hf 2 (by omega)
  have e0 : x0 = .slice (some ⟨g, 0, none⟩) 16 16 := hf 0 (by omega)
  subst e0 e2
  change wpAnyIn _ _ _ _ _ _ 1 _ _ _
  refine wpAnyIn_ready (rs := [3]) (by kernel_rfl) (by simp) ?_
  refine AllReadyIn.cons rfl (fun K hK => ?_) AllReadyIn.nil
  have b1w := B1.out.fr (HDR.out W hW) (fun h => h)
  obtain ⟨w3, hcp, hb3, hf3⟩ := run_copy_blk W 3 43 g 16 16 16 d2 _ a2 q b1w rfl rd2 (Nat.le_refl _)
  go_simp
  refine hK _ _ ?_
  refine wpAnyIn_done (by kernel_rfl) ?_ _
  refine abs_exit (fun W => Hid (Blk W w.heap.size 43 #[.int .u8 0, .int .u8 0, .int .u8 0, .int .u8 0, .int .u8 0, .int .u8 0, .int .u8 0, .int .u8 0, .int .u8 0, .int .u8 0, .int .u8 0, .int .u8 0, .int .u8 0, .int .u8 0, .int .u8 0, .int .u8 0]) ∧ Hid (Blk W g 43 (b16 q)) ∧ Hid (Fr (fun _ => False) w W)) ?_ ?_
  · have hgw := HG.out
    have e16 : (bv q ++ List.drop 16 (#[.int .u8 0, .int .u8 0, .int .u8 0, .int .u8 0, .int .u8 0, .int .u8 0, .int .u8 0, .int .u8 0, .int .u8 0, .int .u8 0, .int .u8 0, .int .u8 0, .int .u8 0, .int .u8 0, .int .u8 0, .int .u8 0] : Array Value).toList).toArray = b16 q := by
      rw [show List.drop 16 (#[.int .u8 0, .int .u8 0, .int .u8 0, .int .u8 0, .int .u8 0, .int .u8 0, .int .u8 0, .int .u8 0, .int .u8 0, .int .u8 0, .int .u8 0, .int .u8 0, .int .u8 0, .int .u8 0, .int .u8 0, .int .u8 0] : Array Value).toList = [] from rfl, List.append_nil]
      rfl
    rw [e16] at hb3
    exact ⟨(B0.out.fr (HDR.out W hW) (fun h => h)).fr hf3 (by omega), hb3, (HF1.out.trans (HDR.out W hW) (fun _ _ h => h)).trans hf3 (fun k hk e => by omega)⟩
  clear hK K hmet hf hW HDR hcp hb3 hf3 b1w rd2 W w3 B0 B1 HF1
  rintro W2 ⟨B0, B1, HF⟩
  have hsz : (Tryd.prog.info? 43).map (·.size) = some (b16 q).size := by rw [b16_size q HQL.out]; kernel_rfl
  have hth : W2.there w.heap.size 0 (b16 q).size := by rw [b16_size q HQL.out]; exact B0.out.there
  have hst := B0.out.setAll (ds := b16 q) (by rw [b16_size q HQL.out]; rfl)
  have HSZ := Lib.hid hsz
  have HTH := Lib.hid hth
  have HST := Lib.hid hst
  have HONE := Lib.hid (b16_one q)
  have FST := Lib.hid (Fr.setCells (fp := fun k => k = w.heap.size) (a := W2) (g := w.heap.size) (fun _ => rfl) (b16 q).toList 0 W2 (Fr.refl _ _))
  clear hsz hth hst
  obtain ⟨Q, hQ⟩ : ∃ Q, b16 q = Q := ⟨_, rfl⟩
  rw [hQ] at B1 HSZ HTH HST HONE FST
  have HQ := Lib.hid hQ
  clear hQ
  go_wp2_with (first
    | refine wpList_load_row rfl 43 _ rfl g rfl 43 Q (0, 0) _ B1.out Tryd.underlying43 rfl HSZ.out ?_
    | refine wpList_store_mid rfl 43 _ _ rfl w.heap.size 0 Q rfl rfl HTH.out HSZ.out HONE.out ?_)
  generalize W2.setCells w.heap.size 0 Q.toList = w9 at *
  exact bodyPost_ret (v := .agg Q) (results_cell_row Tryd.results20 _ _ w.heap.size 43 _ (0, 0) _ rfl HST.out Tryd.underlying43 rfl HSZ.out) rfl ⟨by rw [HQ.out], HF.out.trans FST.out (fun k hk e => by omega)⟩

set_option maxRecDepth 100000 in
set_option maxHeartbeats 1000000 in
theorem short_c (w : World) (A : Option Addr) (n c : Nat) (ls : List (List UInt8)) (hr : RdB w A n ls) (hn : n ≤ 9223372036854775807) (hl : ls.flatten.length ≤ 1000000000000) (hT : Tabs w) :
    Calls Tryd.prog 19 #[.slice A n c] w fun e w' => e = .returned (.agg (b16 (sumL (begL 16) 0 ls.flatten 16))) ∧ Fr (fun _ => False) w w' := by
  have hof := fun (W : World) (hW : Fr (fun _ => False) w W) => of_yes W 16 A n c ls szB_16 (by omega) (hr.far hW) hn hl (hT.far hW)
  obtain ⟨q, hq⟩ : ∃ q, sumL (begL 16) 0 ls.flatten 16 = q := ⟨_, rfl⟩
  have hql : q.length = 16 := by rw [← hq]; exact bytesL_len _ _
  rw [hq] at hof ⊢
  have HOF := Lib.hid hof
  have HQL := Lib.hid hql
  clear hof hr hn hl hq hql hT
  have hsz : (Tryd.prog.info? 43).map (·.size) = some (b16 q).size := by rw [b16_size q HQL.out]; kernel_rfl
  have HSZ := Lib.hid hsz
  have HONE := Lib.hid (b16_one q)
  clear hsz
  go_enter Tryd.func19, Tryd.ntmps19
  go_upto_region 1 with fail
  refine abs_world (fun W => Hid (Blk W w.heap.size 43 #[.int .u8 0, .int .u8 0, .int .u8 0, .int .u8 0, .int .u8 0, .int .u8 0, .int .u8 0, .int .u8 0, .int .u8 0, .int .u8 0, .int .u8 0, .int .u8 0, .int .u8 0, .int .u8 0, .int .u8 0, .int .u8 0]) ∧ Hid (Fr (fun _ => False) w W)) ⟨Blk.new w _ _, (Fr.refl _ w).alloc _⟩ ?_
  rintro W1 ⟨B0, HF1⟩
  go_wp2_with fail
  refine (HOF.out W1 HF1.out).mono ?_
  rintro e w2 ⟨v, rfl, o2, f2⟩
  obtain ⟨g, cap, h0, -, -⟩ := o2.form (by omega)
  obtain rfl := h0
  have hcs := o2.cells (g := g) rfl
  have hlt := o2.lt g rfl
  have hra : w2.rangeAt g 0 (bv q) := fun j u hu => by
    have h := hcs j u hu
    rw [Addr.add_lit] at h
    exact h
  have hb2 := B0.out.fr f2 (fun h => h)
  have hth : w2.there w.heap.size 0 (b16 q).size := by rw [b16_size q HQL.out]; exact hb2.there
  have hst := hb2.setAll (ds := b16 q) (by rw [b16_size q HQL.out]; rfl)
  have hil : (Tryd.prog.info? 43).map (·.size) = some (bv q).length := by rw [bv_length, HQL.out]; kernel_rfl
  have HRA := Lib.hid hra
  have HIL := Lib.hid hil
  have HTH := Lib.hid hth
  have HST := Lib.hid hst
  have FST := Lib.hid (Fr.setCells (fp := fun k => k = w.heap.size) (a := w2) (g := w.heap.size) (fun _ => rfl) (b16 q).toList 0 w2 (Fr.refl _ _))
  have F2 := Lib.hid (HF1.out.trans f2 (fun _ _ h => h))
  clear hcs hlt hra hb2 hth hst hil o2 f2 HOF
  have hat : ∀ W, (Instr.arrayAt 43 (.slice (some ⟨g, 0, none⟩) 16 cap)).run Tryd.prog W = .ok (.pointer (some ⟨g, 0, none⟩)) W := fun W => run_arrayAt W 43 _ 16 _ 16 cap Tryd.underlying43 (Nat.le_refl _)
  go_wp2_with (first
    | refine wpList_load_mid rfl 43 _ rfl g 0 rfl (bv q) _ HRA.out Tryd.underlying43 rfl HIL.out ?_
    | refine wpList_store_mid rfl 43 _ _ rfl w.heap.size 0 (b16 q) rfl rfl HTH.out HSZ.out HONE.out ?_)
  generalize w2.setCells w.heap.size 0 (b16 q).toList = w9 at *
  refine bodyPost_ret (v := .agg (b16 q)) (results_cell_row Tryd.results19 _ _ w.heap.size 43 _ (0, 0) _ rfl HST.out Tryd.underlying43 rfl HSZ.out) rfl ?_
  exact ⟨rfl, F2.out.trans FST.out (fun k hk e => by omega)⟩
end Go.Proofs.YtfdpaiainlfigaaDoor
