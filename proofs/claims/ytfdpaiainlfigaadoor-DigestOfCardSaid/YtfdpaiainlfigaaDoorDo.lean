/-
  DigestOf, walked.
-/
import Derived.Test.YtfdpaiainlfigaaDoorRof
import Derived.Test.YtfdpaiainlfigaaDoorWs
import Derived.Deep.DeepCutAuto
import Derived.Deep.CutRange
namespace Go.Proofs.YtfdpaiainlfigaaDoor
set_option linter.unusedSimpArgs false
set_option linter.unusedVariables false
open Go Go.RowKit Go.Shelf
attribute [local go_sem] Oper.semAt_some
set_option maxRecDepth 100000 in
set_option maxHeartbeats 1000000 in
theorem eq_16 (q : List UInt8) (h : q.length = 16) (w : World) : (Op.equalIn 10000 43 (.agg (b16 q)) (.agg (b16 q))).run Tryd.prog w = .ok true w := by
  match q, h with
  | [a0, a1, a2, a3, a4, a5, a6, a7, a8, a9, a10, a11, a12, a13, a14, a15], _ =>
    rw [show (10000 : Nat) = 9999 + 1 from rfl, Op.equalIn]
    simp only [Sem.run_bind, run_underlying Tryd.underlying43, Result.andThen_ok, b16, bv, List.map_cons, List.map_nil]
    simp only [Std.Legacy.Range.forIn_eq_forIn_range', Std.Legacy.Range.size, Nat.sub_zero, Nat.add_sub_cancel, Nat.div_one, List.range'_succ, List.range'_zero, List.forIn_cons, List.forIn_nil]
    go_simp
theorem e0z : dc [] (.slice none 0 0) 0 0 = #[.int .u32 0, .int .u32 0, .int .u32 0, .int .u32 0, .int .u32 0, .int .u32 0, .int .u32 0, .int .u32 0, .slice none 0 0, .int .u64 0, .int .i64 0] := rfl
theorem RdB.old {w w' : World} {A : Option Addr} {n : Nat} {ls : List (List UInt8)} (h : RdB w A n ls) (hf : Fr (fun k => w.heap.size ≤ k) w w') : RdB w' A n ls := by
  refine ⟨h.1, fun hn => ?_⟩
  obtain ⟨b, off, rfl, hc⟩ := h.2 hn
  refine ⟨b, off, rfl, fun i hi => ?_⟩
  obtain ⟨B, c, h1, h2, h3, h4⟩ := hc i hi
  have hlt := World.block_lt_of_cell? w _ h1
  exact ⟨B, c, by rw [hf.cell hlt (fun h => absurd h (Nat.not_le.2 hlt))]; exact h1, h2.old hf, h3, h4⟩
theorem rsame_z (w : World) : Calls Tryd.prog 13 #[.agg #[.int .u32 0, .int .u32 0, .int .u32 0, .int .u32 0, .int .u32 0, .int .u32 0, .int .u32 0, .int .u32 0, .slice none 0 0, .int .u64 0, .int .i64 0], .agg #[.int .u32 0, .int .u32 0, .int .u32 0, .int .u32 0, .int .u32 0, .int .u32 0, .int .u32 0, .int .u32 0, .slice none 0 0, .int .u64 0, .int .i64 0]] w fun e w' => e = .returned (.bool true) ∧ Fr (fun _ => False) w w' :=
  rsame_c w (List.replicate 8 0) none 0 0 none 0 0 [] 0 0 ⟨rfl, by decide⟩ (Rd.none_ _ _) (Rd.none_ _ _)
def dofX (B : List Nat) (s : Nat) (A9 : Option Addr) (c9 : Nat) (Aq : Option Addr) (p cq : Nat) (q : List UInt8) (i : Nat) (v : Value) (W : World) : Prop := match i with
  | 0 => v = .int .i64 0
  | 1 => v = .bool true
  | 2 => v = .bool true
  | 3 => v = .int .i64 0
  | 4 => v = .bool true
  | 5 => v = .bool true
  | 6 => v = .bool true
  | 7 => v = .agg (dc B (.slice none 0 0) 0 s)
  | 8 => v = .int .i64 (s : Int)
  | 9 => v = .agg (dc B (.slice none 0 0) 0 s)
  | 10 => v = .bool true
  | 11 => v = .bool true
  | 12 => v = .bool true
  | 13 => v = .slice A9 s c9
  | 14 => v = .string (strOf q)
  | 15 => v = .int .i64 (s : Int)
  | 16 => v = .slice Aq p cq
  | 17 => ∃ A8 c8, v = .slice A8 s c8 ∧ Rd W A8 s (bv q)
  | 18 => v = .string (strOf q)
  | 19 => v = .bool true
  | 20 => v = .bool true
  | 21 => v = .bool true
  | 22 => v = .bool true
  | 23 => v = .bool true
  | 24 => v = .bool true
  | _ => True
theorem dofX_far {B : List Nat} {s : Nat} {A9 : Option Addr} {c9 : Nat} {Aq : Option Addr} {p cq : Nat} {q : List UInt8} {i : Nat} {v : Value} {W W' : World} (hg : Fr (fun _ => False) W W') (hx : dofX B s A9 c9 Aq p cq q i v W) : dofX B s A9 c9 Aq p cq q i v W' := by
  match i with
  | 0 => exact hx
  | 1 => exact hx
  | 2 => exact hx
  | 3 => exact hx
  | 4 => exact hx
  | 5 => exact hx
  | 6 => exact hx
  | 7 => exact hx
  | 8 => exact hx
  | 9 => exact hx
  | 10 => exact hx
  | 11 => exact hx
  | 12 => exact hx
  | 13 => exact hx
  | 14 => exact hx
  | 15 => exact hx
  | 16 => exact hx
  | 17 => obtain ⟨a, c, e, r⟩ := hx; exact ⟨a, c, e, r.far hg⟩
  | 18 => exact hx
  | 19 => exact hx
  | 20 => exact hx
  | 21 => exact hx
  | 22 => exact hx
  | 23 => exact hx
  | 24 => exact hx
  | (n + 25) => exact hx
set_option maxRecDepth 100000 in
set_option maxHeartbeats 2000000 in
theorem dof_c (w : World) (S : Int) (A : Option Addr) (n c : Nat) (ls : List (List UInt8)) (hr : RdB w A n ls) (hn : n ≤ c) (hc : c ≤ 140737488355328) (hls : ∀ l ∈ ls, l.length ≤ 140737488355328) (hT : Tabs w) :
    Calls Tryd.prog 5 #[.int .i64 S, .slice A n c] w fun e w' => e = .returned (.bool true) ∧ Fr (fun _ => False) w w' := by
  have HT := Lib.hid hT
  have HR := Lib.hid hr
  have HC := Lib.hid hc
  have HLS := Lib.hid hls
  have hnl : ls.length = n := hr.1
  have HNL := Lib.hid hnl
  obtain ⟨i0, hi0, hz0', hz1', hz2'⟩ := info_parts u8_info
  have HI := Lib.hid hi0
  clear hT hr hc hls hnl hi0
  go_enter Tryd.func5, Tryd.ntmps5
  go_wp2_with fail
  go_loopw [5, 6] (fun av iv wr => ∃ (i : Nat) (Aq : Option Addr) (p cq : Nat), av = .slice Aq p cq ∧ iv = .int .i64 (i : Int) ∧ i ≤ n ∧ Hid (OwnM wr w.heap.size 5 (.slice Aq p cq) p (bv (ls.take i).flatten)) ∧ Hid (Fr (fun k => w.heap.size ≤ k) w wr)) (fun _ iv _ => n - (intOf iv).toNat)
  case atStart => exact ⟨0, none, 0, 0, rfl, rfl, Nat.zero_le _, ⟨rfl, .inl ⟨rfl, rfl⟩⟩, Fr.refl _ _⟩
  case round =>
    obtain ⟨i, Aq, p, cq, rfl, rfl, hi, ho, hf⟩ := hrel
    by_cases hlt : i < n
    case pos =>
      have hdl : decide (i < n) = true := decide_eq_true hlt
      have hdl' : decide ((i : Int) < (n : Int)) = true := decide_eq_true (by omega)
      by_cases hp : p ≤ 5000
      case pos =>
        have hdp : decide ((p : Int) ≤ 5000) = true := decide_eq_true (by omega)
        obtain ⟨b, off, rfl, hcl⟩ := (HR.out.old hf.out).2 (by omega)
        obtain ⟨Bi, ci, h1, h2, h3, h4⟩ := hcl i (by rw [HNL.out]; exact hlt)
        have hll : (ls[i]'(by rw [HNL.out]; exact hlt)).length ≤ 140737488355328 := HLS.out _ (List.getElem_mem _)
        have hfs := flat_succ ls i (by rw [HNL.out]; exact hlt)
        obtain ⟨l, hl⟩ : ∃ l, ls[i]'(by rw [HNL.out]; exact hlt) = l := ⟨_, rfl⟩
        rw [hl] at h1 h2 h3 hll hfs
        have HFS := Lib.hid hfs
        have HRB := Lib.hid h2
        have HCL := Lib.hid h3
        obtain ⟨m, hm⟩ : ∃ m, l.length = m := ⟨_, rfl⟩
        rw [hm] at h1 hll HRB
        have HO := Lib.hid ho.out
        have hi47 : (i : Int) ≤ 140737488355328 := by have := HC.out; omega
        have hi0' : (0 : Int) ≤ (i : Int) := by omega
        have HZ := Lib.hid hf.out.size
        clear hcl h2 h3 h4 hl hm hfs
        go_wp2_with (first
          | (at_builtin
             refine wpList_appm rfl _ _ _ _ rfl w.heap.size 5 i0 _ 1 Tryd.underlying24 HI.out hz0' hz1' hz2' rfl _ p _ rfl HO.out _ m _ rfl (Src.rd Tryd.underlying24 _ HRB.out (bv_one _)) (by omega) (by unfold maxLen; omega) HZ.out ?_
             intro v9 w9 hown9 hf9 hn9
             rw [← bv_append, ← HFS.out] at hown9
             have G9 := Lib.hid (hf.out.trans hf9 (fun k hk hq => (HO.out.own_ne hq).1))
             have H9 := Lib.hid hown9
             obtain ⟨A9, c9, rfl, -, hc9, hcm9, -⟩ := hown9.slice
             clear hown9 hf9 hn9 hcm9))
        exact ⟨⟨i + 1, A9, p + m, c9, rfl, by go_num, by omega, H9.out, G9.out⟩, by simp [intOf]; omega⟩
      case neg =>
        have hdp : decide ((p : Int) ≤ 5000) = false := decide_eq_false (by omega)
        have hdq : decide ((5000 : Int) < (p : Int)) = true := decide_eq_true (by omega)
        have HFF := Lib.hid (show Fr (fun _ => False) w wr from ⟨hf.out.os, hf.out.tape, hf.out.output, hf.out.size, fun k hk _ => hf.out.block k hk (by omega)⟩)
        go_wp2_with fail
        refine (awake_c wr (HT.out.far HFF.out)).mono ?_
        rintro e w9 ⟨rfl, f9⟩
        have F9 := Lib.hid (HFF.out.trans f9 (fun _ _ h => h))
        clear f9
        go_wp2_with fail
        go_ret
        exact ⟨rfl, F9.out⟩
    case neg =>
      obtain rfl : i = n := by omega
      have hdl : decide (i < i) = false := decide_eq_false hlt
      have hdl' : decide ((i : Int) < (i : Int)) = false := decide_eq_false (by omega)
      have hff : Fr (fun _ => False) w wr := ⟨hf.out.os, hf.out.tape, hf.out.output, hf.out.size, fun k hk _ => hf.out.block k hk (by omega)⟩
      have HFF := Lib.hid hff
      have ho1 := ho.out
      rw [List.take_of_length_le (by rw [HNL.out]; exact Nat.le_refl _)] at ho1
      obtain ⟨_, _, esl, hrq, hpc, hcm, -⟩ := ho1.slice
      injection esl with e1 _ e3
      subst e1 e3
      have hfl : ls.flatten.length = p := by rw [← bv_length]; exact hrq.1
      have HRQ := Lib.hid hrq
      have HPC := Lib.hid (And.intro hpc hcm)
      clear hff ho1 hrq hpc hcm ho hf hlt
      by_cases hbig : 5000 < p ∨ 40 < i
      · have hways : decide ((5000 : Int) < (p : Int)) = true ∨ (decide ((5000 : Int) < (p : Int)) = false ∧ decide ((40 : Int) < (i : Int)) = true) := by
          by_cases h : 5000 < p
          · exact .inl (decide_eq_true (by omega))
          · exact .inr ⟨decide_eq_false (by omega), decide_eq_true (by omega)⟩
        clear hbig hfl
        rcases hways with h1 | ⟨h1, h2⟩
        all_goals
          go_wp2_with fail
          refine (awake_c wr (HT.out.far HFF.out)).mono ?_
          rintro e w9 ⟨rfl, f9⟩
          have F9 := Lib.hid (HFF.out.trans f9 (fun _ _ h => h))
          clear f9
          go_wp2_with fail
          go_ret
          exact ⟨rfl, F9.out⟩
      have hd1 : decide ((5000 : Int) < (p : Int)) = false := decide_eq_false (by omega)
      have hd2 : decide ((40 : Int) < (i : Int)) = false := decide_eq_false (by omega)
      have hp5 : p ≤ 5000 := by omega
      have hi40 : i ≤ 40 := by omega
      have HRW := Lib.hid (HR.out.far HFF.out)
      have HTW := Lib.hid (HT.out.far HFF.out)
      obtain ⟨l, hl⟩ : ∃ l, ls.flatten = l := ⟨_, rfl⟩
      rw [hl] at hfl HRQ
      have HL := Lib.hid hl
      have HFL := Lib.hid hfl
      clear hbig hfl hl
      by_cases hS : szB S = true
      case neg =>
        have hS' : szB S = false := by simpa using hS
        have hways : decide (S < 1) = true ∨ (decide (S < 1) = false ∧ decide (32 < S) = true) := by
          unfold szB at hS
          simp only [Bool.and_eq_true, decide_eq_true_eq] at hS
          rcases (show S < 1 ∨ (1 ≤ S ∧ 32 < S) by omega) with h | ⟨h, h'⟩
          · exact .inl (decide_eq_true h)
          · exact .inr ⟨decide_eq_false (by omega), decide_eq_true h'⟩
        have hbg := begin_no wr S hS'
        rw [e0z] at hbg
        have HS := Lib.hid hS'
        have HW := Lib.hid hways
        clear hS hS' hways
        go_wp2_with fail
        clear hdl hdl' hd1 hd2
        refine hbg.mono ?_
        clear hbg
        rintro e w1 ⟨rfl, f1⟩
        have F1 := Lib.hid (HFF.out.trans f1 (fun _ _ h => h))
        have G1 := Lib.hid f1
        clear f1
        go_upto_region 9 with fail
        refine abs_world (fun W => Hid (Blk W w1.heap.size 33 #[.int .u32 0, .int .u32 0, .int .u32 0, .int .u32 0, .int .u32 0, .int .u32 0, .int .u32 0, .int .u32 0, .slice none 0 0, .int .u64 0, .int .i64 0]) ∧ Hid (Fr (fun _ => False) w W) ∧ Hid (Fr (fun _ => False) wr W)) ⟨Blk.new w1 _ _, F1.out.alloc _, G1.out.alloc _⟩ ?_
        rintro W2 ⟨BX, F2, G2⟩
        obtain ⟨gx, hgx⟩ : ∃ q, w1.heap.size = q := ⟨_, rfl⟩
        rw [hgx] at BX ⊢
        clear hgx F1 G1
        go_wp2_with fail
        refine (of_no W2 S A i c HS.out).mono ?_
        rintro e w3 ⟨rfl, f3⟩
        have F3 := Lib.hid (F2.out.trans f3 (fun _ _ h => h))
        have G3 := Lib.hid (G2.out.trans f3 (fun _ _ h => h))
        have BX3 := Lib.hid (BX.out.fr f3 (fun h => h))
        clear f3 F2 G2 BX
        have hsh := short_c w3 A i c ls (HRW.out.far G3.out) (by omega) (by rw [HL.out, HFL.out]; omega) (HT.out.far F3.out)
        rw [HL.out] at hsh
        have hql : (sumL (begL 16) 0 l 16).length = 16 := bytesL_len _ _
        obtain ⟨q, hq⟩ : ∃ q, sumL (begL 16) 0 l 16 = q := ⟨_, rfl⟩
        rw [hq] at hsh hql
        have HQ := Lib.hid hq
        have E16 := Lib.hid (fun W => eq_16 q hql W)
        clear hq hql
        go_wp2_with fail
        refine hsh.mono ?_
        clear hsh
        rintro e w4 ⟨rfl, f4⟩
        have F4 := Lib.hid (F3.out.trans f4 (fun _ _ h => h))
        have G4 := Lib.hid (G3.out.trans f4 (fun _ _ h => h))
        have BX4 := Lib.hid (BX3.out.fr f4 (fun h => h))
        clear f4 F3 G3 BX3
        have hsh := rshort_c w4 Aq p cq l (HRQ.out.far G4.out) HPC.out (by have := HFL.out; omega)
        rw [HQ.out] at hsh
        go_wp2_with fail
        refine hsh.mono ?_
        clear hsh
        rintro e w5 ⟨rfl, f5⟩
        have F5 := Lib.hid (F4.out.trans f5 (fun _ _ h => h))
        have BX5 := Lib.hid (BX4.out.fr f5 (fun h => h))
        clear f5 F4 G4 BX4
        have e16 := E16.out w5
        have k0 := BX5.out.cell 0
        have k1 := BX5.out.cell 1
        have k2 := BX5.out.cell 2
        have k3 := BX5.out.cell 3
        have k4 := BX5.out.cell 4
        have k5 := BX5.out.cell 5
        have k6 := BX5.out.cell 6
        have k7 := BX5.out.cell 7
        have k8 := BX5.out.cell 8
        have k9 := BX5.out.cell 9
        have k10 := BX5.out.cell 10
        simp only [dc, List.getElem?_toArray, List.getElem?_cons_zero, List.getElem?_cons_succ] at k0 k1 k2 k3 k4 k5 k6 k7 k8 k9 k10
        rcases HW.out with h1 | ⟨h1, h2⟩
        all_goals
          go_wp2_with fail
          refine (rsame_z w5).mono ?_
          rintro e w6 ⟨rfl, f6⟩
          have F6 := Lib.hid (F5.out.trans f6 (fun _ _ h => h))
          clear f6
          go_wp2_with fail
          refine (awake_c w6 (HT.out.far F6.out)).mono ?_
          rintro e w9 ⟨rfl, f9⟩
          have F9 := Lib.hid (F6.out.trans f9 (fun _ _ h => h))
          clear f9
          go_wp2_with fail
          go_ret
          exact ⟨rfl, F9.out⟩
      obtain ⟨s, rfl, hs1, hs2⟩ := szB_nat' hS
      have hways : decide ((s : Int) < 1) = false ∧ decide ((32 : Int) < (s : Int)) = false := ⟨decide_eq_false (by omega), decide_eq_false (by omega)⟩
      obtain ⟨hw1, hw2⟩ := hways
      have hwb := ws_begL s hs2
      have hbg := begin_yes wr s hS hs2 HTW.out
      have hrb := fun W : World => rbegin_c W s hs2
      have hof1 := fun (W : World) (hW : Fr (fun _ => False) wr W) => of_yes W s A i c ls hS ⟨hs1, hs2⟩ (HRW.out.far hW) (by omega) (by rw [HL.out, HFL.out]; omega) (HTW.out.far hW)
      have hrof := fun (W : World) (hW : Fr (fun _ => False) wr W) => rof_c W s Aq p cq l ⟨hs1, hs2⟩ (HRQ.out.far hW) HPC.out (by have := HFL.out; omega)
      rw [HL.out] at hof1
      obtain ⟨B, hB⟩ : ∃ B, begL s = B := ⟨_, rfl⟩
      rw [hB] at hwb hbg hrb hof1 hrof
      obtain ⟨q, hq⟩ : ∃ q, sumL B 0 l s = q := ⟨_, rfl⟩
      rw [hq] at hof1 hrof
      have HWB := Lib.hid hwb
      have HRB := Lib.hid hrb
      have HO1 := Lib.hid hof1
      have HRO := Lib.hid hrof
      clear hS hwb hrb hof1 hrof hB hq
      go_wp2_with fail
      clear hdl hdl' hd1 hd2
      refine hbg.mono ?_
      clear hbg
      rintro e w1 ⟨rfl, f1⟩
      unfold dc
      have F1 := Lib.hid (HFF.out.trans f1 (fun _ _ h => h))
      have G1 := Lib.hid f1
      clear f1
      go_upto_region 9 with fail
      refine abs_world (fun W => Hid (Blk W w1.heap.size 33 (dc B (.slice none 0 0) 0 s)) ∧ Hid (Fr (fun _ => False) w W) ∧ Hid (Fr (fun _ => False) wr W)) ⟨Blk.new w1 _ _, F1.out.alloc _, G1.out.alloc _⟩ ?_
      rintro W2 ⟨BX, F2, G2⟩
      obtain ⟨gx, hgx⟩ : ∃ q, w1.heap.size = q := ⟨_, rfl⟩
      rw [hgx] at BX ⊢
      clear hgx F1 G1
      go_wp2_with fail
      refine (HO1.out W2 G2.out).mono ?_
      rintro e w3 ⟨v, rfl, o3, f3⟩
      obtain ⟨A9, c9, rfl, -, -⟩ := own_slice o3
      have RQ3 := Lib.hid (Rd.of_own o3)
      have F3 := Lib.hid (F2.out.trans f3 (fun _ _ h => h))
      have G3 := Lib.hid (G2.out.trans f3 (fun _ _ h => h))
      have BX3 := Lib.hid (BX.out.fr f3 (fun h => h))
      clear f3 F2 G2 BX o3 HO1
      have hsh := short_c w3 A i c ls (HRW.out.far G3.out) (by omega) (by rw [HL.out, HFL.out]; omega) (HT.out.far F3.out)
      rw [HL.out] at hsh
      have hql : (sumL (begL 16) 0 l 16).length = 16 := bytesL_len _ _
      obtain ⟨q2, hq⟩ : ∃ q, sumL (begL 16) 0 l 16 = q := ⟨_, rfl⟩
      rw [hq] at hsh hql
      have HQ := Lib.hid hq
      have E16 := Lib.hid (fun W => eq_16 q2 hql W)
      clear hq hql
      go_wp2_with fail
      refine hsh.mono ?_
      clear hsh
      rintro e w4 ⟨rfl, f4⟩
      have F4 := Lib.hid (F3.out.trans f4 (fun _ _ h => h))
      have G4 := Lib.hid (G3.out.trans f4 (fun _ _ h => h))
      have BX4 := Lib.hid (BX3.out.fr f4 (fun h => h))
      have RQ4 := Lib.hid (RQ3.out.far f4)
      clear f4 F3 G3 BX3 RQ3
      have hsh := rshort_c w4 Aq p cq l (HRQ.out.far G4.out) HPC.out (by have := HFL.out; omega)
      rw [HQ.out] at hsh
      go_wp2_with fail
      refine hsh.mono ?_
      clear hsh
      rintro e w5 ⟨rfl, f5⟩
      have HF := Lib.hid (F4.out.trans f5 (fun _ _ h => h))
      have G5 := Lib.hid (G4.out.trans f5 (fun _ _ h => h))
      have BD := Lib.hid (BX4.out.fr f5 (fun h => h))
      have RQ := Lib.hid (RQ4.out.far f5)
      clear f5 F4 G4 BX4 RQ4
      have e16 := E16.out w5
      go_upto_region 14 with fail
      have hof2 : ∀ W, Fr (fun _ => False) w5 W → Calls Tryd.prog 22 #[.int .i64 (s : Int), .slice Aq p cq] W fun e w' => ∃ A8 c8, e = .returned (.slice A8 s c8) ∧ Rd w' A8 s (bv q) ∧ Fr (fun _ => False) W w' := fun W hW => by
        refine (HRO.out W (G5.out.trans hW (fun _ _ h => h))).mono ?_
        rintro e w' ⟨v, rfl, o, f⟩
        obtain ⟨A8, c8, rfl, -, -⟩ := own_slice o
        exact ⟨A8, c8, rfl, Rd.of_own o, f⟩
      have HOF := Lib.hid hof2
      clear hof2 HRO e16 E16
      refine (wpIn_wide (n := 9)).1 ?_
      refine wpIn_region_factsG (ms := [0, 1, 3, 7, 15, 31, 63, 127, 127, 383, 1023, 2047, 4095, 8191, 16383, 8191, 8191, 106495, 237567, 524287, 1048575, 2097151, 4194303, 8388607, 16777215]) (k := 25) (Fr (fun _ => False)) (dofX B s A9 c9 Aq p cq q) (fun i v W => True) (by kernel_rfl) (by kernel_rfl) (Fr.refl _ _) (fun a b c h1 h2 => h1.trans h2 (fun _ _ h => h)) (fun i v w w' hg hx => dofX_far hg hx) ?walk14
      case walk14 =>
      have hdr : ∀ W, Fr (fun _ => False) w5.drew W → Fr (fun _ => False) w5 W := fun W h => ((Fr.refl (fun _ => False) w5).drew).trans h (fun _ _ h => h)
      have HDR := Lib.hid hdr
      clear hdr
      refine factWalkG_cons (fun W hW hf K hK => ?_) (fun x0 => ?_)
      · skip
        refine ⟨by kernel_rfl, ?_⟩
        gi_step
        exact hK _ _ (Fr.refl _ _) rfl trivial
      simp only [Act.put, List.setIfInBounds_toArray, List.set_cons_succ, List.set_cons_zero]
      refine factWalkG_cons (fun W hW hf K hK => ?_) (fun x1 => ?_)
      · skip
        have e0 : x0 = .int .i64 0 := hf 0 (by omega) (by kernel_rfl)
        subst e0
        refine ⟨by kernel_rfl, ?_⟩
        gi_step
        exact hK _ _ (Fr.refl _ _) rfl trivial
      simp only [Act.put, List.setIfInBounds_toArray, List.set_cons_succ, List.set_cons_zero]
      refine factWalkG_cons (fun W hW hf K hK => ?_) (fun x2 => ?_)
      · skip
        have e1 : x1 = .bool true := hf 1 (by omega) (by kernel_rfl)
        subst e1
        refine ⟨by kernel_rfl, ?_⟩
        gi_step
        exact hK _ _ (Fr.refl _ _) rfl trivial
      simp only [Act.put, List.setIfInBounds_toArray, List.set_cons_succ, List.set_cons_zero]
      refine factWalkG_cons (fun W hW hf K hK => ?_) (fun x3 => ?_)
      · skip
        have e2 : x2 = .bool true := hf 2 (by omega) (by kernel_rfl)
        subst e2
        refine ⟨by kernel_rfl, ?_⟩
        gi_step
        exact hK _ _ (Fr.refl _ _) rfl trivial
      simp only [Act.put, List.setIfInBounds_toArray, List.set_cons_succ, List.set_cons_zero]
      refine factWalkG_cons (fun W hW hf K hK => ?_) (fun x4 => ?_)
      · skip
        have e2 : x2 = .bool true := hf 2 (by omega) (by kernel_rfl)
        have e3 : x3 = .int .i64 0 := hf 3 (by omega) (by kernel_rfl)
        subst e2 e3
        refine ⟨by kernel_rfl, ?_⟩
        gi_step
        exact hK _ _ (Fr.refl _ _) rfl trivial
      simp only [Act.put, List.setIfInBounds_toArray, List.set_cons_succ, List.set_cons_zero]
      refine factWalkG_cons (fun W hW hf K hK => ?_) (fun x5 => ?_)
      · skip
        have e2 : x2 = .bool true := hf 2 (by omega) (by kernel_rfl)
        have e4 : x4 = .bool true := hf 4 (by omega) (by kernel_rfl)
        subst e2 e4
        refine ⟨by kernel_rfl, ?_⟩
        gi_step
        exact hK _ _ (Fr.refl _ _) rfl trivial
      simp only [Act.put, List.setIfInBounds_toArray, List.set_cons_succ, List.set_cons_zero]
      refine factWalkG_cons (fun W hW hf K hK => ?_) (fun x6 => ?_)
      · skip
        have e5 : x5 = .bool true := hf 5 (by omega) (by kernel_rfl)
        subst e5
        refine ⟨by kernel_rfl, ?_⟩
        gi_step
        exact hK _ _ (Fr.refl _ _) rfl trivial
      simp only [Act.put, List.setIfInBounds_toArray, List.set_cons_succ, List.set_cons_zero]
      refine factWalkG_cons (fun W hW hf K hK => ?_) (fun x7 => ?_)
      · skip
        have e6 : x6 = .bool true := hf 6 (by omega) (by kernel_rfl)
        subst e6
        have bl := BD.out.fr (fp := fun _ => False) (HDR.out _ hW) (fun h => h)
        have k0 := bl.cell 0
        have k1 := bl.cell 1
        have k2 := bl.cell 2
        have k3 := bl.cell 3
        have k4 := bl.cell 4
        have k5 := bl.cell 5
        have k6 := bl.cell 6
        have k7 := bl.cell 7
        have k8 := bl.cell 8
        have k9 := bl.cell 9
        have k10 := bl.cell 10
        simp only [dc, List.getElem?_toArray, List.getElem?_cons_zero, List.getElem?_cons_succ] at k0 k1 k2 k3 k4 k5 k6 k7 k8 k9 k10
        clear bl
        refine ⟨by kernel_rfl, ?_⟩
        gi_step
        exact hK _ _ (Fr.refl _ _) rfl trivial
      simp only [Act.put, List.setIfInBounds_toArray, List.set_cons_succ, List.set_cons_zero]
      refine factWalkG_cons (fun W hW hf K hK => ?_) (fun x8 => ?_)
      · skip
        have e6 : x6 = .bool true := hf 6 (by omega) (by kernel_rfl)
        subst e6
        refine ⟨by kernel_rfl, ?_⟩
        gi_step
        exact hK _ _ (Fr.refl _ _) rfl trivial
      simp only [Act.put, List.setIfInBounds_toArray, List.set_cons_succ, List.set_cons_zero]
      refine factWalkG_cons (fun W hW hf K hK => ?_) (fun x9 => ?_)
      · skip
        have e6 : x6 = .bool true := hf 6 (by omega) (by kernel_rfl)
        have e8 : x8 = .int .i64 (s : Int) := hf 8 (by omega) (by kernel_rfl)
        subst e6 e8
        have hw := HRB.out W
        refine ⟨by kernel_rfl, ?_⟩
        gi_step
        refine ⟨trivial, ?_⟩
        refine (callsIn_wide.2 (hw)).mono ?_
        rintro e W' ⟨rfl, f2⟩
        dsimp only
        exact hK _ _ f2 rfl trivial
      simp only [Act.put, List.setIfInBounds_toArray, List.set_cons_succ, List.set_cons_zero]
      refine factWalkG_cons (fun W hW hf K hK => ?_) (fun x10 => ?_)
      · skip
        have e6 : x6 = .bool true := hf 6 (by omega) (by kernel_rfl)
        have e7 : x7 = .agg (dc B (.slice none 0 0) 0 s) := hf 7 (by omega) (by kernel_rfl)
        have e9 : x9 = .agg (dc B (.slice none 0 0) 0 s) := hf 9 (by omega) (by kernel_rfl)
        subst e6 e7 e9
        have hw := rsame_c W B none 0 0 none 0 0 [] 0 s HWB.out (Rd.none_ _ _) (Rd.none_ _ _)
        refine ⟨by kernel_rfl, ?_⟩
        gi_step
        refine ⟨trivial, ?_⟩
        refine (callsIn_wide.2 (hw)).mono ?_
        rintro e W' ⟨rfl, f2⟩
        dsimp only
        exact hK _ _ f2 rfl trivial
      simp only [Act.put, List.setIfInBounds_toArray, List.set_cons_succ, List.set_cons_zero]
      refine factWalkG_cons (fun W hW hf K hK => ?_) (fun x11 => ?_)
      · skip
        have e6 : x6 = .bool true := hf 6 (by omega) (by kernel_rfl)
        have e10 : x10 = .bool true := hf 10 (by omega) (by kernel_rfl)
        subst e6 e10
        refine ⟨by kernel_rfl, ?_⟩
        gi_step
        exact hK _ _ (Fr.refl _ _) rfl trivial
      simp only [Act.put, List.setIfInBounds_toArray, List.set_cons_succ, List.set_cons_zero]
      refine factWalkG_cons (fun W hW hf K hK => ?_) (fun x12 => ?_)
      · skip
        have e11 : x11 = .bool true := hf 11 (by omega) (by kernel_rfl)
        subst e11
        refine ⟨by kernel_rfl, ?_⟩
        gi_step
        exact hK _ _ (Fr.refl _ _) rfl trivial
      simp only [Act.put, List.setIfInBounds_toArray, List.set_cons_succ, List.set_cons_zero]
      refine factWalkG_cons (fun W hW hf K hK => ?_) (fun x13 => ?_)
      · skip
        have e12 : x12 = .bool true := hf 12 (by omega) (by kernel_rfl)
        subst e12
        refine ⟨by kernel_rfl, ?_⟩
        gi_step
        exact hK _ _ (Fr.refl _ _) rfl trivial
      simp only [Act.put, List.setIfInBounds_toArray, List.set_cons_succ, List.set_cons_zero]
      refine factWalkG_cons (fun W hW hf K hK => ?_) (fun x14 => ?_)
      · skip
        have e12 : x12 = .bool true := hf 12 (by omega) (by kernel_rfl)
        have e13 : x13 = .slice A9 s c9 := hf 13 (by omega) (by kernel_rfl)
        subst e12 e13
        have cv := conv_str W A9 s c9 q (RQ.out.far (HDR.out W hW))
        refine ⟨by kernel_rfl, ?_⟩
        gi_step
        exact hK _ _ (Fr.refl _ _) rfl trivial
      simp only [Act.put, List.setIfInBounds_toArray, List.set_cons_succ, List.set_cons_zero]
      refine factWalkG_cons (fun W hW hf K hK => ?_) (fun x15 => ?_)
      · skip
        have e12 : x12 = .bool true := hf 12 (by omega) (by kernel_rfl)
        subst e12
        refine ⟨by kernel_rfl, ?_⟩
        gi_step
        exact hK _ _ (Fr.refl _ _) rfl trivial
      simp only [Act.put, List.setIfInBounds_toArray, List.set_cons_succ, List.set_cons_zero]
      refine factWalkG_cons (fun W hW hf K hK => ?_) (fun x16 => ?_)
      · skip
        have e12 : x12 = .bool true := hf 12 (by omega) (by kernel_rfl)
        subst e12
        refine ⟨by kernel_rfl, ?_⟩
        gi_step
        exact hK _ _ (Fr.refl _ _) rfl trivial
      simp only [Act.put, List.setIfInBounds_toArray, List.set_cons_succ, List.set_cons_zero]
      refine factWalkG_cons (fun W hW hf K hK => ?_) (fun x17 => ?_)
      · skip
        have e12 : x12 = .bool true := hf 12 (by omega) (by kernel_rfl)
        have e15 : x15 = .int .i64 (s : Int) := hf 15 (by omega) (by kernel_rfl)
        have e16 : x16 = .slice Aq p cq := hf 16 (by omega) (by kernel_rfl)
        subst e12 e15 e16
        have hw := HOF.out W (HDR.out W hW)
        refine ⟨by kernel_rfl, ?_⟩
        gi_step
        refine ⟨trivial, ?_⟩
        refine (callsIn_wide.2 (hw)).mono ?_
        rintro e W' ⟨_, _, rfl, o2, f2⟩
        dsimp only
        exact hK _ _ f2 ⟨_, _, rfl, o2⟩ trivial
      simp only [Act.put, List.setIfInBounds_toArray, List.set_cons_succ, List.set_cons_zero]
      refine factWalkG_cons (fun W hW hf K hK => ?_) (fun x18 => ?_)
      · skip
        have e12 : x12 = .bool true := hf 12 (by omega) (by kernel_rfl)
        obtain ⟨a17, d17, e17, rd17⟩ : ∃ A8 c8, x17 = .slice A8 s c8 ∧ Rd W A8 s (bv q) := hf 17 (by omega) (by kernel_rfl)
        subst e12 e17
        have cv := conv_str W a17 s d17 q rd17
        refine ⟨by kernel_rfl, ?_⟩
        gi_step
        exact hK _ _ (Fr.refl _ _) rfl trivial
      simp only [Act.put, List.setIfInBounds_toArray, List.set_cons_succ, List.set_cons_zero]
      refine factWalkG_cons (fun W hW hf K hK => ?_) (fun x19 => ?_)
      · skip
        have e12 : x12 = .bool true := hf 12 (by omega) (by kernel_rfl)
        have e14 : x14 = .string (strOf q) := hf 14 (by omega) (by kernel_rfl)
        have e18 : x18 = .string (strOf q) := hf 18 (by omega) (by kernel_rfl)
        subst e12 e14 e18
        have hbq : ((strOf q).toList == (strOf q).toList) = true := by simp
        refine ⟨by kernel_rfl, ?_⟩
        gi_step
        exact hK _ _ (Fr.refl _ _) rfl trivial
      simp only [Act.put, List.setIfInBounds_toArray, List.set_cons_succ, List.set_cons_zero]
      refine factWalkG_cons (fun W hW hf K hK => ?_) (fun x20 => ?_)
      · skip
        have e12 : x12 = .bool true := hf 12 (by omega) (by kernel_rfl)
        have e19 : x19 = .bool true := hf 19 (by omega) (by kernel_rfl)
        subst e12 e19
        refine ⟨by kernel_rfl, ?_⟩
        gi_step
        exact hK _ _ (Fr.refl _ _) rfl trivial
      simp only [Act.put, List.setIfInBounds_toArray, List.set_cons_succ, List.set_cons_zero]
      refine factWalkG_cons (fun W hW hf K hK => ?_) (fun x21 => ?_)
      · skip
        have e20 : x20 = .bool true := hf 20 (by omega) (by kernel_rfl)
        subst e20
        refine ⟨by kernel_rfl, ?_⟩
        gi_step
        exact hK _ _ (Fr.refl _ _) rfl trivial
      simp only [Act.put, List.setIfInBounds_toArray, List.set_cons_succ, List.set_cons_zero]
      refine factWalkG_cons (fun W hW hf K hK => ?_) (fun x22 => ?_)
      · skip
        have e21 : x21 = .bool true := hf 21 (by omega) (by kernel_rfl)
        subst e21
        have hw := awake_c W (HT.out.far (HF.out.trans (HDR.out W hW) (fun _ _ h => h)))
        refine ⟨by kernel_rfl, ?_⟩
        gi_step
        refine ⟨trivial, ?_⟩
        refine (callsIn_wide.2 (hw)).mono ?_
        rintro e W' ⟨rfl, f2⟩
        dsimp only
        exact hK _ _ f2 rfl trivial
      simp only [Act.put, List.setIfInBounds_toArray, List.set_cons_succ, List.set_cons_zero]
      refine factWalkG_cons (fun W hW hf K hK => ?_) (fun x23 => ?_)
      · skip
        have e21 : x21 = .bool true := hf 21 (by omega) (by kernel_rfl)
        have e22 : x22 = .bool true := hf 22 (by omega) (by kernel_rfl)
        subst e21 e22
        refine ⟨by kernel_rfl, ?_⟩
        gi_step
        exact hK _ _ (Fr.refl _ _) rfl trivial
      simp only [Act.put, List.setIfInBounds_toArray, List.set_cons_succ, List.set_cons_zero]
      refine factWalkG_cons (fun W hW hf K hK => ?_) (fun x24 => ?_)
      · skip
        have e23 : x23 = .bool true := hf 23 (by omega) (by kernel_rfl)
        subst e23
        refine ⟨by kernel_rfl, ?_⟩
        gi_step
        exact hK _ _ (Fr.refl _ _) rfl trivial
      simp only [Act.put, List.setIfInBounds_toArray, List.set_cons_succ, List.set_cons_zero]
      refine factWalkG_nil (fun W hW hf hmet => ?_)
      have e24 : x24 = .bool true := hf 24 (by omega)
      subst e24
      have HFW := Lib.hid (HF.out.trans (HDR.out W hW) (fun _ _ h => h))
      clear hmet hf hW HDR
      change wpAnyIn _ _ _ _ _ _ 0 _ _ _
      refine wpAnyIn_done (by kernel_rfl) ?_ _
      go_wp2_with fail
      go_ret
      exact ⟨rfl, HFW.out⟩
end Go.Proofs.YtfdpaiainlfigaaDoor
