/-
  DigestParts, walked (try).
-/
import Derived.Test.YthikkcbipifcdaaDoorDpA
import Derived.Deep.DeepCutAuto
import Derived.Deep.CutRange
namespace Go.Proofs.YthikkcbipifcdaaDoor
set_option linter.unusedSimpArgs false
set_option linter.unusedVariables false
open Go Go.RowKit
theorem abs_then {K : Act → World → Prop} {Q : Exit → Act → World → Prop} {e : Exit} {a : Act} {w : World} (Φ : World → Prop) (h : Φ w) (k : ∀ W, Φ W → Exit.then K Q e a W) : Exit.then K Q e a w := k w h
theorem cut_to (A : Option Addr) (n c k : Nat) (hk : k ≤ n) (hn : n ≤ c) :
    ∃ AD, (∀ W l, Rd W A n (bv l) → Rd W AD k (bv (l.take k))) ∧ ∀ W, (Instr.sliceAt 24 (.slice A n c) none (some (.int .i64 (k : Int))) none).run Tryd.prog W = .ok (.slice AD k c) W := by
  refine ⟨if c = 0 then A else A.map (·.add 0), fun W l h => ?_, fun W => ?_⟩
  · have h2 := (h.cut (k := 0) (cap := c) (by omega) hn).take (k := k) (by omega)
    rw [bv_take]
    exact h2
  have ht : Tryd.prog.underlying 24 = some (.slice (Tryd.prog.elem 24)) := by kernel_rfl
  rw [run_sliceAt_slice _ _ _ _ _ _ ht, run_slice_h _ _ _ _ _ ht .i64 (k : Int) (by omega) (by omega), sizeOf_u8]
  simp [sliced, Result.andThen]
theorem cut_mid (A : Option Addr) (n c x y : Nat) (hx : x ≤ y) (hy : y ≤ n) (hn : n ≤ c) :
    ∃ AD, (∀ W l, Rd W A n (bv l) → Rd W AD (y - x) (bv ((l.drop x).take (y - x)))) ∧ ∀ W, (Instr.sliceAt 24 (.slice A n c) (some (.int .i64 (x : Int))) (some (.int .i64 (y : Int))) none).run Tryd.prog W = .ok (.slice AD (y - x) (c - x)) W := by
  refine ⟨if c = x then A else A.map (·.add x), fun W l h => ?_, fun W => ?_⟩
  · have h2 := (h.cut (k := x) (cap := c) (by omega) hn).take (k := y - x) (by omega)
    rw [bv_take, bv_drop]
    exact h2
  have ht : Tryd.prog.underlying 24 = some (.slice (Tryd.prog.elem 24)) := by kernel_rfl
  rw [run_sliceAt_slice _ _ _ _ _ _ ht, run_slice_lh _ _ _ _ _ ht .i64 .i64 (x : Int) (y : Int) (by omega) (by omega) (by omega), sizeOf_u8]
  simp [sliced, Result.andThen]
theorem rdb_one (w : World) (A : Option Addr) (n c : Nat) (l : List UInt8) (hr : Rd (w.alloc (.cells #[.slice A n c] 24)) A n (bv l)) (hn : n ≤ c) (hc : c ≤ maxLen) : RdB (w.alloc (.cells #[.slice A n c] 24)) (some ⟨w.heap.size, 0, none⟩) 1 [l] := by
  have q := Blk.new w 24 #[.slice A n c]
  have hl : l.length = n := by rw [← bv_length]; exact hr.1
  refine ⟨rfl, fun _ => ⟨_, _, rfl, fun i hi => ?_⟩⟩
  have hi2 : i = 0 := by simp at hi; omega
  subst hi2
  refine ⟨A, c, ?_, ?_, ?_, hc⟩
  · rw [q.cell]; show some (Value.slice A n c) = _; rw [← hl]; rfl
  · show Rd _ A l.length (bv l); rw [hl]; exact hr
  · show l.length ≤ c; rw [hl]; exact hn
theorem rdb_two (w : World) (R : Option Addr) (rn rc : Nat) (A : Option Addr) (n c : Nat) (r b : List UInt8) (hr : Rd (w.alloc (.cells #[.slice R rn rc, .slice A n c] 24)) R rn (bv r)) (hn : rn ≤ rc) (hc : rc ≤ maxLen) (hr2 : Rd (w.alloc (.cells #[.slice R rn rc, .slice A n c] 24)) A n (bv b)) (hn2 : n ≤ c) (hc2 : c ≤ maxLen) : RdB (w.alloc (.cells #[.slice R rn rc, .slice A n c] 24)) (some ⟨w.heap.size, 0, none⟩) 2 [r, b] := by
  have q2 := Blk.new w 24 #[.slice R rn rc, .slice A n c]
  have hrl : r.length = rn := by rw [← bv_length]; exact hr.1
  have hbl : b.length = n := by rw [← bv_length]; exact hr2.1
  refine ⟨rfl, fun _ => ⟨_, _, rfl, fun i hi => ?_⟩⟩
  have hi2 : i = 0 ∨ i = 1 := by simp at hi; omega
  rcases hi2 with rfl | rfl
  · refine ⟨R, rc, ?_, ?_, ?_, hc⟩
    · rw [q2.cell]; show some (Value.slice R rn rc) = _; rw [← hrl]; rfl
    · show Rd _ R r.length (bv r); rw [hrl]; exact hr
    · show r.length ≤ rc; rw [hrl]; exact hn
  · refine ⟨A, c, ?_, ?_, ?_, hc2⟩
    · rw [q2.cell]; show some (Value.slice A n c) = _; rw [← hbl]; rfl
    · show Rd _ A b.length (bv b); rw [hbl]; exact hr2
    · show b.length ≤ c; rw [hbl]; exact hn2
/-- What each operation of the last region gives. -/
def partX (H6 : List Nat) (N6 : Nat) (A6 : Option Addr) (r6 c6 : Nat) (H7 : List Nat) (N7 : Nat) (A7 : Option Addr) (r7 c7 s : Nat) (A7' : Option Addr) (c7' : Nat) (A8' : Option Addr) (c8' : Nat) (qa qb : List UInt8) (i : Nat) (v : Value) (W : World) : Prop := match i with
  | 0 => v = .int .i64 0
  | 1 => v = .bool true
  | 2 => v = .bool true
  | 3 => v = .int .i64 0
  | 4 => v = .bool true
  | 5 => v = .bool true
  | 6 => v = .bool true
  | 7 => v = .agg (dc H6 (.slice A6 r6 c6) N6 s)
  | 8 => ∃ A9 c9, v = .slice A9 s c9 ∧ Rd W A9 s (bv qa)
  | 9 => v = .string (strOf qa)
  | 10 => v = .slice A7' s c7'
  | 11 => v = .string (strOf qa)
  | 12 => v = .bool true
  | 13 => v = .bool true
  | 14 => v = .bool true
  | 15 => v = .agg (dc H7 (.slice A7 r7 c7) N7 s)
  | 16 => ∃ A9 c9, v = .slice A9 s c9 ∧ Rd W A9 s (bv qb)
  | 17 => v = .string (strOf qb)
  | 18 => v = .slice A8' s c8'
  | 19 => v = .string (strOf qb)
  | 20 => v = .bool true
  | 21 => v = .bool true
  | 22 => v = .bool true
  | 23 => v = .slice A7' s c7'
  | 24 => v = .int .i64 (s : Int)
  | 25 => v = .int .i64 (s : Int)
  | 26 => v = .bool true
  | 27 => v = .bool true
  | 28 => v = .bool true
  | 29 => v = .agg (dc H6 (.slice A6 r6 c6) N6 s)
  | 30 => ∃ A9 c9, v = .slice A9 s c9 ∧ Rd W A9 s (bv qa)
  | 31 => v = .string (strOf qa)
  | 32 => v = .slice A7' s c7'
  | 33 => v = .string (strOf qa)
  | 34 => v = .bool true
  | 35 => v = .bool true
  | 36 => v = .bool true
  | 37 => v = .bool true
  | 38 => v = .bool true
  | _ => v = .bool true
theorem partX_far {H6 : List Nat} {N6 : Nat} {A6 : Option Addr} {r6 c6 : Nat} {H7 : List Nat} {N7 : Nat} {A7 : Option Addr} {r7 c7 s : Nat} {A7' : Option Addr} {c7' : Nat} {A8' : Option Addr} {c8' : Nat} {qa qb : List UInt8} {i : Nat} {v : Value} {W W' : World} (hg : Fr (fun _ => False) W W') (hx : partX H6 N6 A6 r6 c6 H7 N7 A7 r7 c7 s A7' c7' A8' c8' qa qb i v W) : partX H6 N6 A6 r6 c6 H7 N7 A7 r7 c7 s A7' c7' A8' c8' qa qb i v W' := by
  match i with
  | 0 => exact hx
  | 1 => exact hx
  | 2 => exact hx
  | 3 => exact hx
  | 4 => exact hx
  | 5 => exact hx
  | 6 => exact hx
  | 7 => exact hx
  | 8 => obtain ⟨a, c, e, r⟩ := hx; exact ⟨a, c, e, r.far hg⟩
  | 9 => exact hx
  | 10 => exact hx
  | 11 => exact hx
  | 12 => exact hx
  | 13 => exact hx
  | 14 => exact hx
  | 15 => exact hx
  | 16 => obtain ⟨a, c, e, r⟩ := hx; exact ⟨a, c, e, r.far hg⟩
  | 17 => exact hx
  | 18 => exact hx
  | 19 => exact hx
  | 20 => exact hx
  | 21 => exact hx
  | 22 => exact hx
  | 23 => exact hx
  | 24 => exact hx
  | 25 => exact hx
  | 26 => exact hx
  | 27 => exact hx
  | 28 => exact hx
  | 29 => exact hx
  | 30 => obtain ⟨a, c, e, r⟩ := hx; exact ⟨a, c, e, r.far hg⟩
  | 31 => exact hx
  | 32 => exact hx
  | 33 => exact hx
  | 34 => exact hx
  | 35 => exact hx
  | 36 => exact hx
  | 37 => exact hx
  | 38 => exact hx
  | (n + 39) => exact hx
set_option maxRecDepth 100000 in
set_option maxHeartbeats 1000000 in
theorem parts_c (w : World) (S a b : Int) (A A2 : Option Addr) (n c n2 c2 : Nat) (l m : List UInt8) (hr : Rd w A n (bv l)) (hn : n ≤ c) (hc : c ≤ 140737488355328) (hr2 : Rd w A2 n2 (bv m)) (hn2 : n2 ≤ c2) (hc2 : c2 ≤ 140737488355328) (hT : Tabs w) :
    Calls Tryd.prog 6 #[.int .i64 S, .slice A n c, .slice A2 n2 c2, .int .i64 a, .int .i64 b] w fun e w' => e = .returned (.bool true) ∧ Fr (fun _ => False) w w' := by
  have HT := Lib.hid hT
  have HR := Lib.hid hr
  have HC := Lib.hid hc
  have HR2 := Lib.hid hr2
  have HC2 := Lib.hid hc2
  have hw1 : IntKind.i64.wrap ((n : Int) + (n2 : Int)) = ((n + n2 : Nat) : Int) := by
    rw [IntWalk.i64_in _ (by omega)]
    omega
  clear hT hr hc hr2 hc2
  by_cases hbig : 5000 < n + n2
  · have hb1 : decide ((5000 : Int) < ((n + n2 : Nat) : Int)) = true := decide_eq_true (by omega)
    go_enter Tryd.func6, Tryd.ntmps6
    go_wp2_with fail
    refine (awake_c w HT.out).mono ?_
    rintro e w5 ⟨rfl, f5⟩
    go_wp2_with fail
    go_ret
    exact ⟨rfl, f5⟩
  have hb1 : decide ((5000 : Int) < ((n + n2 : Nat) : Int)) = false := decide_eq_false (by omega)
  go_enter Tryd.func6, Tryd.ntmps6
  go_wp2_with fail
  refine (begin_c w S HT.out).mono ?_
  rintro e w1 ⟨H1, s1, rfl, hh1, f1⟩
  have HH1 := Lib.hid hh1
  have F1 := Lib.hid f1
  clear f1 hh1
  unfold dc
  obtain ⟨ea, hea⟩ : ∃ ea : Int, ez S = ea := ⟨_, rfl⟩
  rw [hea]
  have HEA := Lib.hid hea
  clear hea
  by_cases hS : szB S = true
  case neg =>
    have e1 : ea = 1 := by rw [← HEA.out, ez_no hS]
    subst e1
    go_wp2_with fail
    refine abs_calls (fun W => Hid (Fr (fun _ => False) w W)) (Lib.hid (F1.out.alloc _)) ?_
    intro W4 HF4
    refine (awake_c W4 (HT.out.far HF4.out)).mono ?_
    rintro e w5 ⟨rfl, f5⟩
    have F5 := Lib.hid (HF4.out.trans f5 (fun _ _ h => h))
    clear f5
    go_wp2_with fail
    go_ret
    exact ⟨rfl, F5.out⟩
  have e1 : ea = 0 := by rw [← HEA.out, ez_yes hS]
  subst e1
  obtain ⟨s, rfl, hs1, hs2⟩ := szB_nat hS
  obtain ⟨hH1, hs1'⟩ := HH1.out hS
  subst hs1'
  have HHB := Lib.hid (show H1 = begL s from hH1)
  clear hH1 HH1
  have q1 : IntKind.i64.wrap ((n : Int) + 1) = (n : Int) + 1 := IntWalk.i64_in _ (by omega)
  go_upto_region 6 with fail
  refine abs_world (fun W => Hid (Blk W w1.heap.size 33 (dc H1 (.slice none 0 0) 0 s)) ∧ Hid (Fr (fun _ => False) w W)) ⟨Blk.new w1 _ _, F1.out.alloc _⟩ ?_
  rintro W4 ⟨HB1, HF4⟩
  clear F1
  go_cut [13] from 37 to 42 (fun u wx => (∃ x : Nat, x ≤ n ∧ u = .int .i64 (x : Int)) ∧ wx = W4)
  case first =>
    rcases (show 0 < a ∨ a ≤ 0 by omega) with ha | ha
    · go_wp2_with fail
      go_meet
      have h0 := Int.emod_nonneg a (show (n : Int) + 1 ≠ 0 by omega)
      have h1 := Int.emod_lt_of_pos a (show (0 : Int) < (n : Int) + 1 by omega)
      refine ⟨⟨(a % ((n : Int) + 1)).toNat, by omega, ?_⟩, rfl⟩
      rw [Int.toNat_of_nonneg h0]
    · go_wp2_with fail
      go_meet
      exact ⟨⟨0, by omega, rfl⟩, rfl⟩
  case rest =>
  obtain ⟨⟨x, hx, rfl⟩, rfl⟩ := hcut
  go_upto_region 7 with fail
  go_cut [14] from 43 to 52 (fun u wx => (∃ y : Nat, x ≤ y ∧ y ≤ n ∧ u = .int .i64 (y : Int)) ∧ wx = wc)
  case first =>
    have q2 : IntKind.i64.wrap ((n : Int) - (x : Int)) = (n : Int) - (x : Int) := IntWalk.i64_in _ (by omega)
    have q3 : IntKind.i64.wrap ((n : Int) - (x : Int) + 1) = (n : Int) - (x : Int) + 1 := IntWalk.i64_in _ (by omega)
    rcases (show 0 < b ∨ b ≤ 0 by omega) with ha | ha
    · have h0 := Int.emod_nonneg b (show (n : Int) - (x : Int) + 1 ≠ 0 by omega)
      have h1 := Int.emod_lt_of_pos b (show (0 : Int) < (n : Int) - (x : Int) + 1 by omega)
      go_wp2_with fail
      go_meet
      refine ⟨⟨((x : Int) + b % ((n : Int) - (x : Int) + 1)).toNat, by omega, by omega, ?_⟩, rfl⟩
      rw [Int.toNat_of_nonneg (by omega)]
    · go_wp2_with fail
      go_meet
      exact ⟨⟨x, by omega, by omega, rfl⟩, rfl⟩
  case rest =>
  obtain ⟨⟨y, hy, hyn, rfl⟩, rfl⟩ := hcut
  have hll : l.length = n := by rw [← bv_length]; exact HR.out.1
  have hlm : m.length = n2 := by rw [← bv_length]; exact HR2.out.1
  go_upto_region 8 with fail
  obtain ⟨D1, hd1, hd1r⟩ := cut_to A n c x hx hn
  obtain ⟨D2, hd2, hd2r⟩ := cut_mid A n c x y hy hyn hn
  refine (wpIn_wide (n := 9)).1 ?_
  refine wpIn_region_facts2 (k := 11) (Fr (fun _ => False)) (fun i v W => match i with
    | 0 => v = .agg (dc H1 (.slice none 0 0) 0 s)
    | 1 => v = .slice A n c
    | 2 => v = .int .i64 (x : Int)
    | 3 => v = .slice D1 x c
    | 4 => Wd W v ([] ++ l.take x) s
    | 5 => v = .slice A n c
    | 6 => v = .int .i64 (x : Int)
    | 7 => v = .int .i64 (y : Int)
    | 8 => v = .slice D2 (y - x) (c - x)
    | 9 => Wd W v (([] ++ l.take x) ++ (l.drop x).take (y - x)) s
    | _ => ∃ g, v = .pointer (some ⟨g, 0, none⟩) ∧ Blk W g 33 (dc [] (.slice none 0 0) 0 0) ∧ wc.heap.size ≤ g) (fun i v W => True) (by kernel_rfl) (by kernel_rfl) (Fr.refl _ _) (fun a b c h1 h2 => h1.trans h2 (fun _ _ h => h)) ?stab ?walk
  case stab =>
    intro i v W W' hg hx
    match i with
    | 0 => exact hx
    | 1 => exact hx
    | 2 => exact hx
    | 3 => exact hx
    | 4 => exact Wd.far hx hg
    | 5 => exact hx
    | 6 => exact hx
    | 7 => exact hx
    | 8 => exact hx
    | 9 => exact Wd.far hx hg
    | (n + 10) => obtain ⟨g, h1, h2, h3⟩ := hx; exact ⟨g, h1, h2.fr hg (fun h => h), h3⟩
  case walk =>
    have hdr : ∀ W, Fr (fun _ => False) wc.drew W → Fr (fun _ => False) wc W := fun W h => ((Fr.refl (fun _ => False) wc).drew).trans h (fun _ _ h => h)
    have HDR := Lib.hid hdr
    clear hdr
    refine factWalk2_cons (fun W hW hf K hK => ?_) (fun v0 => ?_)
    · have bl := HB1.out.fr (fp := fun _ => False) (HDR.out _ hW) (fun h => h)
      have k0 := bl.cell 0
      have k1 := bl.cell 1
      have k2 := bl.cell 2
      have k3 := bl.cell 3
      have k4 := bl.cell 4
      have k5 := bl.cell 5
      have k6 := bl.cell 6
      have k7 := bl.cell 7
      have k8 := bl.cell 8
      have k9 := bl.cell 9
      have k10 := bl.cell 10
      simp only [dc, List.getElem?_toArray, List.getElem?_cons_zero, List.getElem?_cons_succ] at k0 k1 k2 k3 k4 k5 k6 k7 k8 k9 k10
      clear bl
      gi_step
      exact hK _ _ (Fr.refl _ _) rfl trivial
    simp only [Act.put, List.setIfInBounds_toArray, List.set_cons_succ, List.set_cons_zero]
    refine factWalk2_cons (fun W hW hf K hK => ?_) (fun v1 => ?_)
    · gi_step
      exact hK _ _ (Fr.refl _ _) rfl trivial
    simp only [Act.put, List.setIfInBounds_toArray, List.set_cons_succ, List.set_cons_zero]
    refine factWalk2_cons (fun W hW hf K hK => ?_) (fun v2 => ?_)
    · gi_step
      exact hK _ _ (Fr.refl _ _) rfl trivial
    simp only [Act.put, List.setIfInBounds_toArray, List.set_cons_succ, List.set_cons_zero]
    refine factWalk2_cons (fun W hW hf K hK => ?_) (fun v3 => ?_)
    · have e0 : v1 = .slice A n c := hf 1 (by omega) (by kernel_rfl)
      have e1 : v2 = .int .i64 (x : Int) := hf 2 (by omega) (by kernel_rfl)
      subst e0 e1
      have hrun := hd1r W
      gi_step
      exact hK _ _ (Fr.refl _ _) rfl trivial
    simp only [Act.put, List.setIfInBounds_toArray, List.set_cons_succ, List.set_cons_zero]
    refine factWalk2_cons (fun W hW hf K hK => ?_) (fun v4 => ?_)
    · have e0 : v0 = .agg (dc H1 (.slice none 0 0) 0 s) := hf 0 (by omega) (by kernel_rfl)
      have e3 : v3 = .slice D1 x c := hf 3 (by omega) (by kernel_rfl)
      subst e0 e3
      have hfw := HF4.out.trans (HDR.out W hW) (fun _ _ h => h)
      have hw := wd_write W (begL s) 0 none 0 0 [] s D1 x c (l.take x) (wd_beg W s hs2) (hd1 W l (HR.out.far hfw)) (by omega) (by have := HC.out; unfold maxLen; omega) (by rw [List.length_take]; omega) (HT.out.far hfw)
      rw [← HHB.out] at hw
      have hw : Calls Tryd.prog 12 #[.agg (dc H1 (.slice none 0 0) 0 s), .slice D1 x c] W _ := hw
      clear hfw
      gi_step
      refine ⟨trivial, ?_⟩
      refine (callsIn_wide.2 hw).mono ?_
      rintro e W' ⟨v, rfl, o2, f2⟩
      dsimp only
      exact hK _ _ f2 o2 trivial
    simp only [Act.put, List.setIfInBounds_toArray, List.set_cons_succ, List.set_cons_zero]
    refine factWalk2_cons (fun W hW hf K hK => ?_) (fun v5 => ?_)
    · gi_step
      exact hK _ _ (Fr.refl _ _) rfl trivial
    simp only [Act.put, List.setIfInBounds_toArray, List.set_cons_succ, List.set_cons_zero]
    refine factWalk2_cons (fun W hW hf K hK => ?_) (fun v6 => ?_)
    · gi_step
      exact hK _ _ (Fr.refl _ _) rfl trivial
    simp only [Act.put, List.setIfInBounds_toArray, List.set_cons_succ, List.set_cons_zero]
    refine factWalk2_cons (fun W hW hf K hK => ?_) (fun v7 => ?_)
    · gi_step
      exact hK _ _ (Fr.refl _ _) rfl trivial
    simp only [Act.put, List.setIfInBounds_toArray, List.set_cons_succ, List.set_cons_zero]
    refine factWalk2_cons (fun W hW hf K hK => ?_) (fun v8 => ?_)
    · have e0 : v5 = .slice A n c := hf 5 (by omega) (by kernel_rfl)
      have e1 : v6 = .int .i64 (x : Int) := hf 6 (by omega) (by kernel_rfl)
      have e2 : v7 = .int .i64 (y : Int) := hf 7 (by omega) (by kernel_rfl)
      subst e0 e1 e2
      have hrun := hd2r W
      gi_step
      exact hK _ _ (Fr.refl _ _) rfl trivial
    simp only [Act.put, List.setIfInBounds_toArray, List.set_cons_succ, List.set_cons_zero]
    refine factWalk2_cons (fun W hW hf K hK => ?_) (fun v9 => ?_)
    · have e4 : Wd W v4 ([] ++ l.take x) s := hf 4 (by omega) (by kernel_rfl)
      have e8 : v8 = .slice D2 (y - x) (c - x) := hf 8 (by omega) (by kernel_rfl)
      subst e8
      obtain ⟨H5, N5, A5, r5, c5, rfl, wd5⟩ := e4
      have hfw := HF4.out.trans (HDR.out W hW) (fun _ _ h => h)
      have hw := wd_write W H5 N5 A5 r5 c5 _ s D2 (y - x) (c - x) _ wd5 (hd2 W l (HR.out.far hfw)) (by omega) (by have := HC.out; unfold maxLen; omega) (by rw [List.length_take, List.length_drop]; omega) (HT.out.far hfw)
      clear hfw wd5
      gi_step
      refine ⟨trivial, ?_⟩
      refine (callsIn_wide.2 hw).mono ?_
      rintro e W' ⟨v, rfl, o2, f2⟩
      dsimp only
      exact hK _ _ f2 o2 trivial
    simp only [Act.put, List.setIfInBounds_toArray, List.set_cons_succ, List.set_cons_zero]
    refine factWalk2_cons (fun W hW hf K hK => ?_) (fun v10 => ?_)
    · gi_step
      exact hK _ _ ((Fr.refl _ W).alloc _) ⟨W.heap.size, rfl, Blk.new W _ _, hW.size⟩ trivial
    simp only [Act.put, List.setIfInBounds_toArray, List.set_cons_succ, List.set_cons_zero]
    refine factWalk2_nil (fun W hW hf hmet => ?_)
    obtain ⟨H5, N5, A5, r5, c5, e9, wd5⟩ : Wd W v9 (([] ++ l.take x) ++ (l.drop x).take (y - x)) s := hf 9 (by omega)
    obtain ⟨g, e10, b10, l10⟩ : ∃ g, v10 = .pointer (some ⟨g, 0, none⟩) ∧ Blk W g 33 (dc [] (.slice none 0 0) 0 0) ∧ wc.heap.size ≤ g := hf 10 (by omega)
    subst e9 e10
    have el : ([] ++ l.take x) ++ (l.drop x).take (y - x) = l.take y := by
      have := List.take_add (l := l) (i := x) (j := y - x)
      rw [show x + (y - x) = y by omega] at this
      simp [this]
    rw [el] at wd5
    have HFW := Lib.hid (HF4.out.trans (HDR.out W hW) (fun _ _ h => h))
    have WD5 := Lib.hid wd5
    have hl4 := HF4.out.size
    clear hmet hf hW HDR wd5 el hd1 hd1r hd2 hd2r
    change wpAnyIn _ _ _ _ _ _ 1 _ _ _
    refine wpAnyIn_ready (rs := [11]) (by kernel_rfl) (by simp) ?_
    refine AllReadyIn.cons rfl (fun K hK => ?_) AllReadyIn.nil
    have k0 := b10.cell 0
    have k1 := b10.cell 1
    have k2 := b10.cell 2
    have k3 := b10.cell 3
    have k4 := b10.cell 4
    have k5 := b10.cell 5
    have k6 := b10.cell 6
    have k7 := b10.cell 7
    have k8 := b10.cell 8
    have k9 := b10.cell 9
    have k10 := b10.cell 10
    have z0 := b10.frozen 0
    have z1 := b10.frozen 1
    have z2 := b10.frozen 2
    have z3 := b10.frozen 3
    have z4 := b10.frozen 4
    have z5 := b10.frozen 5
    have z6 := b10.frozen 6
    have z7 := b10.frozen 7
    have z8 := b10.frozen 8
    have z9 := b10.frozen 9
    have z10 := b10.frozen 10
    simp only [dc, List.getElem?_toArray, List.getElem?_cons_zero, List.getElem?_cons_succ] at k0 k1 k2 k3 k4 k5 k6 k7 k8 k9 k10
    have B10 := Lib.hid b10
    clear b10
    unfold dc
    go_simp
    refine hK _ _ ?_
    refine wpAnyIn_done (by kernel_rfl) ?_ _
    clear hK K k0 k1 k2 k3 k4 k5 k6 k7 k8 k9 k10 z0 z1 z2 z3 z4 z5 z6 z7 z8 z9 z10
    refine abs_then (fun W2 => Hid (Blk W2 g 33 (dc H5 (.slice A5 r5 c5) N5 s)) ∧ Hid (WdP W2 H5 N5 A5 r5 c5 (l.take y) s) ∧ Hid (Fr (fun _ => False) w W2)) ?_ ?_
    · have hs := (((((((((((B10.out.set_ 0 (.int .u32 (at_ H5 0 : Nat))).set_ 1 (.int .u32 (at_ H5 1 : Nat))).set_ 2 (.int .u32 (at_ H5 2 : Nat))).set_ 3 (.int .u32 (at_ H5 3 : Nat))).set_ 4 (.int .u32 (at_ H5 4 : Nat))).set_ 5 (.int .u32 (at_ H5 5 : Nat))).set_ 6 (.int .u32 (at_ H5 6 : Nat))).set_ 7 (.int .u32 (at_ H5 7 : Nat))).set_ 8 (.slice A5 r5 c5)).set_ 9 (.int .u64 ((N5 : Nat) : Int))).set_ 10 (.int .i64 (s : Int)))
      rw [dc_all] at hs
      have hff := ((((((((((((Fr.refl (fun k => k = g) W).setCell (p := ⟨g, 0, none⟩) (fun _ => rfl) (.int .u32 (at_ H5 0 : Nat))).setCell (p := ⟨g, 1, none⟩) (fun _ => rfl) (.int .u32 (at_ H5 1 : Nat))).setCell (p := ⟨g, 2, none⟩) (fun _ => rfl) (.int .u32 (at_ H5 2 : Nat))).setCell (p := ⟨g, 3, none⟩) (fun _ => rfl) (.int .u32 (at_ H5 3 : Nat))).setCell (p := ⟨g, 4, none⟩) (fun _ => rfl) (.int .u32 (at_ H5 4 : Nat))).setCell (p := ⟨g, 5, none⟩) (fun _ => rfl) (.int .u32 (at_ H5 5 : Nat))).setCell (p := ⟨g, 6, none⟩) (fun _ => rfl) (.int .u32 (at_ H5 6 : Nat))).setCell (p := ⟨g, 7, none⟩) (fun _ => rfl) (.int .u32 (at_ H5 7 : Nat))).setCell (p := ⟨g, 8, none⟩) (fun _ => rfl) (.slice A5 r5 c5)).setCell (p := ⟨g, 9, none⟩) (fun _ => rfl) (.int .u64 ((N5 : Nat) : Int))).setCell (p := ⟨g, 10, none⟩) (fun _ => rfl) (.int .i64 (s : Int)))
      exact ⟨hs, WD5.out.fr hff (fun k e => by subst e; exact ⟨_, _, B10.out, by decide⟩), HFW.out.trans hff (fun k hk e => by omega)⟩
    rintro W5 ⟨B5, WD, FW⟩
    clear B10 WD5 HFW
    go_upto_region 9 with fail
    obtain ⟨D3, hd3, -, hd3r⟩ := cut_from A n c y (y : Int) rfl hyn hn
    refine (wpIn_wide (n := 9)).1 ?_
    refine wpIn_region_facts2 (k := 10) (Fr (fun _ => False)) (fun i v W => match i with
      | 0 => v = .agg (dc H5 (.slice A5 r5 c5) N5 s)
      | 1 => v = .slice A n c
      | 2 => v = .int .i64 (y : Int)
      | 3 => v = .slice D3 (n - y) (c - y)
      | 4 => Wd W v (l.take y ++ l.drop y) s
      | 5 => v = .agg (dc H5 (.slice A5 r5 c5) N5 s)
      | 6 => v = .slice A2 n2 c2
      | 7 => Wd W v (l.take y ++ m) s
      | _ => ∃ g, v = .pointer (some ⟨g, 0, none⟩) ∧ Blk W g 33 (dc [] (.slice none 0 0) 0 0) ∧ W5.heap.size ≤ g) (fun i v W => match i with
      | 8 => ∃ g, v = .pointer (some ⟨g, 0, none⟩) ∧ W.heap.size ≤ g
      | 9 => ∃ g, v = .pointer (some ⟨g, 0, none⟩) ∧ W.heap.size ≤ g
      | _ => True) (by kernel_rfl) (by kernel_rfl) (Fr.refl _ _) (fun a b c h1 h2 => h1.trans h2 (fun _ _ h => h)) ?stab9 ?walk9
    case stab9 =>
      intro i v W W' hg hx
      match i with
      | 0 => exact hx
      | 1 => exact hx
      | 2 => exact hx
      | 3 => exact hx
      | 4 => exact Wd.far hx hg
      | 5 => exact hx
      | 6 => exact hx
      | 7 => exact Wd.far hx hg
      | (n + 8) => obtain ⟨g, h1, h2, h3⟩ := hx; exact ⟨g, h1, h2.fr hg (fun h => h), h3⟩
    case walk9 =>
    have hdr : ∀ W, Fr (fun _ => False) W5.drew W → Fr (fun _ => False) W5 W := fun W h => ((Fr.refl (fun _ => False) W5).drew).trans h (fun _ _ h => h)
    have HDR := Lib.hid hdr
    clear hdr
    refine factWalk2_cons (fun W hW hf K hK => ?_) (fun u0 => ?_)
    · have bl := B5.out.fr (fp := fun _ => False) (HDR.out _ hW) (fun h => h)
      have k0 := bl.cell 0
      have k1 := bl.cell 1
      have k2 := bl.cell 2
      have k3 := bl.cell 3
      have k4 := bl.cell 4
      have k5 := bl.cell 5
      have k6 := bl.cell 6
      have k7 := bl.cell 7
      have k8 := bl.cell 8
      have k9 := bl.cell 9
      have k10 := bl.cell 10
      simp only [dc, List.getElem?_toArray, List.getElem?_cons_zero, List.getElem?_cons_succ] at k0 k1 k2 k3 k4 k5 k6 k7 k8 k9 k10
      clear bl
      gi_step
      exact hK _ _ (Fr.refl _ _) rfl trivial
    simp only [Act.put, List.setIfInBounds_toArray, List.set_cons_succ, List.set_cons_zero]
    refine factWalk2_cons (fun W hW hf K hK => ?_) (fun u1 => ?_)
    · gi_step
      exact hK _ _ (Fr.refl _ _) rfl trivial
    simp only [Act.put, List.setIfInBounds_toArray, List.set_cons_succ, List.set_cons_zero]
    refine factWalk2_cons (fun W hW hf K hK => ?_) (fun u2 => ?_)
    · gi_step
      exact hK _ _ (Fr.refl _ _) rfl trivial
    simp only [Act.put, List.setIfInBounds_toArray, List.set_cons_succ, List.set_cons_zero]
    refine factWalk2_cons (fun W hW hf K hK => ?_) (fun u3 => ?_)
    · have e0 : u1 = .slice A n c := hf 1 (by omega) (by kernel_rfl)
      have e1 : u2 = .int .i64 (y : Int) := hf 2 (by omega) (by kernel_rfl)
      subst e0 e1
      have hrun := hd3r W
      gi_step
      exact hK _ _ (Fr.refl _ _) rfl trivial
    simp only [Act.put, List.setIfInBounds_toArray, List.set_cons_succ, List.set_cons_zero]
    refine factWalk2_cons (fun W hW hf K hK => ?_) (fun u4 => ?_)
    · have e0 : u0 = .agg (dc H5 (.slice A5 r5 c5) N5 s) := hf 0 (by omega) (by kernel_rfl)
      have e3 : u3 = .slice D3 (n - y) (c - y) := hf 3 (by omega) (by kernel_rfl)
      subst e0 e3
      have hfw := FW.out.trans (HDR.out W hW) (fun _ _ h => h)
      have hw := wd_write W H5 N5 A5 r5 c5 _ s D3 (n - y) (c - y) (l.drop y) (WD.out.far (HDR.out W hW)) (by rw [bv_drop]; exact hd3 W _ (HR.out.far hfw)) (by omega) (by have := HC.out; unfold maxLen; omega) (by rw [List.length_drop]; omega) (HT.out.far hfw)
      clear hfw
      gi_step
      refine ⟨trivial, ?_⟩
      refine (callsIn_wide.2 hw).mono ?_
      rintro e W' ⟨v, rfl, o2, f2⟩
      dsimp only
      exact hK _ _ f2 o2 trivial
    simp only [Act.put, List.setIfInBounds_toArray, List.set_cons_succ, List.set_cons_zero]
    refine factWalk2_cons (fun W hW hf K hK => ?_) (fun u5 => ?_)
    · have bl := B5.out.fr (fp := fun _ => False) (HDR.out _ hW) (fun h => h)
      have k0 := bl.cell 0
      have k1 := bl.cell 1
      have k2 := bl.cell 2
      have k3 := bl.cell 3
      have k4 := bl.cell 4
      have k5 := bl.cell 5
      have k6 := bl.cell 6
      have k7 := bl.cell 7
      have k8 := bl.cell 8
      have k9 := bl.cell 9
      have k10 := bl.cell 10
      simp only [dc, List.getElem?_toArray, List.getElem?_cons_zero, List.getElem?_cons_succ] at k0 k1 k2 k3 k4 k5 k6 k7 k8 k9 k10
      clear bl
      gi_step
      exact hK _ _ (Fr.refl _ _) rfl trivial
    simp only [Act.put, List.setIfInBounds_toArray, List.set_cons_succ, List.set_cons_zero]
    refine factWalk2_cons (fun W hW hf K hK => ?_) (fun u6 => ?_)
    · gi_step
      exact hK _ _ (Fr.refl _ _) rfl trivial
    simp only [Act.put, List.setIfInBounds_toArray, List.set_cons_succ, List.set_cons_zero]
    refine factWalk2_cons (fun W hW hf K hK => ?_) (fun u7 => ?_)
    · have e0 : u5 = .agg (dc H5 (.slice A5 r5 c5) N5 s) := hf 5 (by omega) (by kernel_rfl)
      have e3 : u6 = .slice A2 n2 c2 := hf 6 (by omega) (by kernel_rfl)
      subst e0 e3
      have hfw := FW.out.trans (HDR.out W hW) (fun _ _ h => h)
      have hw := wd_write W H5 N5 A5 r5 c5 _ s A2 n2 c2 m (WD.out.far (HDR.out W hW)) (HR2.out.far hfw) hn2 (by have := HC2.out; unfold maxLen; omega) (by omega) (HT.out.far hfw)
      clear hfw
      gi_step
      refine ⟨trivial, ?_⟩
      refine (callsIn_wide.2 hw).mono ?_
      rintro e W' ⟨v, rfl, o2, f2⟩
      dsimp only
      exact hK _ _ f2 o2 trivial
    simp only [Act.put, List.setIfInBounds_toArray, List.set_cons_succ, List.set_cons_zero]
    refine factWalk2_cons (fun W hW hf K hK => ?_) (fun u8 => ?_)
    · have hsz := hW.size
      gi_step
      exact hK _ _ ((Fr.refl _ W).alloc _) ⟨W.heap.size, rfl, Blk.new W _ _, hsz⟩ ⟨W.heap.size, rfl, Nat.le_refl _⟩
    simp only [Act.put, List.setIfInBounds_toArray, List.set_cons_succ, List.set_cons_zero]
    refine factWalk2_cons (fun W hW hf K hK => ?_) (fun u9 => ?_)
    · have hsz := hW.size
      gi_step
      exact hK _ _ ((Fr.refl _ W).alloc _) ⟨W.heap.size, rfl, Blk.new W _ _, hsz⟩ ⟨W.heap.size, rfl, Nat.le_refl _⟩
    simp only [Act.put, List.setIfInBounds_toArray, List.set_cons_succ, List.set_cons_zero]
    refine factWalk2_nil (fun W hW hf hmet => ?_)
    obtain ⟨H6, N6, A6, r6, c6, e6, wd6⟩ : Wd W u4 (l.take y ++ l.drop y) s := hf 4 (by omega)
    obtain ⟨H7, N7, A7, r7, c7, e7, wd7⟩ : Wd W u7 (l.take y ++ m) s := hf 7 (by omega)
    obtain ⟨g6, e8, b8, l8⟩ : ∃ g, u8 = .pointer (some ⟨g, 0, none⟩) ∧ Blk W g 33 (dc [] (.slice none 0 0) 0 0) ∧ W5.heap.size ≤ g := hf 8 (by omega)
    obtain ⟨g7, e9, b9, l9⟩ : ∃ g, u9 = .pointer (some ⟨g, 0, none⟩) ∧ Blk W g 33 (dc [] (.slice none 0 0) 0 0) ∧ W5.heap.size ≤ g := hf 9 (by omega)
    have hne : g6 ≠ g7 := by
      have := hmet 8 9 (by omega) (by omega) (by omega)
      rcases this with ⟨W', -, ⟨g, h1, h2⟩, ⟨g', h3, h4, -⟩⟩ | ⟨W', -, ⟨g, h1, h2⟩, ⟨g', h3, h4, -⟩⟩
      · have h1 : u8 = .pointer (some ⟨g, 0, none⟩) := h1
        have h3 : u9 = .pointer (some ⟨g', 0, none⟩) := h3
        rw [e8] at h1
        rw [e9] at h3
        injection h1 with h1; injection h1 with h1; injection h1 with h1
        injection h3 with h3; injection h3 with h3; injection h3 with h3
        have := h4.lt
        omega
      · have h1 : u9 = .pointer (some ⟨g, 0, none⟩) := h1
        have h3 : u8 = .pointer (some ⟨g', 0, none⟩) := h3
        rw [e9] at h1
        rw [e8] at h3
        injection h1 with h1; injection h1 with h1; injection h1 with h1
        injection h3 with h3; injection h3 with h3; injection h3 with h3
        have := h4.lt
        omega
    subst e6 e7 e8 e9
    rw [List.take_append_drop] at wd6
    have HFW := Lib.hid (FW.out.trans (HDR.out W hW) (fun _ _ h => h))
    have WD6 := Lib.hid wd6
    have WD7 := Lib.hid wd7
    have B7 := Lib.hid b9
    have hl5 := FW.out.size
    clear hmet hf hW HDR wd6 wd7 hd3 hd3r b9 B5 WD FW
    change wpAnyIn _ _ _ _ _ _ 2 _ _ _
    refine wpAnyIn_ready (rs := [10]) (by kernel_rfl) (by simp) ?_
    refine AllReadyIn.cons rfl (fun K hK => ?_) AllReadyIn.nil
    have k0 := b8.cell 0
    have k1 := b8.cell 1
    have k2 := b8.cell 2
    have k3 := b8.cell 3
    have k4 := b8.cell 4
    have k5 := b8.cell 5
    have k6 := b8.cell 6
    have k7 := b8.cell 7
    have k8 := b8.cell 8
    have k9 := b8.cell 9
    have k10 := b8.cell 10
    have z0 := b8.frozen 0
    have z1 := b8.frozen 1
    have z2 := b8.frozen 2
    have z3 := b8.frozen 3
    have z4 := b8.frozen 4
    have z5 := b8.frozen 5
    have z6 := b8.frozen 6
    have z7 := b8.frozen 7
    have z8 := b8.frozen 8
    have z9 := b8.frozen 9
    have z10 := b8.frozen 10
    simp only [dc, List.getElem?_toArray, List.getElem?_cons_zero, List.getElem?_cons_succ] at k0 k1 k2 k3 k4 k5 k6 k7 k8 k9 k10
    have B6 := Lib.hid b8
    clear b8
    unfold dc
    go_simp
    refine hK _ _ ?_
    clear hK K k0 k1 k2 k3 k4 k5 k6 k7 k8 k9 k10 z0 z1 z2 z3 z4 z5 z6 z7 z8 z9 z10
    refine abs_any (fun W2 => Hid (Blk W2 g6 33 (dc H6 (.slice A6 r6 c6) N6 s)) ∧ Hid (Blk W2 g7 33 (dc [] (.slice none 0 0) 0 0)) ∧ Hid (WdP W2 H6 N6 A6 r6 c6 l s) ∧ Hid (WdP W2 H7 N7 A7 r7 c7 (l.take y ++ m) s) ∧ Hid (Fr (fun _ => False) w W2)) ?_ ?_
    · have hs := (((((((((((B6.out.set_ 0 (.int .u32 (at_ H6 0 : Nat))).set_ 1 (.int .u32 (at_ H6 1 : Nat))).set_ 2 (.int .u32 (at_ H6 2 : Nat))).set_ 3 (.int .u32 (at_ H6 3 : Nat))).set_ 4 (.int .u32 (at_ H6 4 : Nat))).set_ 5 (.int .u32 (at_ H6 5 : Nat))).set_ 6 (.int .u32 (at_ H6 6 : Nat))).set_ 7 (.int .u32 (at_ H6 7 : Nat))).set_ 8 (.slice A6 r6 c6)).set_ 9 (.int .u64 ((N6 : Nat) : Int))).set_ 10 (.int .i64 (s : Int)))
      rw [dc_all] at hs
      have hff := ((((((((((((Fr.refl (fun k => k = g6) W).setCell (p := ⟨g6, 0, none⟩) (fun _ => rfl) (.int .u32 (at_ H6 0 : Nat))).setCell (p := ⟨g6, 1, none⟩) (fun _ => rfl) (.int .u32 (at_ H6 1 : Nat))).setCell (p := ⟨g6, 2, none⟩) (fun _ => rfl) (.int .u32 (at_ H6 2 : Nat))).setCell (p := ⟨g6, 3, none⟩) (fun _ => rfl) (.int .u32 (at_ H6 3 : Nat))).setCell (p := ⟨g6, 4, none⟩) (fun _ => rfl) (.int .u32 (at_ H6 4 : Nat))).setCell (p := ⟨g6, 5, none⟩) (fun _ => rfl) (.int .u32 (at_ H6 5 : Nat))).setCell (p := ⟨g6, 6, none⟩) (fun _ => rfl) (.int .u32 (at_ H6 6 : Nat))).setCell (p := ⟨g6, 7, none⟩) (fun _ => rfl) (.int .u32 (at_ H6 7 : Nat))).setCell (p := ⟨g6, 8, none⟩) (fun _ => rfl) (.slice A6 r6 c6)).setCell (p := ⟨g6, 9, none⟩) (fun _ => rfl) (.int .u64 ((N6 : Nat) : Int))).setCell (p := ⟨g6, 10, none⟩) (fun _ => rfl) (.int .i64 (s : Int)))
      exact ⟨hs, B7.out.fr hff (fun h => hne h.symm), WD6.out.fr hff (fun k e => by subst e; exact ⟨_, _, B6.out, by decide⟩), WD7.out.fr hff (fun k e => by subst e; exact ⟨_, _, B6.out, by decide⟩), HFW.out.trans hff (fun k hk e => by omega)⟩
    rintro W2 ⟨B6', B7', WD6', WD7', FW2⟩
    clear B6 B7 WD6 WD7 HFW
    refine wpAnyIn_ready (rs := [11]) (by kernel_rfl) (by simp) ?_
    refine AllReadyIn.cons rfl (fun K hK => ?_) AllReadyIn.nil
    have k0 := B7'.out.cell 0
    have k1 := B7'.out.cell 1
    have k2 := B7'.out.cell 2
    have k3 := B7'.out.cell 3
    have k4 := B7'.out.cell 4
    have k5 := B7'.out.cell 5
    have k6 := B7'.out.cell 6
    have k7 := B7'.out.cell 7
    have k8 := B7'.out.cell 8
    have k9 := B7'.out.cell 9
    have k10 := B7'.out.cell 10
    have z0 := B7'.out.frozen 0
    have z1 := B7'.out.frozen 1
    have z2 := B7'.out.frozen 2
    have z3 := B7'.out.frozen 3
    have z4 := B7'.out.frozen 4
    have z5 := B7'.out.frozen 5
    have z6 := B7'.out.frozen 6
    have z7 := B7'.out.frozen 7
    have z8 := B7'.out.frozen 8
    have z9 := B7'.out.frozen 9
    have z10 := B7'.out.frozen 10
    simp only [dc, List.getElem?_toArray, List.getElem?_cons_zero, List.getElem?_cons_succ] at k0 k1 k2 k3 k4 k5 k6 k7 k8 k9 k10
    try unfold dc
    go_simp
    refine hK _ _ ?_
    refine wpAnyIn_done (by kernel_rfl) ?_ _
    clear hK K k0 k1 k2 k3 k4 k5 k6 k7 k8 k9 k10 z0 z1 z2 z3 z4 z5 z6 z7 z8 z9 z10
    refine abs_then (fun W2 => Hid (Blk W2 g6 33 (dc H6 (.slice A6 r6 c6) N6 s)) ∧ Hid (Blk W2 g7 33 (dc H7 (.slice A7 r7 c7) N7 s)) ∧ Hid (WdP W2 H6 N6 A6 r6 c6 l s) ∧ Hid (WdP W2 H7 N7 A7 r7 c7 (l.take y ++ m) s) ∧ Hid (Fr (fun _ => False) w W2)) ?_ ?_
    · have hs := (((((((((((B7'.out.set_ 0 (.int .u32 (at_ H7 0 : Nat))).set_ 1 (.int .u32 (at_ H7 1 : Nat))).set_ 2 (.int .u32 (at_ H7 2 : Nat))).set_ 3 (.int .u32 (at_ H7 3 : Nat))).set_ 4 (.int .u32 (at_ H7 4 : Nat))).set_ 5 (.int .u32 (at_ H7 5 : Nat))).set_ 6 (.int .u32 (at_ H7 6 : Nat))).set_ 7 (.int .u32 (at_ H7 7 : Nat))).set_ 8 (.slice A7 r7 c7)).set_ 9 (.int .u64 ((N7 : Nat) : Int))).set_ 10 (.int .i64 (s : Int)))
      rw [dc_all] at hs
      have hff := ((((((((((((Fr.refl (fun k => k = g7) W2).setCell (p := ⟨g7, 0, none⟩) (fun _ => rfl) (.int .u32 (at_ H7 0 : Nat))).setCell (p := ⟨g7, 1, none⟩) (fun _ => rfl) (.int .u32 (at_ H7 1 : Nat))).setCell (p := ⟨g7, 2, none⟩) (fun _ => rfl) (.int .u32 (at_ H7 2 : Nat))).setCell (p := ⟨g7, 3, none⟩) (fun _ => rfl) (.int .u32 (at_ H7 3 : Nat))).setCell (p := ⟨g7, 4, none⟩) (fun _ => rfl) (.int .u32 (at_ H7 4 : Nat))).setCell (p := ⟨g7, 5, none⟩) (fun _ => rfl) (.int .u32 (at_ H7 5 : Nat))).setCell (p := ⟨g7, 6, none⟩) (fun _ => rfl) (.int .u32 (at_ H7 6 : Nat))).setCell (p := ⟨g7, 7, none⟩) (fun _ => rfl) (.int .u32 (at_ H7 7 : Nat))).setCell (p := ⟨g7, 8, none⟩) (fun _ => rfl) (.slice A7 r7 c7)).setCell (p := ⟨g7, 9, none⟩) (fun _ => rfl) (.int .u64 ((N7 : Nat) : Int))).setCell (p := ⟨g7, 10, none⟩) (fun _ => rfl) (.int .i64 (s : Int)))
      exact ⟨B6'.out.fr hff hne, hs, WD6'.out.fr hff (fun k e => by subst e; exact ⟨_, _, B7'.out, by decide⟩), WD7'.out.fr hff (fun k e => by subst e; exact ⟨_, _, B7'.out, by decide⟩), FW2.out.trans hff (fun k hk e => by omega)⟩
    rintro W6 ⟨B6, B7, WD6, WD7, F6⟩
    clear B6' B7' WD6' WD7' FW2
    obtain ⟨qa, hqa⟩ : ∃ q, sumL (begL s) 0 l s = q := ⟨_, rfl⟩
    obtain ⟨qb, hqb⟩ : ∃ q, sumL (begL s) 0 (l.take y ++ m) s = q := ⟨_, rfl⟩
    have HQA := Lib.hid hqa
    have HQB := Lib.hid hqb
    clear hqa hqb
    go_wp2_with fail
    have hof := of_yes (W6.alloc (.cells #[.slice A n c] 24)) s (some ⟨W6.heap.size, 0, none⟩) 1 1 [l] hS ⟨hs1, hs2⟩ (rdb_one W6 A n c l ((HR.out.far F6.out).alloc _) hn (by have := HC.out; unfold maxLen; omega)) (by omega) (by simp; omega) (HT.out.far (F6.out.alloc _))
    have efl : [l].flatten = l := by simp
    rw [efl, HQA.out] at hof
    refine hof.mono ?_
    rintro e w7 ⟨v, rfl, o7, f7⟩
    obtain ⟨A7', c7', rfl, -, -⟩ := own_slice o7
    have R7 := Lib.hid (Rd.of_own o7)
    have ff := (((Fr.refl (fun _ => False) W6).alloc (.cells #[.slice A n c] 24)).trans f7 (fun _ _ h => h))
    have B6a := Lib.hid (B6.out.fr ff (fun h => h))
    have B7a := Lib.hid (B7.out.fr ff (fun h => h))
    have WD6a := Lib.hid (WD6.out.far ff)
    have WD7a := Lib.hid (WD7.out.far ff)
    have F7 := Lib.hid (F6.out.trans ff (fun _ _ h => h))
    clear hof efl o7 f7 ff B6 B7 WD6 WD7 F6
    obtain ⟨D4, hd4, hd4r⟩ := cut_to A n c y hyn hn
    have HD4 := Lib.hid hd4
    have hrun4 := hd4r w7
    clear hd4 hd4r
    go_wp2_with fail
    clear hrun4
    have hof := of_yes (w7.alloc (.cells #[.slice D4 y c, .slice A2 n2 c2] 24)) s (some ⟨w7.heap.size, 0, none⟩) 2 2 [l.take y, m] hS ⟨hs1, hs2⟩ (rdb_two w7 D4 y c A2 n2 c2 (l.take y) m ((HD4.out _ _ (HR.out.far F7.out)).alloc _) (by omega) (by have := HC.out; unfold maxLen; omega) ((HR2.out.far F7.out).alloc _) hn2 (by have := HC2.out; unfold maxLen; omega)) (by omega) (by simp; omega) (HT.out.far (F7.out.alloc _))
    have efl : [l.take y, m].flatten = l.take y ++ m := by simp
    rw [efl, HQB.out] at hof
    refine hof.mono ?_
    rintro e w8 ⟨v, rfl, o8, f8⟩
    obtain ⟨A8', c8', rfl, -, -⟩ := own_slice o8
    have R8 := Lib.hid (Rd.of_own o8)
    have ff := (((Fr.refl (fun _ => False) w7).alloc (.cells #[.slice D4 y c, .slice A2 n2 c2] 24)).trans f8 (fun _ _ h => h))
    have B6b := Lib.hid (B6a.out.fr ff (fun h => h))
    have B7b := Lib.hid (B7a.out.fr ff (fun h => h))
    have WD6b := Lib.hid (WD6a.out.far ff)
    have WD7b := Lib.hid (WD7a.out.far ff)
    have R7b := Lib.hid (R7.out.far ff)
    have F8 := Lib.hid (F7.out.trans ff (fun _ _ h => h))
    clear hof efl o8 f8 ff B6a B7a WD6a WD7a F7 R7
    go_upto_region 12 with fail
    have hsm : ∀ (H : List Nat) (N : Nat) (A : Option Addr) (r c : Nat) (l0 q : List UInt8) (W : World), sumL (begL s) 0 l0 s = q → WdP w8 H N A r c l0 s → Fr (fun _ => False) w8 W → Calls Tryd.prog 15 #[.agg (dc H (.slice A r c) N s)] W fun e w' => ∃ v, e = .returned v ∧ (∃ A9 c9, v = .slice A9 s c9 ∧ Rd w' A9 s (bv q)) ∧ Fr (fun _ => False) W w' := by
      intro H N A r c l0 q W hq hd hW
      have := wd_sum W H N A r c l0 s (hd.far hW) hS ⟨hs1, hs2⟩ (HT.out.far (F8.out.trans hW (fun _ _ h => h)))
      rw [hq] at this
      exact this
    have HS6 := Lib.hid (fun W hW => hsm H6 N6 A6 r6 c6 l qa W HQA.out WD6b.out hW)
    have HS7 := Lib.hid (fun W hW => hsm H7 N7 A7 r7 c7 (l.take y ++ m) qb W HQB.out WD7b.out hW)
    clear hsm WD6b WD7b HQA HQB
    refine (wpIn_wide (n := 9)).1 ?_
    refine wpIn_region_factsG (ms := [0, 1, 3, 7, 15, 31, 63, 127, 255, 511, 127, 1151, 4095, 8191, 16383, 32767, 65535, 131071, 32767, 294911, 1048575, 2097151, 4194303, 8388607, 16777215, 8388607, 67108863, 134217727, 268435455, 536870911, 1073741823, 2147483647, 536870911, 4831838207, 17179869183, 34359738367, 68719476735, 137438953471, 274877906943, 549755813887]) (k := 40) (Fr (fun _ => False)) (partX H6 N6 A6 r6 c6 H7 N7 A7 r7 c7 s A7' c7' A8' c8' qa qb) (fun i v W => True) (by kernel_rfl) (by kernel_rfl) (Fr.refl _ _) (fun a b c h1 h2 => h1.trans h2 (fun _ _ h => h)) (fun i v w w' hg hx => partX_far hg hx) ?walk12
    case walk12 =>
    have hdr : ∀ W, Fr (fun _ => False) w8.drew W → Fr (fun _ => False) w8 W := fun W h => ((Fr.refl (fun _ => False) w8).drew).trans h (fun _ _ h => h)
    have HDR := Lib.hid hdr
    clear hdr
    refine factWalkG_cons (fun W hW hf K hK => ?_) (fun x0 => ?_)
    · skip
      refine ⟨by kernel_rfl, ?_⟩
      gi_step
      exact hK _ _ (Fr.refl _ _) rfl trivial
    simp only [Act.put, List.setIfInBounds_toArray, List.set_cons_succ, List.set_cons_zero]
    refine factWalkG_cons (fun W hW hf K hK => ?_) (fun x1 => ?_)
    · skip
      have e0 : x0 = .int .i64 0 := hf 0 (by omega) (by kernel_rfl)
      subst e0
      refine ⟨by kernel_rfl, ?_⟩
      gi_step
      exact hK _ _ (Fr.refl _ _) rfl trivial
    simp only [Act.put, List.setIfInBounds_toArray, List.set_cons_succ, List.set_cons_zero]
    refine factWalkG_cons (fun W hW hf K hK => ?_) (fun x2 => ?_)
    · skip
      have e1 : x1 = .bool true := hf 1 (by omega) (by kernel_rfl)
      subst e1
      refine ⟨by kernel_rfl, ?_⟩
      gi_step
      exact hK _ _ (Fr.refl _ _) rfl trivial
    simp only [Act.put, List.setIfInBounds_toArray, List.set_cons_succ, List.set_cons_zero]
    refine factWalkG_cons (fun W hW hf K hK => ?_) (fun x3 => ?_)
    · skip
      have e2 : x2 = .bool true := hf 2 (by omega) (by kernel_rfl)
      subst e2
      refine ⟨by kernel_rfl, ?_⟩
      gi_step
      exact hK _ _ (Fr.refl _ _) rfl trivial
    simp only [Act.put, List.setIfInBounds_toArray, List.set_cons_succ, List.set_cons_zero]
    refine factWalkG_cons (fun W hW hf K hK => ?_) (fun x4 => ?_)
    · skip
      have e2 : x2 = .bool true := hf 2 (by omega) (by kernel_rfl)
      have e3 : x3 = .int .i64 0 := hf 3 (by omega) (by kernel_rfl)
      subst e2 e3
      refine ⟨by kernel_rfl, ?_⟩
      gi_step
      exact hK _ _ (Fr.refl _ _) rfl trivial
    simp only [Act.put, List.setIfInBounds_toArray, List.set_cons_succ, List.set_cons_zero]
    refine factWalkG_cons (fun W hW hf K hK => ?_) (fun x5 => ?_)
    · skip
      have e2 : x2 = .bool true := hf 2 (by omega) (by kernel_rfl)
      have e4 : x4 = .bool true := hf 4 (by omega) (by kernel_rfl)
      subst e2 e4
      refine ⟨by kernel_rfl, ?_⟩
      gi_step
      exact hK _ _ (Fr.refl _ _) rfl trivial
    simp only [Act.put, List.setIfInBounds_toArray, List.set_cons_succ, List.set_cons_zero]
    refine factWalkG_cons (fun W hW hf K hK => ?_) (fun x6 => ?_)
    · skip
      have e5 : x5 = .bool true := hf 5 (by omega) (by kernel_rfl)
      subst e5
      refine ⟨by kernel_rfl, ?_⟩
      gi_step
      exact hK _ _ (Fr.refl _ _) rfl trivial
    simp only [Act.put, List.setIfInBounds_toArray, List.set_cons_succ, List.set_cons_zero]
    refine factWalkG_cons (fun W hW hf K hK => ?_) (fun x7 => ?_)
    · skip
      have e6 : x6 = .bool true := hf 6 (by omega) (by kernel_rfl)
      subst e6
      have bl := B6b.out.fr (fp := fun _ => False) (HDR.out _ hW) (fun h => h)
      have k0 := bl.cell 0
      have k1 := bl.cell 1
      have k2 := bl.cell 2
      have k3 := bl.cell 3
      have k4 := bl.cell 4
      have k5 := bl.cell 5
      have k6 := bl.cell 6
      have k7 := bl.cell 7
      have k8 := bl.cell 8
      have k9 := bl.cell 9
      have k10 := bl.cell 10
      simp only [dc, List.getElem?_toArray, List.getElem?_cons_zero, List.getElem?_cons_succ] at k0 k1 k2 k3 k4 k5 k6 k7 k8 k9 k10
      clear bl
      refine ⟨by kernel_rfl, ?_⟩
      gi_step
      exact hK _ _ (Fr.refl _ _) rfl trivial
    simp only [Act.put, List.setIfInBounds_toArray, List.set_cons_succ, List.set_cons_zero]
    refine factWalkG_cons (fun W hW hf K hK => ?_) (fun x8 => ?_)
    · skip
      have e6 : x6 = .bool true := hf 6 (by omega) (by kernel_rfl)
      have e7 : x7 = .agg (dc H6 (.slice A6 r6 c6) N6 s) := hf 7 (by omega) (by kernel_rfl)
      subst e6 e7
      have hw := HS6.out W (HDR.out W hW)
      refine ⟨by kernel_rfl, ?_⟩
      gi_step
      refine ⟨trivial, ?_⟩
      refine (callsIn_wide.2 hw).mono ?_
      rintro e W' ⟨v, rfl, o2, f2⟩
      dsimp only
      exact hK _ _ f2 o2 trivial
    simp only [Act.put, List.setIfInBounds_toArray, List.set_cons_succ, List.set_cons_zero]
    refine factWalkG_cons (fun W hW hf K hK => ?_) (fun x9 => ?_)
    · skip
      have e6 : x6 = .bool true := hf 6 (by omega) (by kernel_rfl)
      obtain ⟨a8, d8, e8, rd8⟩ : ∃ A9 c9, x8 = .slice A9 s c9 ∧ Rd W A9 s (bv qa) := hf 8 (by omega) (by kernel_rfl)
      subst e6 e8
      have cv := conv_str W a8 s d8 qa rd8
      refine ⟨by kernel_rfl, ?_⟩
      gi_step
      exact hK _ _ (Fr.refl _ _) rfl trivial
    simp only [Act.put, List.setIfInBounds_toArray, List.set_cons_succ, List.set_cons_zero]
    refine factWalkG_cons (fun W hW hf K hK => ?_) (fun x10 => ?_)
    · skip
      have e6 : x6 = .bool true := hf 6 (by omega) (by kernel_rfl)
      subst e6
      refine ⟨by kernel_rfl, ?_⟩
      gi_step
      exact hK _ _ (Fr.refl _ _) rfl trivial
    simp only [Act.put, List.setIfInBounds_toArray, List.set_cons_succ, List.set_cons_zero]
    refine factWalkG_cons (fun W hW hf K hK => ?_) (fun x11 => ?_)
    · skip
      have e6 : x6 = .bool true := hf 6 (by omega) (by kernel_rfl)
      have e10 : x10 = .slice A7' s c7' := hf 10 (by omega) (by kernel_rfl)
      subst e6 e10
      have cv := conv_str W A7' s c7' qa (R7b.out.far (HDR.out W hW))
      refine ⟨by kernel_rfl, ?_⟩
      gi_step
      exact hK _ _ (Fr.refl _ _) rfl trivial
    simp only [Act.put, List.setIfInBounds_toArray, List.set_cons_succ, List.set_cons_zero]
    refine factWalkG_cons (fun W hW hf K hK => ?_) (fun x12 => ?_)
    · skip
      have e6 : x6 = .bool true := hf 6 (by omega) (by kernel_rfl)
      have e9 : x9 = .string (strOf qa) := hf 9 (by omega) (by kernel_rfl)
      have e11 : x11 = .string (strOf qa) := hf 11 (by omega) (by kernel_rfl)
      subst e6 e9 e11
      have hbq : ((strOf qa).toList == (strOf qa).toList) = true := by simp
      refine ⟨by kernel_rfl, ?_⟩
      gi_step
      exact hK _ _ (Fr.refl _ _) rfl trivial
    simp only [Act.put, List.setIfInBounds_toArray, List.set_cons_succ, List.set_cons_zero]
    refine factWalkG_cons (fun W hW hf K hK => ?_) (fun x13 => ?_)
    · skip
      have e6 : x6 = .bool true := hf 6 (by omega) (by kernel_rfl)
      have e12 : x12 = .bool true := hf 12 (by omega) (by kernel_rfl)
      subst e6 e12
      refine ⟨by kernel_rfl, ?_⟩
      gi_step
      exact hK _ _ (Fr.refl _ _) rfl trivial
    simp only [Act.put, List.setIfInBounds_toArray, List.set_cons_succ, List.set_cons_zero]
    refine factWalkG_cons (fun W hW hf K hK => ?_) (fun x14 => ?_)
    · skip
      have e13 : x13 = .bool true := hf 13 (by omega) (by kernel_rfl)
      subst e13
      refine ⟨by kernel_rfl, ?_⟩
      gi_step
      exact hK _ _ (Fr.refl _ _) rfl trivial
    simp only [Act.put, List.setIfInBounds_toArray, List.set_cons_succ, List.set_cons_zero]
    refine factWalkG_cons (fun W hW hf K hK => ?_) (fun x15 => ?_)
    · skip
      have e14 : x14 = .bool true := hf 14 (by omega) (by kernel_rfl)
      subst e14
      have bl := B7b.out.fr (fp := fun _ => False) (HDR.out _ hW) (fun h => h)
      have k0 := bl.cell 0
      have k1 := bl.cell 1
      have k2 := bl.cell 2
      have k3 := bl.cell 3
      have k4 := bl.cell 4
      have k5 := bl.cell 5
      have k6 := bl.cell 6
      have k7 := bl.cell 7
      have k8 := bl.cell 8
      have k9 := bl.cell 9
      have k10 := bl.cell 10
      simp only [dc, List.getElem?_toArray, List.getElem?_cons_zero, List.getElem?_cons_succ] at k0 k1 k2 k3 k4 k5 k6 k7 k8 k9 k10
      clear bl
      refine ⟨by kernel_rfl, ?_⟩
      gi_step
      exact hK _ _ (Fr.refl _ _) rfl trivial
    simp only [Act.put, List.setIfInBounds_toArray, List.set_cons_succ, List.set_cons_zero]
    refine factWalkG_cons (fun W hW hf K hK => ?_) (fun x16 => ?_)
    · skip
      have e14 : x14 = .bool true := hf 14 (by omega) (by kernel_rfl)
      have e15 : x15 = .agg (dc H7 (.slice A7 r7 c7) N7 s) := hf 15 (by omega) (by kernel_rfl)
      subst e14 e15
      have hw := HS7.out W (HDR.out W hW)
      refine ⟨by kernel_rfl, ?_⟩
      gi_step
      refine ⟨trivial, ?_⟩
      refine (callsIn_wide.2 hw).mono ?_
      rintro e W' ⟨v, rfl, o2, f2⟩
      dsimp only
      exact hK _ _ f2 o2 trivial
    simp only [Act.put, List.setIfInBounds_toArray, List.set_cons_succ, List.set_cons_zero]
    refine factWalkG_cons (fun W hW hf K hK => ?_) (fun x17 => ?_)
    · skip
      have e14 : x14 = .bool true := hf 14 (by omega) (by kernel_rfl)
      obtain ⟨a16, d16, e16, rd16⟩ : ∃ A9 c9, x16 = .slice A9 s c9 ∧ Rd W A9 s (bv qb) := hf 16 (by omega) (by kernel_rfl)
      subst e14 e16
      have cv := conv_str W a16 s d16 qb rd16
      refine ⟨by kernel_rfl, ?_⟩
      gi_step
      exact hK _ _ (Fr.refl _ _) rfl trivial
    simp only [Act.put, List.setIfInBounds_toArray, List.set_cons_succ, List.set_cons_zero]
    refine factWalkG_cons (fun W hW hf K hK => ?_) (fun x18 => ?_)
    · skip
      have e14 : x14 = .bool true := hf 14 (by omega) (by kernel_rfl)
      subst e14
      refine ⟨by kernel_rfl, ?_⟩
      gi_step
      exact hK _ _ (Fr.refl _ _) rfl trivial
    simp only [Act.put, List.setIfInBounds_toArray, List.set_cons_succ, List.set_cons_zero]
    refine factWalkG_cons (fun W hW hf K hK => ?_) (fun x19 => ?_)
    · skip
      have e14 : x14 = .bool true := hf 14 (by omega) (by kernel_rfl)
      have e18 : x18 = .slice A8' s c8' := hf 18 (by omega) (by kernel_rfl)
      subst e14 e18
      have cv := conv_str W A8' s c8' qb (R8.out.far (HDR.out W hW))
      refine ⟨by kernel_rfl, ?_⟩
      gi_step
      exact hK _ _ (Fr.refl _ _) rfl trivial
    simp only [Act.put, List.setIfInBounds_toArray, List.set_cons_succ, List.set_cons_zero]
    refine factWalkG_cons (fun W hW hf K hK => ?_) (fun x20 => ?_)
    · skip
      have e14 : x14 = .bool true := hf 14 (by omega) (by kernel_rfl)
      have e17 : x17 = .string (strOf qb) := hf 17 (by omega) (by kernel_rfl)
      have e19 : x19 = .string (strOf qb) := hf 19 (by omega) (by kernel_rfl)
      subst e14 e17 e19
      have hbq : ((strOf qb).toList == (strOf qb).toList) = true := by simp
      refine ⟨by kernel_rfl, ?_⟩
      gi_step
      exact hK _ _ (Fr.refl _ _) rfl trivial
    simp only [Act.put, List.setIfInBounds_toArray, List.set_cons_succ, List.set_cons_zero]
    refine factWalkG_cons (fun W hW hf K hK => ?_) (fun x21 => ?_)
    · skip
      have e14 : x14 = .bool true := hf 14 (by omega) (by kernel_rfl)
      have e20 : x20 = .bool true := hf 20 (by omega) (by kernel_rfl)
      subst e14 e20
      refine ⟨by kernel_rfl, ?_⟩
      gi_step
      exact hK _ _ (Fr.refl _ _) rfl trivial
    simp only [Act.put, List.setIfInBounds_toArray, List.set_cons_succ, List.set_cons_zero]
    refine factWalkG_cons (fun W hW hf K hK => ?_) (fun x22 => ?_)
    · skip
      have e21 : x21 = .bool true := hf 21 (by omega) (by kernel_rfl)
      subst e21
      refine ⟨by kernel_rfl, ?_⟩
      gi_step
      exact hK _ _ (Fr.refl _ _) rfl trivial
    simp only [Act.put, List.setIfInBounds_toArray, List.set_cons_succ, List.set_cons_zero]
    refine factWalkG_cons (fun W hW hf K hK => ?_) (fun x23 => ?_)
    · skip
      have e22 : x22 = .bool true := hf 22 (by omega) (by kernel_rfl)
      subst e22
      refine ⟨by kernel_rfl, ?_⟩
      gi_step
      exact hK _ _ (Fr.refl _ _) rfl trivial
    simp only [Act.put, List.setIfInBounds_toArray, List.set_cons_succ, List.set_cons_zero]
    refine factWalkG_cons (fun W hW hf K hK => ?_) (fun x24 => ?_)
    · skip
      have e22 : x22 = .bool true := hf 22 (by omega) (by kernel_rfl)
      have e23 : x23 = .slice A7' s c7' := hf 23 (by omega) (by kernel_rfl)
      subst e22 e23
      refine ⟨by kernel_rfl, ?_⟩
      gi_step
      exact hK _ _ (Fr.refl _ _) rfl trivial
    simp only [Act.put, List.setIfInBounds_toArray, List.set_cons_succ, List.set_cons_zero]
    refine factWalkG_cons (fun W hW hf K hK => ?_) (fun x25 => ?_)
    · skip
      have e22 : x22 = .bool true := hf 22 (by omega) (by kernel_rfl)
      subst e22
      refine ⟨by kernel_rfl, ?_⟩
      gi_step
      exact hK _ _ (Fr.refl _ _) rfl trivial
    simp only [Act.put, List.setIfInBounds_toArray, List.set_cons_succ, List.set_cons_zero]
    refine factWalkG_cons (fun W hW hf K hK => ?_) (fun x26 => ?_)
    · skip
      have e22 : x22 = .bool true := hf 22 (by omega) (by kernel_rfl)
      have e24 : x24 = .int .i64 (s : Int) := hf 24 (by omega) (by kernel_rfl)
      have e25 : x25 = .int .i64 (s : Int) := hf 25 (by omega) (by kernel_rfl)
      subst e22 e24 e25
      refine ⟨by kernel_rfl, ?_⟩
      gi_step
      exact hK _ _ (Fr.refl _ _) rfl trivial
    simp only [Act.put, List.setIfInBounds_toArray, List.set_cons_succ, List.set_cons_zero]
    refine factWalkG_cons (fun W hW hf K hK => ?_) (fun x27 => ?_)
    · skip
      have e22 : x22 = .bool true := hf 22 (by omega) (by kernel_rfl)
      have e26 : x26 = .bool true := hf 26 (by omega) (by kernel_rfl)
      subst e22 e26
      refine ⟨by kernel_rfl, ?_⟩
      gi_step
      exact hK _ _ (Fr.refl _ _) rfl trivial
    simp only [Act.put, List.setIfInBounds_toArray, List.set_cons_succ, List.set_cons_zero]
    refine factWalkG_cons (fun W hW hf K hK => ?_) (fun x28 => ?_)
    · skip
      have e27 : x27 = .bool true := hf 27 (by omega) (by kernel_rfl)
      subst e27
      refine ⟨by kernel_rfl, ?_⟩
      gi_step
      exact hK _ _ (Fr.refl _ _) rfl trivial
    simp only [Act.put, List.setIfInBounds_toArray, List.set_cons_succ, List.set_cons_zero]
    refine factWalkG_cons (fun W hW hf K hK => ?_) (fun x29 => ?_)
    · skip
      have e28 : x28 = .bool true := hf 28 (by omega) (by kernel_rfl)
      subst e28
      have bl := B6b.out.fr (fp := fun _ => False) (HDR.out _ hW) (fun h => h)
      have k0 := bl.cell 0
      have k1 := bl.cell 1
      have k2 := bl.cell 2
      have k3 := bl.cell 3
      have k4 := bl.cell 4
      have k5 := bl.cell 5
      have k6 := bl.cell 6
      have k7 := bl.cell 7
      have k8 := bl.cell 8
      have k9 := bl.cell 9
      have k10 := bl.cell 10
      simp only [dc, List.getElem?_toArray, List.getElem?_cons_zero, List.getElem?_cons_succ] at k0 k1 k2 k3 k4 k5 k6 k7 k8 k9 k10
      clear bl
      refine ⟨by kernel_rfl, ?_⟩
      gi_step
      exact hK _ _ (Fr.refl _ _) rfl trivial
    simp only [Act.put, List.setIfInBounds_toArray, List.set_cons_succ, List.set_cons_zero]
    refine factWalkG_cons (fun W hW hf K hK => ?_) (fun x30 => ?_)
    · skip
      have e28 : x28 = .bool true := hf 28 (by omega) (by kernel_rfl)
      have e29 : x29 = .agg (dc H6 (.slice A6 r6 c6) N6 s) := hf 29 (by omega) (by kernel_rfl)
      subst e28 e29
      have hw := HS6.out W (HDR.out W hW)
      refine ⟨by kernel_rfl, ?_⟩
      gi_step
      refine ⟨trivial, ?_⟩
      refine (callsIn_wide.2 hw).mono ?_
      rintro e W' ⟨v, rfl, o2, f2⟩
      dsimp only
      exact hK _ _ f2 o2 trivial
    simp only [Act.put, List.setIfInBounds_toArray, List.set_cons_succ, List.set_cons_zero]
    refine factWalkG_cons (fun W hW hf K hK => ?_) (fun x31 => ?_)
    · skip
      have e28 : x28 = .bool true := hf 28 (by omega) (by kernel_rfl)
      obtain ⟨a30, d30, e30, rd30⟩ : ∃ A9 c9, x30 = .slice A9 s c9 ∧ Rd W A9 s (bv qa) := hf 30 (by omega) (by kernel_rfl)
      subst e28 e30
      have cv := conv_str W a30 s d30 qa rd30
      refine ⟨by kernel_rfl, ?_⟩
      gi_step
      exact hK _ _ (Fr.refl _ _) rfl trivial
    simp only [Act.put, List.setIfInBounds_toArray, List.set_cons_succ, List.set_cons_zero]
    refine factWalkG_cons (fun W hW hf K hK => ?_) (fun x32 => ?_)
    · skip
      have e28 : x28 = .bool true := hf 28 (by omega) (by kernel_rfl)
      subst e28
      refine ⟨by kernel_rfl, ?_⟩
      gi_step
      exact hK _ _ (Fr.refl _ _) rfl trivial
    simp only [Act.put, List.setIfInBounds_toArray, List.set_cons_succ, List.set_cons_zero]
    refine factWalkG_cons (fun W hW hf K hK => ?_) (fun x33 => ?_)
    · skip
      have e28 : x28 = .bool true := hf 28 (by omega) (by kernel_rfl)
      have e32 : x32 = .slice A7' s c7' := hf 32 (by omega) (by kernel_rfl)
      subst e28 e32
      have cv := conv_str W A7' s c7' qa (R7b.out.far (HDR.out W hW))
      refine ⟨by kernel_rfl, ?_⟩
      gi_step
      exact hK _ _ (Fr.refl _ _) rfl trivial
    simp only [Act.put, List.setIfInBounds_toArray, List.set_cons_succ, List.set_cons_zero]
    refine factWalkG_cons (fun W hW hf K hK => ?_) (fun x34 => ?_)
    · skip
      have e28 : x28 = .bool true := hf 28 (by omega) (by kernel_rfl)
      have e31 : x31 = .string (strOf qa) := hf 31 (by omega) (by kernel_rfl)
      have e33 : x33 = .string (strOf qa) := hf 33 (by omega) (by kernel_rfl)
      subst e28 e31 e33
      have hbq : ((strOf qa).toList == (strOf qa).toList) = true := by simp
      refine ⟨by kernel_rfl, ?_⟩
      gi_step
      exact hK _ _ (Fr.refl _ _) rfl trivial
    simp only [Act.put, List.setIfInBounds_toArray, List.set_cons_succ, List.set_cons_zero]
    refine factWalkG_cons (fun W hW hf K hK => ?_) (fun x35 => ?_)
    · skip
      have e28 : x28 = .bool true := hf 28 (by omega) (by kernel_rfl)
      have e34 : x34 = .bool true := hf 34 (by omega) (by kernel_rfl)
      subst e28 e34
      refine ⟨by kernel_rfl, ?_⟩
      gi_step
      exact hK _ _ (Fr.refl _ _) rfl trivial
    simp only [Act.put, List.setIfInBounds_toArray, List.set_cons_succ, List.set_cons_zero]
    refine factWalkG_cons (fun W hW hf K hK => ?_) (fun x36 => ?_)
    · skip
      have e35 : x35 = .bool true := hf 35 (by omega) (by kernel_rfl)
      subst e35
      refine ⟨by kernel_rfl, ?_⟩
      gi_step
      exact hK _ _ (Fr.refl _ _) rfl trivial
    simp only [Act.put, List.setIfInBounds_toArray, List.set_cons_succ, List.set_cons_zero]
    refine factWalkG_cons (fun W hW hf K hK => ?_) (fun x37 => ?_)
    · skip
      have e36 : x36 = .bool true := hf 36 (by omega) (by kernel_rfl)
      subst e36
      have hw := awake_c W (HT.out.far (F8.out.trans (HDR.out W hW) (fun _ _ h => h)))
      refine ⟨by kernel_rfl, ?_⟩
      gi_step
      refine ⟨trivial, ?_⟩
      refine (callsIn_wide.2 hw).mono ?_
      rintro e W' ⟨rfl, f2⟩
      dsimp only
      exact hK _ _ f2 rfl trivial
    simp only [Act.put, List.setIfInBounds_toArray, List.set_cons_succ, List.set_cons_zero]
    refine factWalkG_cons (fun W hW hf K hK => ?_) (fun x38 => ?_)
    · skip
      have e36 : x36 = .bool true := hf 36 (by omega) (by kernel_rfl)
      have e37 : x37 = .bool true := hf 37 (by omega) (by kernel_rfl)
      subst e36 e37
      refine ⟨by kernel_rfl, ?_⟩
      gi_step
      exact hK _ _ (Fr.refl _ _) rfl trivial
    simp only [Act.put, List.setIfInBounds_toArray, List.set_cons_succ, List.set_cons_zero]
    refine factWalkG_cons (fun W hW hf K hK => ?_) (fun x39 => ?_)
    · skip
      have e38 : x38 = .bool true := hf 38 (by omega) (by kernel_rfl)
      subst e38
      refine ⟨by kernel_rfl, ?_⟩
      gi_step
      exact hK _ _ (Fr.refl _ _) rfl trivial
    simp only [Act.put, List.setIfInBounds_toArray, List.set_cons_succ, List.set_cons_zero]
    refine factWalkG_nil (fun W hW hf hmet => ?_)
    have e39 : x39 = .bool true := hf 39 (by omega)
    subst e39
    have HFW := Lib.hid (F8.out.trans (HDR.out W hW) (fun _ _ h => h))
    clear hmet hf hW HDR
    change wpAnyIn _ _ _ _ _ _ 0 _ _ _
    refine wpAnyIn_done (by kernel_rfl) ?_ _
    go_wp2_with fail
    go_ret
    exact ⟨rfl, HFW.out⟩
end Go.Proofs.YthikkcbipifcdaaDoor
