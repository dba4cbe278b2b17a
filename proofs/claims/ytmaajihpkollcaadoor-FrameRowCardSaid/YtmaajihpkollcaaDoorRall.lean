/-
  CONTRACT of the reference's All.
-/
import Derived.Test.YtmaajihpkollcaaDoorAwake
import Derived.Test.YtmaajihpkollcaaDoorRput
namespace Go.Proofs.YtmaajihpkollcaaDoor
set_option linter.unusedSimpArgs false
set_option linter.unusedVariables false
open Go Go.RowKit

def lenOfV : Value → Nat
  | .slice _ n _ => n
  | _ => 0
/-- A row more of the call's own. -/
theorem OwnB.snoc {w w' : World} {base n c m d : Nat} {A B : Option Addr} {us : List Value} {v' : Value} {pre : List (List UInt8)} {p : List UInt8}
    (ho : w.ownsRow base 25 1 (.slice A n c) n us) (hn : pre.length = n) (hu : us.length = n ∧ ∀ i (h : i < pre.length), ∃ u, us[i]? = some u ∧ w.ownsRow base 5 1 u pre[i].length (bv pre[i]))
    (hp : w.ownsRow base 5 1 (.slice B m d) m (bv p)) (hm : p.length = m)
    (h' : w'.ownsRow base 25 1 v' (n + 1) (us ++ [.slice B m d])) (hf : Fr (fun k => (Value.slice A n c).ownBlock = some k) w w') : OwnB w' base v' (pre ++ [p]) := by
  subst hn hm
  refine ⟨us ++ [.slice B p.length d], by rw [List.length_append]; exact h', by rw [List.length_append, List.length_append, hu.1]; rfl, fun i hi => ?_⟩
  rw [List.length_append] at hi
  simp only [List.length_cons, List.length_nil] at hi
  by_cases hlt : i < pre.length
  · obtain ⟨u, h1, h2⟩ := hu.2 i hlt
    refine ⟨u, by rw [List.getElem?_append_left (by omega)]; exact h1, ?_⟩
    rw [List.getElem_append_left hlt]
    exact own_fr h2 hf (fun k hk e => own_own_ne h2 ho (by decide) k hk e)
  · obtain rfl : i = pre.length := by omega
    refine ⟨.slice B p.length d, by rw [← hu.1]; simp, ?_⟩
    have e : (pre ++ [p])[pre.length]'(by simp) = p := by simp
    rw [e]
    exact own_fr hp hf (fun k hk e => own_own_ne hp ho (by decide) k hk e)
theorem one_at (s : Nat) (b p : List UInt8) (h8 : ¬ b.length < 8) (hn : ¬ (16384 < num (b.take 4) ∨ b.length < 8 + num (b.take 4))) (hp : p = (b.drop 8).take (num (b.take 4))) :
    one s b = if (recB s p).take 8 = b.take 8 then some p else none := by
  have hl : p.length = num (b.take 4) := by rw [hp, List.length_take, List.length_drop]; omega
  have e1 : (recB s p).take 8 = b.take 4 ++ be 4 (sumOf s p) := by
    unfold recB
    rw [List.take_append_of_le_length (by rw [List.length_append, be_length, be_length]; omega), List.take_of_length_le (by rw [List.length_append, be_length, be_length]; omega), hl, be_num 4 _ (by rw [List.length_take]; omega)]
  have e2 : b.take 8 = b.take 4 ++ (b.drop 4).take 4 := by rw [show 8 = 4 + 4 from rfl, List.take_add]
  unfold one
  rw [if_neg h8, if_neg hn, ← hp, e1, e2]
  by_cases h : be 4 (sumOf s p) = (b.drop 4).take 4
  · rw [if_pos h, if_pos (by rw [h])]
  · rw [if_neg h, if_neg (fun e => h (List.append_cancel_left e))]

theorem one_stop (s : Nat) (b : List UInt8) (h : b.length < 8 ∨ 16384 < num (b.take 4) ∨ b.length < 8 + num (b.take 4)) : one s b = none := by
  unfold one
  by_cases h8 : b.length < 8
  · rw [if_pos h8]
  · rw [if_neg h8, if_pos (h.resolve_left h8)]
/-- The end, whatever stops it. -/
theorem rall_fin {w wr W : World} {b : List UInt8} {pre : List (List UInt8)} {v : Value} {C Z s : Nat} (hf : Fr (fun _ => False) w wr) (ho : OwnB wr (w.heap.size + 2) v pre) (hd0 : Blk wr w.heap.size 30 #[.int .i64 0, .int .i64 0, .int .u32 0])
    (ht : (tells 0 b).1 = pre ++ (tells s (b.drop Z)).1) (h1 : one s (b.drop Z) = none)
    (hW : W = (((wr.setCell ⟨w.heap.size, 0, none⟩ (.int .i64 C)).setCell ⟨w.heap.size, 1, none⟩ (.int .i64 Z)).setCell ⟨w.heap.size, 2, none⟩ (.int .u32 s)).drew) :
    W.cell? ⟨w.heap.size, 0, none⟩ = some (.int .i64 C) ∧ W.cell? ⟨w.heap.size, 1, none⟩ = some (.int .i64 Z) ∧ W.cell? ⟨w.heap.size, 2, none⟩ = some (.int .u32 s) ∧ (tells 0 b).1 = pre ∧ OwnB W w.heap.size v pre ∧ Fr (fun _ => False) w W := by
  have fset : Fr (fun k => k = w.heap.size) wr W := by
    rw [hW]
    exact ((((Fr.refl (fun k => k = w.heap.size) wr).set_ _ _).set_ _ _).set_ _ _).drew
  have h9 : Blk W w.heap.size 30 #[.int .i64 C, .int .i64 Z, .int .u32 s] := by
    have := (((hd0.set_ 0 (.int .i64 C)).set_ 1 (.int .i64 Z)).set_ 2 (.int .u32 s)).drew
    rw [hW]
    simpa using this
  refine ⟨h9.cell 0, h9.cell 1, h9.cell 2, by rw [ht, tells_none h1, List.append_nil], (ho.fr fset (fun k hk e => by omega)).base (by omega), hf.trans fset (fun i hi e => by omega)⟩

theorem rall_fin2 {w wr W : World} {b : List UInt8} {pre : List (List UInt8)} {v : Value} {C Z s : Nat} (hf : Fr (fun _ => False) w wr) (ho : OwnB wr (w.heap.size + 2) v pre) (hd0 : Blk wr w.heap.size 30 #[.int .i64 0, .int .i64 0, .int .u32 0])
    (ht : (tells 0 b).1 = pre ++ (tells s (b.drop Z)).1) (h1 : one s (b.drop Z) = none)
    (hW : W = (((wr.setCell ⟨w.heap.size, 0, none⟩ (.int .i64 C)).setCell ⟨w.heap.size, 1, none⟩ (.int .i64 Z)).setCell ⟨w.heap.size, 2, none⟩ (.int .u32 s)).drew.drew) :
    W.cell? ⟨w.heap.size, 0, none⟩ = some (.int .i64 C) ∧ W.cell? ⟨w.heap.size, 1, none⟩ = some (.int .i64 Z) ∧ W.cell? ⟨w.heap.size, 2, none⟩ = some (.int .u32 s) ∧ (tells 0 b).1 = pre ∧ OwnB W w.heap.size v pre ∧ Fr (fun _ => False) w W := by
  obtain ⟨r0, r1, r2, e, o, f⟩ := rall_fin (C := C) hf ho hd0 ht h1 rfl
  subst hW
  exact ⟨r0, r1, r2, e, o.fr (Fr.refl (fun _ => False) _).drew (fun _ _ h => h), f.drew⟩

set_option maxRecDepth 100000 in
set_option maxHeartbeats 8000000 in
theorem rall_c (w : World) (B : Option Addr) (nb cb : Nat) (b : List UInt8) (hr : Rd w B nb (bv b)) (hc1 : nb ≤ cb) (hc2 : cb ≤ maxLen) (hl : nb ≤ 1000000000) :
    Calls Tryd.prog 14 #[.slice B nb cb] w fun e w' => ∃ v, e = .returned (.tuple #[v, tailV ((tells 0 b).1.length : Int) (sizes (tells 0 b).1 : Int) (rowS 0 (tells 0 b).1 : Int)]) ∧ OwnB w' w.heap.size v (tells 0 b).1 ∧ Fr (fun _ => False) w w' := by
  obtain ⟨i0, hi, hz0, hz1, hz2⟩ := info_parts u8_info
  obtain ⟨i1, hi1, hy0, hy1, hy2⟩ := info_parts bytes_info
  have hbl : b.length = nb := by rw [← hr.1, bv_length]
  have HR := Lib.hid hr
  have HBL := Lib.hid hbl
  have HC2 := Lib.hid hc2
  have hI := Lib.hid hi
  have hI1 := Lib.hid hi1
  clear hr hbl hi hi1 hc2
  have D0 : Hid (Blk ((w.alloc (.cells #[.int .i64 0, .int .i64 0, .int .u32 0] 30)).alloc (.cells #[.int .i64 0, .int .i64 0, .int .u32 0] 30)) w.heap.size 30 #[.int .i64 0, .int .i64 0, .int .u32 0]) := (Blk.new w _ _).alloc _
  have D1 : Hid (Blk ((w.alloc (.cells #[.int .i64 0, .int .i64 0, .int .u32 0] 30)).alloc (.cells #[.int .i64 0, .int .i64 0, .int .u32 0] 30)) (w.heap.size + 1) 30 #[.int .i64 0, .int .i64 0, .int .u32 0]) := by
    have := Blk.new (w.alloc (.cells #[.int .i64 0, .int .i64 0, .int .u32 0] 30)) 30 #[.int .i64 0, .int .i64 0, .int .u32 0]
    rwa [World.size_alloc] at this
  have F1 : Hid (Fr (fun _ => False) w ((w.alloc (.cells #[.int .i64 0, .int .i64 0, .int .u32 0] 30)).alloc (.cells #[.int .i64 0, .int .i64 0, .int .u32 0] 30))) := ((Fr.refl _ w).alloc _).alloc _
  have z1 : w.heap.size + 2 ≤ ((w.alloc (.cells #[.int .i64 0, .int .i64 0, .int .u32 0] 30)).alloc (.cells #[.int .i64 0, .int .i64 0, .int .u32 0] 30)).heap.size := by simp
  go_enter Tryd.func14, Tryd.ntmps14
  go_wp2_with fail
  generalize ((w.alloc (.cells #[.int .i64 0, .int .i64 0, .int .u32 0] 30)).alloc (.cells #[.int .i64 0, .int .i64 0, .int .u32 0] 30)) = w1 at *
  go_loopw [4] (fun lv wr => ∃ (pre : List (List UInt8)) (C : Nat) (A4 : Option Addr) (c4 : Nat), lv = .slice A4 C c4 ∧ Hid (pre.length = C) ∧ Hid (OwnB wr (w.heap.size + 2) (.slice A4 C c4) pre) ∧ Hid (Blk wr w.heap.size 30 #[.int .i64 0, .int .i64 0, .int .u32 0]) ∧
      Hid (Blk wr (w.heap.size + 1) 30 #[.int .i64 (pre.length : Int), .int .i64 (sizes pre : Int), .int .u32 (rowS 0 pre : Int)]) ∧ Hid (Fr (fun _ => False) w wr) ∧ w.heap.size + 2 ≤ wr.heap.size ∧ Hid (∃ m, b = rowB 0 pre ++ m) ∧
      Hid ((tells 0 b).1 = pre ++ (tells (rowS 0 pre) (b.drop (sizes pre))).1)) (fun lv _ => nb - lenOfV lv)
  case atStart => exact ⟨[], 0, none, 0, rfl, rfl, OwnB.nil _ _, D0.out, D1.out, F1.out, z1, ⟨b, rfl⟩, by show _ = _; simp [sizes, rowS]⟩
  case round =>
    obtain ⟨pre, C, A4, c4, rfl, hC, ho, hd0, hd1, hf, hz, hm, ht⟩ := hrel
    have hple : sizes pre ≤ nb := by
      obtain ⟨m, h⟩ := hm.out
      rw [← HBL.out, h, List.length_append, rowB_length]
      omega
    have hpl := le_sizes pre
    have hss := rowS_lt 0 pre (by omega)
    obtain ⟨Z, hZ⟩ : ∃ Z, sizes pre = Z := ⟨_, rfl⟩
    obtain ⟨s, hS⟩ : ∃ s, rowS 0 pre = s := ⟨_, rfl⟩
    rw [hZ] at hple hpl hd1 ht
    rw [hS] at hss hd1 ht
    rw [hC.out] at hpl hd1
    have HZ := Lib.hid hZ
    have HS := Lib.hid hS
    clear hZ hS
    have c0 := hd1.out.cell 0
    have c1 := hd1.out.cell 1
    have c2 := hd1.out.cell 2
    by_cases h8 : nb < Z + 8
    · have y0 := hd0.out.frozen 0
      have y1 := hd0.out.frozen 1
      have y2 := hd0.out.frozen 2
      have q0 := hd0.out.cell 0
      have q1 := hd0.out.cell 1
      have q2 := hd0.out.cell 2
      go_wp2_with fail
      go_region
      all_goals
        obtain ⟨r0, r1, r2, e9, o9, f9⟩ := rall_fin hf.out ho.out hd0.out ht.out (one_stop s (b.drop Z) (.inl (by rw [List.length_drop, HBL.out]; omega))) rfl
        have E9 := Lib.hid e9
        have O9 := Lib.hid o9
        have FF9 := Lib.hid f9
        clear e9 o9 f9
        generalize ((((wr.setCell ⟨w.heap.size, 0, none⟩ (.int .i64 C)).setCell ⟨w.heap.size, 1, none⟩ (.int .i64 Z)).setCell ⟨w.heap.size, 2, none⟩ (.int .u32 s)).drew) = w9 at *
        go_wp2_with fail
        exact bodyPost_ret (v := .tuple #[.slice A4 C c4, .agg #[.int .i64 C, .int .i64 Z, .int .u32 s]]) (by simp [results, Tryd.results14, go_sem, r0, r1, r2]) rfl ⟨_, by rw [E9.out, hC.out, HZ.out, HS.out]; rfl, by rw [E9.out]; exact O9.out, FF9.out⟩
    · have RB := Lib.hid (HR.out.far hf.out)
      have HL4 : Hid (((b.drop Z).take 4).length = 4) := by show _ = _; rw [List.length_take, List.length_drop, HBL.out]; omega
      go_wp2_with fail
      go_loop [6, 7] (fun nv kv => ∃ k N : Nat, k ≤ 4 ∧ kv = .int .i64 k ∧ nv = .int .i64 (N : Int) ∧ N < 4294967296 ∧ Hid (N = num (((b.drop Z).take 4).take k))) (fun _ kv => 4 - (intOf kv).toNat)
      case atStart => exact ⟨0, 0, Nat.zero_le _, rfl, rfl, by omega, rfl⟩
      case round =>
        obtain ⟨k, N, hk, rfl, rfl, hN4, hN⟩ := hrel
        by_cases hlt : k < 4
        · obtain ⟨bb, off, rfl, -⟩ := RB.out.lit (by omega)
          have d0 := RB.out.cell (k := Z + k) (by omega)
          rw [bv_get _ _ (by rw [HBL.out]; omega)] at d0
          have hx := (b[Z + k]'(by rw [HBL.out]; omega)).toNat_lt
          have hsn : Hid (N * 256 + (b[Z + k]'(by rw [HBL.out]; omega)).toNat = num (((b.drop Z).take 4).take (k + 1))) := by
            show _ = _
            have e : ((b.drop Z).take 4)[k]'(by rw [HL4.out]; exact hlt) = b[Z + k]'(by rw [HBL.out]; omega) := by rw [List.getElem_take, List.getElem_drop]
            rw [List.take_succ_eq_append_getElem (by rw [HL4.out]; exact hlt), num_snoc, ← hN.out, e]
          have hs2 : N < 16777216 := by rw [hN.out]; exact num_four ((b.drop Z).take 4) k (by rw [HL4.out]; exact Nat.le_refl _) (by rw [HL4.out]; exact hlt)
          generalize (b[Z + k]'(by rw [HBL.out]; omega)).toNat = x at *
          go_wp2_with fail
          exact ⟨⟨k + 1, N * 256 + x, hlt, by go_num, by go_num, by omega, hsn.out⟩, by simp [intOf]; omega⟩
        · obtain rfl : k = 4 := by omega
          have hNN : Hid (N = num ((b.drop Z).take 4)) := by
            show _ = _
            rw [hN.out, List.take_of_length_le (by rw [HL4.out]; exact Nat.le_refl _)]
          have hdl : Hid ((b.drop Z).length = nb - Z) := by show _ = _; rw [List.length_drop, HBL.out]
          have y0 := hd0.out.frozen 0
          have y1 := hd0.out.frozen 1
          have y2 := hd0.out.frozen 2
          have q0 := hd0.out.cell 0
          have q1 := hd0.out.cell 1
          have q2 := hd0.out.cell 2
          by_cases hbig : 16384 < N
          · go_wp2_with fail
            go_region
            all_goals
              obtain ⟨r0, r1, r2, e9, o9, f9⟩ := rall_fin hf.out ho.out hd0.out ht.out (one_stop s (b.drop Z) (.inr (.inl (by rw [← hNN.out]; exact hbig)))) rfl
              have E9 := Lib.hid e9
              have O9 := Lib.hid o9
              have FF9 := Lib.hid f9
              clear e9 o9 f9
              generalize ((((wr.setCell ⟨w.heap.size, 0, none⟩ (.int .i64 C)).setCell ⟨w.heap.size, 1, none⟩ (.int .i64 Z)).setCell ⟨w.heap.size, 2, none⟩ (.int .u32 s)).drew) = w9 at *
              go_wp2_with fail
              exact bodyPost_ret (v := .tuple #[.slice A4 C c4, .agg #[.int .i64 C, .int .i64 Z, .int .u32 s]]) (by simp [results, Tryd.results14, go_sem, r0, r1, r2]) rfl ⟨_, by rw [E9.out, hC.out, HZ.out, HS.out]; rfl, by rw [E9.out]; exact O9.out, FF9.out⟩
          · by_cases hsh : nb < Z + 8 + N
            · go_wp2_with fail
              go_region
              all_goals
                obtain ⟨r0, r1, r2, e9, o9, f9⟩ := rall_fin hf.out ho.out hd0.out ht.out (one_stop s (b.drop Z) (.inr (.inr (by rw [← hNN.out, hdl.out]; omega)))) rfl
                have E9 := Lib.hid e9
                have O9 := Lib.hid o9
                have FF9 := Lib.hid f9
                clear e9 o9 f9
                generalize ((((wr.setCell ⟨w.heap.size, 0, none⟩ (.int .i64 C)).setCell ⟨w.heap.size, 1, none⟩ (.int .i64 Z)).setCell ⟨w.heap.size, 2, none⟩ (.int .u32 s)).drew) = w9 at *
                go_wp2_with fail
                exact bodyPost_ret (v := .tuple #[.slice A4 C c4, .agg #[.int .i64 C, .int .i64 Z, .int .u32 s]]) (by simp [results, Tryd.results14, go_sem, r0, r1, r2]) rfl ⟨_, by rw [E9.out, hC.out, HZ.out, HS.out]; rfl, by rw [E9.out]; exact O9.out, FF9.out⟩
            · obtain ⟨p, hp⟩ : ∃ p, ((b.drop Z).drop 8).take N = p := ⟨_, rfl⟩
              have hpl : p.length = N := by rw [← hp, List.length_take, List.length_drop, hdl.out]; omega
              have H1 : Hid (one s (b.drop Z) = if (recB s p).take 8 = (b.drop Z).take 8 then some p else none) := by
                show _ = _
                refine one_at s (b.drop Z) p (by rw [hdl.out]; omega) (by rw [← hNN.out, hdl.out]; omega) ?_
                rw [← hNN.out]
                exact hp.symm
              have RDa : Hid (cb = Z + 8 → Rd wr B N (bv p)) := fun e => by
                obtain rfl : N = 0 := by omega
                obtain rfl : p = [] := List.eq_nil_of_length_eq_zero hpl
                exact Rd.none_ _ _
              have RDb : Hid (¬ Z + 8 = cb → Rd wr (B.map (fun x => (⟨x.block, x.off + (Z + 7 + 1), none⟩ : Addr))) N (bv p)) := fun e => by
                have h := (RB.out.cut (k := Z + 8) (cap := cb) (by omega) (by omega)).take (k := N) (by omega)
                rw [if_neg (fun h => e h.symm), ← bv_drop, ← bv_take, ← List.drop_drop, hp] at h
                rcases Nat.eq_zero_or_pos N with h0 | h0
                · subst h0
                  obtain rfl : p = [] := List.eq_nil_of_length_eq_zero hpl
                  exact Rd.none_ _ _
                · obtain ⟨bb, off, rfl, -⟩ := RB.out.lit (by omega)
                  simpa [Addr.add_lit] using h
              have hbyte : ∀ i (h : i < 8), ∃ y z : Nat, y < 256 ∧ z < 256 ∧ (bv (recB s p))[i]? = some (.int .u8 (y : Int)) ∧ (bv b)[Z + i]? = some (.int .u8 (z : Int)) ∧ ((recB s p).take i = (b.drop Z).take i → y = z → (recB s p).take (i + 1) = (b.drop Z).take (i + 1)) ∧ (y ≠ z → (recB s p).take 8 ≠ (b.drop Z).take 8) := by
                intro i h
                have l1 : i < (recB s p).length := by rw [recB_length]; omega
                have l2 : Z + i < b.length := by rw [HBL.out]; omega
                have l3 : i < (b.drop Z).length := by rw [hdl.out]; omega
                have e3 : (b.drop Z)[i] = b[Z + i] := by rw [List.getElem_drop]
                refine ⟨_, _, (recB s p)[i].toNat_lt, b[Z + i].toNat_lt, bv_get _ _ l1, bv_get _ _ l2, fun g1 g2 => ?_, fun g1 g2 => g1 ?_⟩
                · rw [List.take_succ_eq_append_getElem l1, List.take_succ_eq_append_getElem l3, g1, e3, UInt8.toNat_inj.1 g2]
                · have g3 := congrArg (fun l => l[i]?) g2
                  simp only [List.getElem?_take, if_pos h, List.getElem?_eq_getElem l1, List.getElem?_eq_getElem l3, Option.some.injEq] at g3
                  rw [g3, e3]
              have HY := Lib.hid hbyte
              have HPL := Lib.hid hpl
              clear hp hpl hbyte y0 y1 y2 q0 q1 q2
              by_cases hcb : Z + 8 = cb
              all_goals
                first
                  | (have RP := Lib.hid (RDa.out hcb.symm))
                  | (have RP := Lib.hid (RDb.out hcb))
                go_wp2_with fail
                have HCB := Lib.hid hcb
                clear hcb RDa RDb
                try (generalize (Option.map (fun x => (⟨x.block, x.off + (Z + 7 + 1), none⟩ : Addr)) B) = A8 at *)
                have hput := fun c8 => rput_c wr C Z s hss (by omega) (by omega) (by omega) (by omega) _ N c8 p RP.out (by omega)
                unfold tailV at hput
                have HPUT := Lib.hid hput
                clear hput
                refine (HPUT.out _).mono ?_
                rintro e w2 ⟨v2, rfl, o2, f2⟩
                obtain ⟨A2, c2', rfl, hc21, hc22⟩ := own_slice o2
                obtain ⟨x, hX⟩ : ∃ x, sumOf s p = x := ⟨_, rfl⟩
                rw [hX]
                have HX := Lib.hid hX
                have F2 := Lib.hid (f2.alloc (.cells #[.int .i64 ((C : Int) + 1), .int .i64 ((Z : Int) + 8 + (N : Int)), .int .u32 (x : Int)] 30))
                have W2 := Lib.hid ((Rd.of_own (own_base o2 (base' := 0) (fun _ _ => Nat.zero_le _))).alloc (.cells #[.int .i64 ((C : Int) + 1), .int .i64 ((Z : Int) + 8 + (N : Int)), .int .u32 (x : Int)] 30))
                have T2 := Lib.hid (Blk.new w2 30 #[.int .i64 ((C : Int) + 1), .int .i64 ((Z : Int) + 8 + (N : Int)), .int .u32 (x : Int)])
                have z2 : w.heap.size + 2 ≤ w2.heap.size := Nat.le_trans hz f2.size
                clear hX f2 o2 c0 c1 c2
                go_wp2_with fail
                generalize (w2.alloc (.cells #[.int .i64 ((C : Int) + 1), .int .i64 ((Z : Int) + 8 + (N : Int)), .int .u32 (x : Int)] 30)) = w3 at *
                have D03 := Lib.hid (hd0.out.fr (F2.out) (fun h => h))
                have D13 := Lib.hid (hd1.out.fr (F2.out) (fun h => h))
                have RB3 := Lib.hid (RB.out.far F2.out)
                have RP3 := Lib.hid (RP.out.far F2.out)
                have OB3 := Lib.hid (ho.out.fr F2.out (fun _ _ h => h))
                have F3 := Lib.hid (hf.out.trans F2.out (fun _ _ h => h))
                have z3 : w.heap.size + 2 ≤ w3.heap.size := Nat.le_trans hz F2.out.size
                go_loopw [12] (fun iv wq => ∃ i : Nat, i ≤ 8 ∧ iv = .int .i64 (i : Int) ∧ Hid ((recB s p).take i = (b.drop Z).take i) ∧ Hid (Fr (fun _ => False) w3 wq)) (fun iv _ => 8 - (intOf iv).toNat)
                case atStart => exact ⟨0, Nat.zero_le _, rfl, rfl, Fr.refl _ _⟩
                case round =>
                  obtain ⟨i, hi8, rfl, hst, hfq⟩ := hrel
                  by_cases hlt8 : i < 8
                  · obtain ⟨y, zz, hy1, hz1', hw, hb', hsame, hdiff⟩ := HY.out i hlt8
                    have rw_ := W2.out.far hfq.out
                    have rb := RB3.out.far hfq.out
                    obtain ⟨g2, o2', rfl, -⟩ := rw_.lit (by omega)
                    have d0 := rw_.cell (k := i) (by omega)
                    rw [hw] at d0
                    obtain ⟨bb, off, rfl, -⟩ := rb.lit (by omega)
                    have d1 := rb.cell (k := Z + i) (by omega)
                    rw [hb'] at d1
                    have e1 := D13.out.fr hfq.out (fun h => h)
                    have c0 := e1.cell 0
                    have c1 := e1.cell 1
                    have c2 := e1.cell 2
                    have HSM := Lib.hid hsame
                    have HDF := Lib.hid hdiff
                    clear hw hb' hsame hdiff rw_ rb e1
                    by_cases hyz : y = zz
                    · subst hyz
                      have hneq : ((y : Int) != (y : Int)) = false := by simp
                      go_wp2_with fail
                      go_region
                      go_wp2_with fail
                      exact ⟨⟨i + 1, hlt8, by go_num, HSM.out hst.out trivial, hfq.out.drew⟩, by simp [intOf]; omega⟩
                    · have hneq : ((y : Int) != (zz : Int)) = true := by simp; omega
                      have e0 := D03.out.fr hfq.out (fun h => h)
                      have y0 := e0.frozen 0
                      have y1 := e0.frozen 1
                      have y2 := e0.frozen 2
                      have q0 := e0.cell 0
                      have q1 := e0.cell 1
                      have q2 := e0.cell 2
                      have E0 := Lib.hid e0
                      clear e0
                      go_wp2_with fail
                      go_region
                      go_wp2_with fail
                      go_region
                      all_goals
                        have hone : one s (b.drop Z) = none := by rw [H1.out, if_neg (HDF.out hyz)]
                        obtain ⟨r0, r1, r2, e9, o9, f9⟩ := rall_fin2 (F3.out.trans hfq.out (fun _ _ h => h)) (OB3.out.fr hfq.out (fun _ _ h => h)) E0.out ht.out hone rfl
                        have E9 := Lib.hid e9
                        have O9 := Lib.hid o9
                        have FF9 := Lib.hid f9
                        clear e9 o9 f9
                        generalize ((((wr.setCell ⟨w.heap.size, 0, none⟩ (.int .i64 C)).setCell ⟨w.heap.size, 1, none⟩ (.int .i64 Z)).setCell ⟨w.heap.size, 2, none⟩ (.int .u32 s)).drew.drew) = w9 at *
                        go_wp2_with fail
                        exact bodyPost_ret (v := .tuple #[.slice A4 C c4, .agg #[.int .i64 C, .int .i64 Z, .int .u32 s]]) (by simp [results, Tryd.results14, go_sem, r0, r1, r2]) rfl ⟨_, by rw [E9.out, hC.out, HZ.out, HS.out]; rfl, by rw [E9.out]; exact O9.out, FF9.out⟩
                  · obtain rfl : i = 8 := by omega
                    have h1 : one s (b.drop Z) = some p := by rw [H1.out, if_pos hst.out]
                    obtain ⟨-, g16, hm', ht'⟩ := its_next hm.out (by rw [HZ.out, HS.out]; exact ht.out) (by rw [HZ.out, HS.out]; exact h1)
                    have HM' := Lib.hid hm'
                    have HT' := Lib.hid ht'
                    obtain ⟨us, ho1, ho2, ho3⟩ := OB3.out.fr hfq.out (fun _ _ h => h)
                    rw [hC.out] at ho1 ho2
                    have zq := hfq.out.size
                    have OE : Hid ((wr.alloc (.cells #[] 5)).ownsRow (w.heap.size + 2) 5 1 (.slice (some ⟨wr.heap.size, 0, none⟩) 0 0) 0 []) := own_empty _ _ _ 0 #[] (by omega) (heap_alloc_new wr _) rfl (by unfold maxLen; omega)
                    have GE : Hid (Fr (fun _ => False) w3 (wr.alloc (.cells #[] 5))) := hfq.out.alloc _
                    have zE := GE.out.size
                    have RE := Lib.hid (RP3.out.far GE.out)
                    have O1 := Lib.hid ho1
                    have O3 := Lib.hid (And.intro ho2 ho3)
                    clear ho1 ho2 ho3 h1 hm' ht'
                    go_wp2_with (first
                      | (at_builtin
                         refine wpList_app rfl _ _ _ _ rfl (w.heap.size + 2) 25 i1 _ 1 24 Tryd.underlying22 hI1.out hy0 hy1 hy2 rfl _ C _ rfl OA8.out _ 1 _ rfl (Src.rd Tryd.underlying22 _ (rd_one w7 25 (.slice A7 N c7)) (by simp [Value.oneCell'])) (by omega) (by unfold maxLen; omega) z8 ?_
                         intro v9 w9 hown9 hf9 hn9
                         obtain ⟨A9, c9, rfl, hc9, hcm9⟩ := own_slice hown9
                         have OB9 := Lib.hid (OwnB.snoc OA8.out hC.out O38.out H8.out HPL.out hown9 hf9)
                         have z9 := hf9.size
                         have F9 := Lib.hid ((G7.out.alloc (.cells #[.slice A7 N c7] 25)).trans hf9 (fun i hi hq => by have := (OA8.out.lt i hq).1; omega))
                         have T9 := T8.out.fr hf9 (fun e => own_blk_ne OA8.out T8.out (by decide) e)
                         have D19 := D18.out.fr hf9 (fun e => own_blk_ne OA8.out D18.out (by decide) e)
                         have D09 := Lib.hid (D08.out.fr hf9 (fun e => own_blk_ne OA8.out D08.out (by decide) e))
                         have t0 := T9.cell 0
                         have t1 := T9.cell 1
                         have t2 := T9.cell 2
                         have q0 := D19.cell 0
                         have q1 := D19.cell 1
                         have q2 := D19.cell 2
                         have y0 := D19.frozen 0
                         have y1 := D19.frozen 1
                         have y2 := D19.frozen 2
                         have HD19 := Lib.hid D19
                         clear hown9 hf9 hn9 hcm9 T9 D19)
                      | (at_builtin
                         refine wpList_app rfl _ _ _ _ rfl (w.heap.size + 2) 5 i0 _ 1 1 Tryd.underlying25 hI.out hz0 hz1 hz2 rfl _ 0 _ rfl OE.out _ N _ rfl (Src.rd Tryd.underlying25 _ RE.out (bv_one _)) (by omega) (by unfold maxLen; omega) (by omega) ?_
                         intro v7 w7 hown7 hf7 hn7
                         rw [Nat.zero_add, List.nil_append] at hown7
                         obtain ⟨A7, c7, rfl, hc7, hcm7⟩ := own_slice hown7
                         have f7 : Fr (fun _ => False) wr w7 := (((Fr.refl (fun _ => False) wr).alloc (.cells #[] 5))).trans hf7 (fun i hi hq => by have h2 : wr.heap.size = i := Option.some.inj hq; omega)
                         have f8 := f7.alloc (.cells #[.slice A7 N c7] 25)
                         have G7 := Lib.hid (F3.out.trans (hfq.out.trans f7 (fun _ _ h => h)) (fun _ _ h => h))
                         have OA8 := Lib.hid (own_fr O1.out f8 (fun _ _ h => h))
                         have O38 : Hid (us.length = C ∧ ∀ i (h : i < pre.length), ∃ u, us[i]? = some u ∧ (w7.alloc (.cells #[.slice A7 N c7] 25)).ownsRow (w.heap.size + 2) 5 1 u pre[i].length (bv pre[i])) := ⟨O3.out.1, fun i h => by
                           obtain ⟨u, g1, g2⟩ := O3.out.2 i h
                           exact ⟨u, g1, own_fr g2 f8 (fun _ _ h => h)⟩⟩
                         have H8 := Lib.hid (own_fr hown7 ((Fr.refl (fun _ => False) w7).alloc (.cells #[.slice A7 N c7] 25)) (fun _ _ h => h))
                         have z8 : w.heap.size + 2 ≤ (w7.alloc (.cells #[.slice A7 N c7] 25)).heap.size := by have := f8.size; omega
                         have T8 := Lib.hid ((T2.out.fr hfq.out (fun h => h)).fr f8 (fun h => h))
                         have D08 := Lib.hid ((D03.out.fr hfq.out (fun h => h)).fr f8 (fun h => h))
                         have D18 := Lib.hid ((D13.out.fr hfq.out (fun h => h)).fr f8 (fun h => h))
                         clear hown7 hf7 hn7 f7 f8))
                    have fset : Fr (fun k => k = w.heap.size + 1) w9 (((w9.setCell ⟨w.heap.size + 1, 0, none⟩ (.int .i64 ((C : Int) + 1))).setCell ⟨w.heap.size + 1, 1, none⟩ (.int .i64 ((Z : Int) + 8 + (N : Int)))).setCell ⟨w.heap.size + 1, 2, none⟩ (.int .u32 (x : Int))) := (((Fr.refl _ w9).set_ _ _).set_ _ _).set_ _ _
                    have hset := ((HD19.out.set_ 0 (.int .i64 ((C : Int) + 1))).set_ 1 (.int .i64 ((Z : Int) + 8 + (N : Int)))).set_ 2 (.int .u32 (x : Int))
                    have e1 : (((pre ++ [p]).length : Nat) : Int) = (C : Int) + 1 := by rw [List.length_append, hC.out]; simp
                    have e2 : ((sizes (pre ++ [p]) : Nat) : Int) = (Z : Int) + 8 + (N : Int) := by rw [sizes_append, HZ.out, show sizes [p] = 8 + p.length from by simp [sizes], HPL.out]; omega
                    have e3 : rowS 0 (pre ++ [p]) = x := by rw [rowS_append, HS.out, ← HX.out]; simp [rowS]
                    refine ⟨⟨pre ++ [p], C + 1, A9, c9, rfl, ?_, OB9.out.fr fset (fun k hk => by omega), D09.out.fr fset (by omega), ?_, F9.out.trans fset (fun i hi e => by omega), Nat.le_trans (Nat.le_trans z8 z9) fset.size, HM'.out, HT'.out⟩, by simp [lenOfV]; omega⟩
                    · show _ = _
                      rw [List.length_append, hC.out]
                      rfl
                    · show Blk _ _ _ _
                      rw [e1, e2, e3]
                      simp at hset
                      exact hset
end Go.Proofs.YtmaajihpkollcaaDoor
