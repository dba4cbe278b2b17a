/-
  CONTRACTS: frame's Put of a payload that is too long, Row.
-/
import Derived.Test.YtmaajihpkollcaaDoorFr6
namespace Go.Proofs.YtmaajihpkollcaaDoor
set_option linter.unusedSimpArgs false
set_option linter.unusedVariables false
open Go Go.RowKit

set_option maxRecDepth 100000 in
set_option maxHeartbeats 2000000 in
theorem put_long (w : World) (cn sz s : Int) (A : Option Addr) (n c : Nat) (hn : 16384 < n) :
    Calls Tryd.prog 18 #[tailV cn sz s, .slice A n c] w fun e w' => e = .returned (.tuple #[.slice none 0 0, tailV 0 0 0, .int .i64 6]) ∧ Fr (fun _ => False) w w' := by
  unfold tailV
  have D1 := Blk.new (w.alloc (.cells #[.int .i64 cn, .int .i64 sz, .int .u32 s] 30)) 30 #[.int .i64 0, .int .i64 0, .int .u32 0]
  rw [World.size_alloc] at D1
  have DD := Lib.hid D1
  clear D1
  go_enter Tryd.func18, Tryd.ntmps18
  go_wp2_with fail
  exact bodyPost_ret (v := .tuple #[.slice none 0 0, .agg #[.int .i64 0, .int .i64 0, .int .u32 0], .int .i64 6]) (by simp [results, Tryd.results18, go_sem]) rfl ⟨rfl, ((((Fr.refl _ w).alloc _).alloc _))⟩

theorem rowB_succ (ls : List (List UInt8)) (k : Nat) (h : k < ls.length) : rowB 0 (ls.take (k + 1)) = rowB 0 (ls.take k) ++ recB (rowS 0 (ls.take k)) ls[k] := by
  rw [List.take_succ_eq_append_getElem h, rowB_append]
  simp [rowB]
theorem rowS_succ (ls : List (List UInt8)) (k : Nat) (h : k < ls.length) : rowS 0 (ls.take (k + 1)) = sumOf (rowS 0 (ls.take k)) ls[k] := by
  rw [List.take_succ_eq_append_getElem h, rowS_append]
  simp [rowS]
theorem sizes_succ (ls : List (List UInt8)) (k : Nat) (h : k < ls.length) : sizes (ls.take (k + 1)) = sizes (ls.take k) + (8 + (ls[k]).length) := by
  rw [List.take_succ_eq_append_getElem h, sizes_append]
  simp [sizes]
theorem sizes_take (ls : List (List UInt8)) (k : Nat) : sizes (ls.take k) ≤ sizes ls := by
  have : sizes ls = sizes (ls.take k) + sizes (ls.drop k) := by rw [← sizes_append, List.take_append_drop]
  omega

/-- What Row leaves. -/
def RowOut (w : World) (ls : List (List UInt8)) (e : Ending) (w' : World) : Prop :=
  Fr (fun _ => False) w w' ∧ (((∀ p ∈ ls, p.length ≤ 16384) ∧ ∃ v, e = .returned (.tuple #[v, tailV ls.length (sizes ls) (rowS 0 ls), .int .i64 0]) ∧ w'.ownsRow w.heap.size 5 1 v (rowB 0 ls).length (bv (rowB 0 ls))) ∨
    ((∃ p ∈ ls, 16384 < p.length) ∧ e = .returned (.tuple #[.slice none 0 0, tailV 0 0 0, .int .i64 6])))

set_option maxRecDepth 100000 in
set_option maxHeartbeats 4000000 in
theorem row_c (w : World) (A : Option Addr) (n c : Nat) (ls : List (List UInt8)) (hr : RdB w A n ls) (hN : Nb w) (hn : n ≤ 1000000000) (hl : sizes ls ≤ 1000000000000) :
    Calls Tryd.prog 17 #[.slice A n c] w (RowOut w ls) := by
  have HR := Lib.hid hr
  have HN := Lib.hid hN
  have HLL := Lib.hid hl
  clear hr hN hl
  have D0 : Hid (Blk ((w.alloc (.cells #[.int .i64 0, .int .i64 0, .int .u32 0] 30)).alloc (.cells #[.int .i64 0, .int .i64 0, .int .u32 0] 30)) w.heap.size 30 #[.int .i64 0, .int .i64 0, .int .u32 0]) := (Blk.new w _ _).alloc _
  have D1 : Hid (Blk ((w.alloc (.cells #[.int .i64 0, .int .i64 0, .int .u32 0] 30)).alloc (.cells #[.int .i64 0, .int .i64 0, .int .u32 0] 30)) (w.heap.size + 1) 30 #[.int .i64 0, .int .i64 0, .int .u32 0]) := by
    have := Blk.new (w.alloc (.cells #[.int .i64 0, .int .i64 0, .int .u32 0] 30)) 30 #[.int .i64 0, .int .i64 0, .int .u32 0]
    rwa [World.size_alloc] at this
  have F1 : Hid (Fr (fun _ => False) w ((w.alloc (.cells #[.int .i64 0, .int .i64 0, .int .u32 0] 30)).alloc (.cells #[.int .i64 0, .int .i64 0, .int .u32 0] 30))) := ((Fr.refl _ w).alloc _).alloc _
  obtain ⟨i0, hi, hz0, hz1, hz2⟩ := info_parts u8_info
  go_enter Tryd.func17, Tryd.ntmps17
  go_wp2_with fail
  generalize ((w.alloc (.cells #[.int .i64 0, .int .i64 0, .int .u32 0] 30)).alloc (.cells #[.int .i64 0, .int .i64 0, .int .u32 0] 30)) = w1 at *
  go_loopw [5, 14] (fun sv iv wr => ∃ (k : Nat) (aA : Option Addr) (ac L : Nat), k ≤ n ∧ iv = .int .i64 k ∧ sv = .slice aA L ac ∧ Hid (L = (rowB 0 (ls.take k)).length) ∧ Hid (wr.ownsRow w.heap.size 5 1 sv L (bv (rowB 0 (ls.take k)))) ∧ Hid (Fr (fun _ => False) w wr) ∧ Hid (∀ p ∈ ls.take k, p.length ≤ 16384) ∧
      Hid (Blk wr w.heap.size 30 #[.int .i64 0, .int .i64 0, .int .u32 0]) ∧ Hid (Blk wr (w.heap.size + 1) 30 #[.int .i64 (k : Int), .int .i64 (sizes (ls.take k) : Int), .int .u32 (rowS 0 (ls.take k) : Int)])) (fun _ iv _ => n - (intOf iv).toNat)
  case atStart => exact ⟨0, none, 0, 0, Nat.zero_le _, rfl, rfl, rfl, World.ownsRow_nil _ _ _ _, F1.out, fun _ h => by simp at h, D0.out, D1.out⟩
  case round =>
    obtain ⟨k, aA, ac, L, hk, rfl, rfl, hL, ho, hf, hsh, hd0, hd1⟩ := hrel
    have hsl := sizes_take ls k
    have hss := rowS_lt 0 (ls.take k) (by omega)
    have hLz : L = sizes (ls.take k) := by rw [hL.out, rowB_length]
    have HLZ := Lib.hid hLz
    have hs9 : sizes (ls.take k) ≤ 1000000000000 := Nat.le_trans hsl HLL.out
    clear hsl hLz
    by_cases hlt : k < n
    · obtain ⟨b, off, rfl, hc⟩ := (HR.out.far hf.out).2 (by omega)
      obtain ⟨B, m, c0, r0, hm, hm2⟩ := hc k (by rw [HR.out.1]; exact hlt)
      have hrb : Hid (rowB 0 (ls.take (k + 1)) = rowB 0 (ls.take k) ++ recB (rowS 0 (ls.take k)) (ls[k]'(by rw [HR.out.1]; exact hlt))) := rowB_succ ls k _
      have hrs : Hid (rowS 0 (ls.take (k + 1)) = sumOf (rowS 0 (ls.take k)) (ls[k]'(by rw [HR.out.1]; exact hlt))) := rowS_succ ls k _
      have hrz : Hid (sizes (ls.take (k + 1)) = sizes (ls.take k) + (8 + (ls[k]'(by rw [HR.out.1]; exact hlt)).length)) := sizes_succ ls k _
      have hmem : Hid (∀ p ∈ ls.take (k + 1), p ∈ ls.take k ∨ p = (ls[k]'(by rw [HR.out.1]; exact hlt))) := by
        intro p hp
        rw [List.take_succ_eq_append_getElem (by rw [HR.out.1]; exact hlt), List.mem_append, List.mem_singleton] at hp
        exact hp
      have hin : Hid ((ls[k]'(by rw [HR.out.1]; exact hlt)) ∈ ls) := List.getElem_mem _
      generalize (ls[k]'(by rw [HR.out.1]; exact hlt)) = p at *
      obtain ⟨M, hM⟩ : ∃ M, p.length = M := ⟨_, rfl⟩
      rw [hM] at c0 r0 hm hrz
      have HM := Lib.hid hM
      have R0 := Lib.hid r0
      have HM2 := Lib.hid hm2
      have NW := Lib.hid (HN.out.far hf.out)
      generalize hS : rowS 0 (ls.take k) = S at *
      generalize hZ : sizes (ls.take k) = Z at *
      have HS := Lib.hid hS
      have HZ := Lib.hid hZ
      have t0 := hd1.out.cell 0
      have t1 := hd1.out.cell 1
      have t2 := hd1.out.cell 2
      clear hc r0 hM hm2 hS hZ
      by_cases hlong : 16384 < M
      · go_wp2_with fail
        refine (put_long _ _ _ _ B M m hlong).mono ?_
        rintro e w2 ⟨rfl, f2⟩
        unfold tailV
        have E0 := hd0.out.fr f2 (fun h => h)
        have s0 := E0.cell 0
        have s1 := E0.cell 1
        have s2 := E0.cell 2
        have q0 := E0.frozen 0
        have q1 := E0.frozen 1
        have q2 := E0.frozen 2
        have F2 := Lib.hid (hf.out.trans f2 (fun _ _ h => h))
        have z0 := E0.lt
        have hE0 := Lib.hid E0
        clear f2 E0
        go_wp2_with fail
        have G9 : Blk ((((w2.setCell ⟨w.heap.size, 0, none⟩ (.int .i64 0)).setCell ⟨w.heap.size, 1, none⟩ (.int .i64 0)).setCell ⟨w.heap.size, 2, none⟩ (.int .u32 0)).alloc (.cells #[.int .i64 0, .int .i64 0, .int .u32 0] 30)) w.heap.size 30 #[.int .i64 0, .int .i64 0, .int .u32 0] := by
          have := (((hE0.out.set_ 0 (.int .i64 0)).set_ 1 (.int .i64 0)).set_ 2 (.int .u32 0)).alloc (.cells #[.int .i64 0, .int .i64 0, .int .u32 0] 30)
          simpa using this
        have F9 : Hid (Fr (fun _ => False) w ((((w2.setCell ⟨w.heap.size, 0, none⟩ (.int .i64 0)).setCell ⟨w.heap.size, 1, none⟩ (.int .i64 0)).setCell ⟨w.heap.size, 2, none⟩ (.int .u32 0)).alloc (.cells #[.int .i64 0, .int .i64 0, .int .u32 0] 30))) :=
          (((F2.out.setCell (fun h => absurd h (Nat.lt_irrefl _)) _).setCell (fun h => absurd h (Nat.lt_irrefl _)) _).setCell (fun h => absurd h (Nat.lt_irrefl _)) _).alloc _
        have r0 := G9.cell 0
        have r1 := G9.cell 1
        have r2 := G9.cell 2
        simp only [List.getElem?_toArray, List.getElem?_cons_zero, List.getElem?_cons_succ] at r0 r1 r2
        clear G9
        generalize ((((w2.setCell ⟨w.heap.size, 0, none⟩ (.int .i64 0)).setCell ⟨w.heap.size, 1, none⟩ (.int .i64 0)).setCell ⟨w.heap.size, 2, none⟩ (.int .u32 0)).alloc (.cells #[.int .i64 0, .int .i64 0, .int .u32 0] 30)) = w9 at *
        exact bodyPost_ret (v := .tuple #[.slice none 0 0, .agg #[.int .i64 0, .int .i64 0, .int .u32 0], .int .i64 6]) (by simp [results, Tryd.results17, go_sem, r0, r1, r2]) rfl ⟨F9.out, .inr ⟨⟨p, hin.out, by rw [HM.out]; exact hlong⟩, rfl⟩⟩
      · go_wp2_with fail
        refine (put_c _ k Z S hss (by omega) (by omega) (by omega) (by omega) B M m p R0.out hm HM2.out NW.out (by omega)).mono ?_
        rintro e w2 ⟨v2, rfl, o2, f2⟩
        unfold tailV
        obtain ⟨A2, c2, rfl, _, _⟩ := own_slice o2
        obtain ⟨x, hX⟩ : ∃ x, sumOf S p = x := ⟨_, rfl⟩
        rw [hX]
        have HX := Lib.hid hX
        have hE1 := hd1.out.fr f2 (fun h => h)
        have z0 := (hd0.out.fr f2 (fun h => h)).lt
        have z1 := hE1.lt
        have OA := Lib.hid (own_fr (own_fr ho.out f2 (fun _ _ h => h)) ((Fr.refl (fun _ => False) w2).alloc (.cells #[.int .i64 ((k : Int) + 1), .int .i64 ((Z : Int) + (8 + (M : Int))), .int .u32 (x : Int)] 30)) (fun _ _ h => h))
        have R2 := Lib.hid ((Rd.of_own (own_base o2 (base' := 0) (fun _ _ => Nat.zero_le _))).alloc (.cells #[.int .i64 ((k : Int) + 1), .int .i64 ((Z : Int) + (8 + (M : Int))), .int .u32 (x : Int)] 30))
        have F2 := Lib.hid ((hf.out.trans f2 (fun _ _ h => h)).alloc (.cells #[.int .i64 ((k : Int) + 1), .int .i64 ((Z : Int) + (8 + (M : Int))), .int .u32 (x : Int)] 30))
        have E0 := Lib.hid ((hd0.out.fr f2 (fun h => h)).alloc (.cells #[.int .i64 ((k : Int) + 1), .int .i64 ((Z : Int) + (8 + (M : Int))), .int .u32 (x : Int)] 30))
        have E1 := Lib.hid (hE1.alloc (.cells #[.int .i64 ((k : Int) + 1), .int .i64 ((Z : Int) + (8 + (M : Int))), .int .u32 (x : Int)] 30))
        have E2 := Lib.hid (Blk.new w2 30 #[.int .i64 ((k : Int) + 1), .int .i64 ((Z : Int) + (8 + (M : Int))), .int .u32 (x : Int)])
        clear f2 o2 t0 t1 t2 hE1 hX
        go_wp2_with (
          (at_builtin
           refine wpList_app rfl _ _ _ _ rfl w.heap.size 5 i0 _ 1 1 Tryd.underlying25 hi hz0 hz1 hz2 rfl _ L _ rfl OA.out _ (8 + M) _ rfl (Src.rd Tryd.underlying25 _ R2.out (bv_one _)) (by have := HLZ.out; omega) (by have := HLZ.out; unfold maxLen; omega) F2.out.size ?_
           intro v3 w3 hown3 hf3 hn3
           obtain ⟨A3, c3, rfl, _, _⟩ := own_slice hown3
           have H3 := Lib.hid hown3
           have F3 := Lib.hid (F2.out.trans hf3 (fun i hi hq => by have := (OA.out.lt i hq).1; omega))
           have J0 := Lib.hid (E0.out.fr hf3 (fun e => own_blk_ne OA.out E0.out (by decide) e))
           have J1 := E1.out.fr hf3 (fun e => own_blk_ne OA.out E1.out (by decide) e)
           have J2 := E2.out.fr hf3 (fun e => own_blk_ne OA.out E2.out (by decide) e)
           have u0 := J2.cell 0
           have u1 := J2.cell 1
           have u2 := J2.cell 2
           have x0 := J1.cell 0
           have x1 := J1.cell 1
           have x2 := J1.cell 2
           have q0 := J1.frozen 0
           have q1 := J1.frozen 1
           have q2 := J1.frozen 2
           have JJ1 := Lib.hid J1
           clear hown3 hf3 hn3 J1 J2))
        have fset : Fr (fun j => j = w.heap.size + 1) w3 (((w3.setCell ⟨w.heap.size + 1, 0, none⟩ (.int .i64 ((k : Int) + 1))).setCell ⟨w.heap.size + 1, 1, none⟩ (.int .i64 ((Z : Int) + (8 + (M : Int))))).setCell ⟨w.heap.size + 1, 2, none⟩ (.int .u32 (x : Int))) :=
          (((Fr.refl _ w3).set_ _ _).set_ _ _).set_ _ _
        refine ⟨⟨k + 1, A3, c3, L + (8 + M), hlt, by go_num, rfl, ?_, ?_, ?_, ?_, ?_, ?_⟩, by simp [intOf]; omega⟩
        · show _ = _
          rw [hrb.out, List.length_append, ← hL.out, recB_length, HM.out]
        · have h := own_fr H3.out fset (fun j hj e => own_blk_ne H3.out JJ1.out (by decide) (by rw [hj, e]))
          rw [hrb.out, bv_append]
          exact h
        · exact F3.out.trans fset (fun i hi e => by omega)
        · intro q hq
          rcases hmem.out q hq with h | rfl
          · exact hsh.out q h
          · rw [HM.out]; omega
        · exact J0.out.fr fset (by omega)
        · have h := ((JJ1.out.set_ 0 (.int .i64 ((k : Int) + 1))).set_ 1 (.int .i64 ((Z : Int) + (8 + (M : Int))))).set_ 2 (.int .u32 (x : Int))
          rw [hrz.out, hrs.out, HX.out]
          have e1 : ((k + 1 : Nat) : Int) = (k : Int) + 1 := by omega
          have e2 : ((Z + (8 + M) : Nat) : Int) = (Z : Int) + (8 + (M : Int)) := by omega
          rw [e1, e2]
          simp at h
          exact h
    · obtain rfl : k = n := by omega
      have hall : Hid (ls.take k = ls) := List.take_of_length_le (by rw [HR.out.1]; exact Nat.le_refl _)
      rw [hall.out] at hL ho hsh hd1 HLZ hs9 hss
      have hkl := HR.out.1
      have HKL := Lib.hid hkl
      generalize hS : rowS 0 ls = S at *
      generalize hZ : sizes ls = Z at *
      have HS := Lib.hid hS
      have HZ := Lib.hid hZ
      have t0 := hd1.out.cell 0
      have t1 := hd1.out.cell 1
      have t2 := hd1.out.cell 2
      have s0 := hd0.out.cell 0
      have s1 := hd0.out.cell 1
      have s2 := hd0.out.cell 2
      have q0 := hd0.out.frozen 0
      have q1 := hd0.out.frozen 1
      have q2 := hd0.out.frozen 2
      clear hS hZ hkl
      go_wp2_with fail
      go_region
      all_goals
        go_wp2_with fail
        have D9 : Blk (((wr.setCell ⟨w.heap.size, 0, none⟩ (.int .i64 (k : Int))).setCell ⟨w.heap.size, 1, none⟩ (.int .i64 (Z : Int))).setCell ⟨w.heap.size, 2, none⟩ (.int .u32 (S : Int))).drew w.heap.size 30 #[.int .i64 (k : Int), .int .i64 (Z : Int), .int .u32 (S : Int)] := by
          have := (((hd0.out.set_ 0 (.int .i64 (k : Int))).set_ 1 (.int .i64 (Z : Int))).set_ 2 (.int .u32 (S : Int))).drew
          simpa using this
        have r0 := D9.cell 0
        have r1 := D9.cell 1
        have r2 := D9.cell 2
        simp only [List.getElem?_toArray, List.getElem?_cons_zero, List.getElem?_cons_succ] at r0 r1 r2
        have fset := ((((Fr.refl (fun j => j = w.heap.size) wr).set_ 0 (.int .i64 (k : Int))).set_ 1 (.int .i64 (Z : Int))).set_ 2 (.int .u32 (S : Int))).drew
        have O9 := Lib.hid (own_fr ho.out fset (fun j hj e => own_blk_ne ho.out hd0.out (by decide) (by rw [hj, e])))
        have F9 := Lib.hid (hf.out.trans fset (fun i hi e => absurd hi (by omega)))
        clear D9 fset t0 t1 t2 s0 s1 s2 q0 q1 q2
        generalize (((wr.setCell ⟨w.heap.size, 0, none⟩ (.int .i64 (k : Int))).setCell ⟨w.heap.size, 1, none⟩ (.int .i64 (Z : Int))).setCell ⟨w.heap.size, 2, none⟩ (.int .u32 (S : Int))).drew = w9 at *
        refine bodyPost_ret (v := .tuple #[.slice aA L ac, .agg #[.int .i64 (k : Int), .int .i64 (Z : Int), .int .u32 (S : Int)], .int .i64 0]) (by simp [results, Tryd.results17, go_sem, r0, r1, r2]) rfl ⟨F9.out, .inl ⟨hsh.out, .slice aA L ac, by rw [HZ.out, HS.out, HKL.out]; rfl, ?_⟩⟩
        rw [← hL.out]
        exact O9.out
end Go.Proofs.YtmaajihpkollcaaDoor
