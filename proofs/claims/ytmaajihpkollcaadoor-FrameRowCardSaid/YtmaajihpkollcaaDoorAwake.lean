/-
  THE CHAPTER's EXAMPLES ('awake'): they come out, and nothing that was there has turned.
-/
import Derived.Test.YtmaajihpkollcaaDoorAll1
import Derived.Lib.SlBytesConst
import Derived.Deep.OwnRows
namespace Go.Proofs.YtmaajihpkollcaaDoor
set_option linter.unusedSimpArgs false
set_option linter.unusedVariables false
open Go Go.RowKit

/-- Rows of the call's own read as they are. -/
theorem OwnB.rdB {w : World} {base : Nat} {v : Value} {ls : List (List UInt8)} (h : OwnB w base v ls) : ∃ A c, v = .slice A ls.length c ∧ RdB w A ls.length ls ∧ ls.length ≤ c ∧ c ≤ maxLen := by
  obtain ⟨us, h1, h2, h3⟩ := h
  obtain ⟨A, c, rfl, g1, g2⟩ := own_slice h1
  have hr := Rd.of_own (own_base h1 (base' := 0) (fun _ _ => Nat.zero_le _))
  refine ⟨A, c, rfl, ⟨rfl, fun hn => ?_⟩, g1, g2⟩
  obtain ⟨b, off, rfl, hc⟩ := hr.lit hn
  refine ⟨b, off, rfl, fun i hi => ?_⟩
  obtain ⟨u, h4, h5⟩ := h3 i hi
  obtain ⟨B, c', rfl, g3, g4⟩ := own_slice h5
  exact ⟨B, c', by rw [hc i hi]; exact h4, Rd.of_own (own_base h5 (base' := 0) (fun _ _ => Nat.zero_le _)), g3, g4⟩
theorem conv_const (W : World) (N : Nat) (C : Array Value) (n c : Nat) (hN : W.heap.size = N) : (convert 25 25 (.slice (some ⟨N, 0, none⟩) n c)).run Tryd.prog (W.alloc (.cells C 5)) = .ok (.slice (some ⟨N, 0, none⟩) n c) (W.alloc (.cells C 5 (C.size, C.size + 1))) := by
  subst hN
  exact Lib.run_convert_bytes_const (P := Tryd.prog) W 25 5 C n c Tryd.underlying25 Tryd.underlying5
/-- A new row of bytes, whatever its mark. -/
theorem rd_new (w : World) (t : TypeId) (cs : Array Value) (fr : Nat × Nat) (n : Nat) (hn : n ≤ cs.size) : Rd (w.alloc (.cells cs t fr)) (some ⟨w.heap.size, 0, none⟩) n (cs.toList.take n) := by
  refine ⟨by simp; omega, fun _ => ⟨_, rfl, fun j u hu => ?_⟩⟩
  rw [Addr.add_lit, Nat.zero_add, cell_of_row _ _ _ _ _ _ (heap_alloc_new w _)]
  rw [List.getElem?_take] at hu
  split at hu
  · simpa using hu
  · cases hu
theorem RdB.nil (w : World) (A : Option Addr) : RdB w A 0 [] := ⟨rfl, fun h => absurd h (by omega)⟩

theorem rdB2 (W : World) (t : TypeId) (A B : Option Addr) (c d : Nat) (l m : List UInt8) (ha : Rd W A l.length (bv l)) (hb : Rd W B m.length (bv m)) (h1 : l.length ≤ c) (h2 : m.length ≤ d) (g1 : c ≤ maxLen) (g2 : d ≤ maxLen) :
    RdB (W.alloc (.cells #[.slice A l.length c, .slice B m.length d] t)) (some ⟨W.heap.size, 0, none⟩) 2 [l, m] := by
  have hn := Blk.new W t #[.slice A l.length c, .slice B m.length d]
  refine ⟨rfl, fun _ => ⟨_, 0, rfl, fun i hi => ?_⟩⟩
  have : i = 0 ∨ i = 1 := by simp at hi; omega
  rcases this with rfl | rfl
  · exact ⟨A, c, hn.cell 0, ha.alloc _, h1, g1⟩
  · exact ⟨B, d, hn.cell 1, hb.alloc _, h2, g2⟩
theorem rdB1 (W : World) (t : TypeId) (A : Option Addr) (c : Nat) (l : List UInt8) (ha : Rd W A l.length (bv l)) (h1 : l.length ≤ c) (g1 : c ≤ maxLen) :
    RdB (W.alloc (.cells #[.slice A l.length c] t)) (some ⟨W.heap.size, 0, none⟩) 1 [l] := by
  have hn := Blk.new W t #[.slice A l.length c]
  refine ⟨rfl, fun _ => ⟨_, 0, rfl, fun i hi => ?_⟩⟩
  have : i = 0 := by simp at hi; omega
  subst this
  exact ⟨A, c, hn.cell 0, ha.alloc _, h1, g1⟩
theorem row_ok (w : World) (A : Option Addr) (n c : Nat) (ls : List (List UInt8)) (hr : RdB w A n ls) (hN : Nb w) (hn : n ≤ 1000000000) (hl : sizes ls ≤ 1000000000000) (h16 : ∀ p ∈ ls, p.length ≤ 16384) :
    Calls Tryd.prog 17 #[.slice A n c] w fun e w' => ∃ v, e = .returned (.tuple #[v, tailV ls.length (sizes ls) (rowS 0 ls), .int .i64 0]) ∧ w'.ownsRow w.heap.size 5 1 v (rowB 0 ls).length (bv (rowB 0 ls)) ∧ Fr (fun _ => False) w w' := by
  refine (row_c w A n c ls hr hN hn hl).mono ?_
  rintro e w1 ⟨f1, h1⟩
  rcases h1 with ⟨-, v1, rfl, o1⟩ | ⟨⟨p, hp, hl⟩, -⟩
  · exact ⟨v1, rfl, o1, f1⟩
  · have := h16 p hp
    omega

theorem ck0 : check [].flatten = 0 := by decide
theorem ck1 : check [[49, 50, 51, 52], [53, 54, 55, 56, 57]].flatten = 3808858755 := by decide +kernel
theorem ck2 : check [List.replicate 32 0].flatten = 2324772522 := by decide +kernel
theorem aw_s : sumOf 0 [97] ≠ 0 := by decide +kernel
theorem aw_row : (rowB 0 [[97], [], [98, 99]]).length = 27 := by rw [rowB_length]; rfl
theorem aw_tells : tells 0 (rowB 0 [[97], [], [98, 99]]) = ([[97], [], [98, 99]], rowS 0 [[97], [], [98, 99]]) := by
  have := tells_row [[97], [], [98, 99]] 0 [] (by decide)
  rw [List.append_nil] at this
  rw [this, tells_none (by unfold one; rfl), List.append_nil]
theorem aw_cut : tells 0 ((rowB 0 [[97], [], [98, 99]]).drop 9) = ([], 0) := by
  have h : (rowB 0 [[97], [], [98, 99]]).drop 9 = recB (sumOf 0 [97]) [] ++ rowB (sumOf (sumOf 0 [97]) []) [[98, 99]] := by
    rw [rowB, rowB, ← show (recB 0 [97]).length = 9 from recB_length 0 [97], List.drop_append_of_le_length (Nat.le_refl _), List.drop_of_length_le (Nat.le_refl _), List.nil_append]
  rw [h]
  exact tells_none (one_other 0 _ [] _ (by decide) (by omega) (sumOf_lt _ _) aw_s.symm)

set_option maxRecDepth 100000 in
set_option maxHeartbeats 4000000 in
theorem awake_c (w : World) (hN : Nb w) : Calls Tryd.prog 10 #[] w fun e w' => e = .returned (.bool true) ∧ Fr (fun _ => False) w w' := by
  have HN := Lib.hid hN
  have kc := conv_const
  have R0 : Hid (RdB (((w.alloc (.cells #[.int .u8 97] 5 (1, 2))).alloc (.cells #[.int .u8 98, .int .u8 99] 5 (2, 3))).alloc (.cells #[.slice (some ⟨w.heap.size, 0, none⟩) 1 1, .slice none 0 0, .slice (some ⟨w.heap.size + 1, 0, none⟩) 2 2] 25)) (some ⟨w.heap.size + 2, 0, none⟩) 3 [[97], [], [98, 99]]) := by
    have a1 : Rd ((w.alloc (.cells #[.int .u8 97] 5 (1, 2))).alloc (.cells #[.int .u8 98, .int .u8 99] 5 (2, 3))) (some ⟨w.heap.size, 0, none⟩) 1 (bv [97]) := by
      have := (rd_new w 5 #[.int .u8 97] (1, 2) 1 (by simp)).alloc (.cells #[.int .u8 98, .int .u8 99] 5 (2, 3))
      simpa [bv] using this
    have a2 : Rd ((w.alloc (.cells #[.int .u8 97] 5 (1, 2))).alloc (.cells #[.int .u8 98, .int .u8 99] 5 (2, 3))) (some ⟨w.heap.size + 1, 0, none⟩) 2 (bv [98, 99]) := by
      have := rd_new (w.alloc (.cells #[.int .u8 97] 5 (1, 2))) 5 #[.int .u8 98, .int .u8 99] (2, 3) 2 (by simp)
      rw [World.size_alloc] at this
      simpa [bv] using this
    have r := rdB3 _ 25 _ none _ 1 0 2 [97] [] [98, 99] a1 (Rd.none_ _ _) a2 (by decide) (by decide) (by decide) (by unfold maxLen; omega) (by unfold maxLen; omega) (by unfold maxLen; omega)
    rw [World.size_alloc, World.size_alloc] at r
    exact r
  have F0 : Hid (Fr (fun _ => False) w (((w.alloc (.cells #[.int .u8 97] 5 (1, 2))).alloc (.cells #[.int .u8 98, .int .u8 99] 5 (2, 3))).alloc (.cells #[.slice (some ⟨w.heap.size, 0, none⟩) 1 1, .slice none 0 0, .slice (some ⟨w.heap.size + 1, 0, none⟩) 2 2] 25))) := (((Fr.refl _ w).alloc _).alloc _).alloc _
  clear hN
  have hmk : ∀ W : World, (Instr.makeSlice 25 (.int .i64 32) (.int .i64 32)).run Tryd.prog W = .ok (.slice (some ⟨W.heap.size, 0, none⟩) 32 32) (W.alloc (.cells (madeCells #[.int .u8 0] 32) 5)) := run_make_row' (P := Tryd.prog) 25 5 _ 1 Tryd.underlying25 u8_info rfl .i64 .i64 32 (by omega) (by omega)
  go_enter Tryd.func10, Tryd.ntmps10
  go_wp2_with fail
  simp only [Nat.add_assoc, Nat.reduceAdd]
  have hsz : sizes [[97], [], [98, 99]] ≤ 1000000000000 := by decide
  refine (row_ok _ _ 3 3 _ R0.out (HN.out.far F0.out) (by omega) hsz (by decide)).mono ?_
  rintro e w1 ⟨v1, rfl, o1, f1⟩
  unfold tailV
  rw [aw_row] at o1
  have e27 : (sizes [[97], [], [98, 99]] : Int) = 27 := by decide
  have e3 : (([[97], [], [98, 99]] : List (List UInt8)).length : Int) = 3 := rfl
  rw [e27, e3]
  obtain ⟨S, hS⟩ : ∃ S, (rowS 0 [[97], [], [98, 99]] : Int) = S := ⟨_, rfl⟩
  rw [hS]
  have HS := Lib.hid hS
  obtain ⟨A1, c1, rfl, g1, g2⟩ := own_slice o1
  have F1 := Lib.hid (F0.out.trans f1 (fun _ _ h => h))
  have O1 := Lib.hid o1
  have r1 := Rd.of_own (own_base o1 (base' := 0) (fun _ _ => Nat.zero_le _))
  obtain ⟨q1, off1, rfl, -⟩ := r1.lit (by omega)
  have R1 := Lib.hid r1
  clear r1
  have hsz0 := F0.out.size
  have hsz1 := f1.size
  clear f1 o1 hsz
  have E27 := Lib.hid e27
  have E3 := Lib.hid e3
  clear e27 e3 hS
  generalize (((w.alloc (.cells #[.int .u8 97] 5 (1, 2))).alloc (.cells #[.int .u8 98, .int .u8 99] 5 (2, 3))).alloc (.cells #[.slice (some ⟨w.heap.size, 0, none⟩) 1 1, .slice none 0 0, .slice (some ⟨w.heap.size + 1, 0, none⟩) 2 2] 25)) = w0 at *
  have T2 := Lib.hid (Blk.new w1 30 #[.int .i64 3, .int .i64 27, .int .u32 S])
  have F2 := Lib.hid (F1.out.alloc (.cells #[.int .i64 3, .int .i64 27, .int .u32 S] 30))
  have R2 := Lib.hid (R1.out.alloc (.cells #[.int .i64 3, .int .i64 27, .int .u32 S] 30))
  go_wp2_with fail
  refine (all_c _ _ 27 c1 (rowB 0 [[97], [], [98, 99]]) R2.out g1 g2 (HN.out.far F2.out) (by omega)).mono ?_
  rintro e w3 ⟨v3, rfl, ob, f3⟩
  rw [aw_tells] at ob ⊢
  simp only
  unfold tailV
  rw [E27.out, E3.out, HS.out]
  obtain ⟨A3, c3, rfl, rb, h1, h2⟩ := ob.rdB
  have RB := Lib.hid rb
  have OB := Lib.hid ob
  have F3 := Lib.hid (F2.out.trans f3 (fun _ _ h => h))
  have T3 := Lib.hid (T2.out.fr f3 (fun h => h))
  have R3 := Lib.hid (R2.out.far f3)
  have z3 := f3.size
  simp only [World.size_alloc] at z3
  simp only [List.length_cons, List.length_nil, Nat.zero_add, Nat.reduceAdd] at h1
  simp only [List.length_cons, List.length_nil, Nat.zero_add, Nat.reduceAdd]
  clear f3 ob rb
  have t0 := T3.out.cell 0
  have t1 := T3.out.cell 1
  have t2 := T3.out.cell 2
  have zlt : w1.heap.size < w3.heap.size := by omega
  have hne : (S != S) = false := by simp
  go_wp2_with fail
  have cut := (R3.out.alloc (.cells #[.int .i64 3, .int .i64 27, .int .u32 S] 30)).cut (k := 9) (cap := c1) (by omega) g1
  rw [if_neg (by omega), ← bv_drop] at cut
  have R4 : Hid (Rd (w3.alloc (.cells #[.int .i64 3, .int .i64 27, .int .u32 S] 30)) (some ⟨q1, off1 + 9, none⟩) 18 (bv ((rowB 0 [[97], [], [98, 99]]).drop 9))) := by
    have e : (Option.map (fun x : Addr => x.add 9) (some ⟨q1, off1, none⟩)) = some ⟨q1, off1 + 9, none⟩ := by simp [Addr.add_lit]
    rw [e] at cut
    exact cut
  have F4 := Lib.hid (F3.out.alloc (.cells #[.int .i64 3, .int .i64 27, .int .u32 S] 30))
  clear cut t0 t1 t2
  refine (all_c _ _ 18 (c1 - 9) _ R4.out (by omega) (by omega) (HN.out.far F4.out) (by omega)).mono ?_
  rintro e w6 ⟨v6, rfl, ob6, f6⟩
  rw [aw_cut] at ob6 ⊢
  have e0 : (sizes [] : Int) = 0 := rfl
  have e1 : (([] : List (List UInt8)).length : Int) = 0 := rfl
  have e2 : (rowS 0 [] : Int) = 0 := rfl
  simp only
  rw [e0, e1, e2]
  unfold tailV
  obtain ⟨A6, c6, rfl, _, h61, h62⟩ := ob6.rdB
  have F6 := Lib.hid (F4.out.trans f6 (fun _ _ h => h))
  have T6 := Lib.hid ((T3.out.alloc (.cells #[.int .i64 3, .int .i64 27, .int .u32 S] 30)).fr f6 (fun h => h))
  have RB6 := Lib.hid ((RB.out.far ((Fr.refl (fun _ => False) w3).alloc (.cells #[.int .i64 3, .int .i64 27, .int .u32 S] 30))).far f6)
  have z6 := f6.size
  simp only [World.size_alloc] at z6
  have zlt6 : w1.heap.size < w6.heap.size := by omega
  clear e0 e1 e2 ob6 f6
  simp only [List.length_nil]
  go_wp2_with fail
  refine (check_c _ none 0 0 [] (RdB.nil _ _) (HN.out.far (F6.out.alloc _)) (by omega)).mono ?_
  rintro e w7 ⟨rfl, rfl⟩
  rw [ck0]
  go_wp2_with fail
  have H8 : Hid (RdB ((((w6.alloc (.cells #[.int .i64 0, .int .i64 0, .int .u32 0] 30)).alloc (.cells #[.int .u8 49, .int .u8 50, .int .u8 51, .int .u8 52] 5 (4, 5))).alloc (.cells #[.int .u8 53, .int .u8 54, .int .u8 55, .int .u8 56, .int .u8 57] 5 (5, 6))).alloc (.cells #[.slice (some ⟨w6.heap.size + 1, 0, none⟩) 4 4, .slice (some ⟨w6.heap.size + 1 + 1, 0, none⟩) 5 5] 25)) (some ⟨w6.heap.size + 1 + 1 + 1, 0, none⟩) 2 [[49, 50, 51, 52], [53, 54, 55, 56, 57]]) := by
    have a1 := (rd_new (w6.alloc (.cells #[.int .i64 0, .int .i64 0, .int .u32 0] 30)) 5 #[.int .u8 49, .int .u8 50, .int .u8 51, .int .u8 52] (4, 5) 4 (by simp)).alloc (.cells #[.int .u8 53, .int .u8 54, .int .u8 55, .int .u8 56, .int .u8 57] 5 (5, 6))
    have a2 := rd_new ((w6.alloc (.cells #[.int .i64 0, .int .i64 0, .int .u32 0] 30)).alloc (.cells #[.int .u8 49, .int .u8 50, .int .u8 51, .int .u8 52] 5 (4, 5))) 5 #[.int .u8 53, .int .u8 54, .int .u8 55, .int .u8 56, .int .u8 57] (5, 6) 5 (by simp)
    simp only [World.size_alloc] at a1 a2
    have r := rdB2 _ 25 _ _ 4 5 [49, 50, 51, 52] [53, 54, 55, 56, 57] a1 a2 (by decide) (by decide) (by unfold maxLen; omega) (by unfold maxLen; omega)
    simp only [World.size_alloc] at r
    exact r
  have F8 : Hid (Fr (fun _ => False) w6 ((((w6.alloc (.cells #[.int .i64 0, .int .i64 0, .int .u32 0] 30)).alloc (.cells #[.int .u8 49, .int .u8 50, .int .u8 51, .int .u8 52] 5 (4, 5))).alloc (.cells #[.int .u8 53, .int .u8 54, .int .u8 55, .int .u8 56, .int .u8 57] 5 (5, 6))).alloc (.cells #[.slice (some ⟨w6.heap.size + 1, 0, none⟩) 4 4, .slice (some ⟨w6.heap.size + 1 + 1, 0, none⟩) 5 5] 25))) := ((((Fr.refl _ w6).alloc _).alloc _).alloc _).alloc _
  have Z8 : Hid (Blk ((((w6.alloc (.cells #[.int .i64 0, .int .i64 0, .int .u32 0] 30)).alloc (.cells #[.int .u8 49, .int .u8 50, .int .u8 51, .int .u8 52] 5 (4, 5))).alloc (.cells #[.int .u8 53, .int .u8 54, .int .u8 55, .int .u8 56, .int .u8 57] 5 (5, 6))).alloc (.cells #[.slice (some ⟨w6.heap.size + 1, 0, none⟩) 4 4, .slice (some ⟨w6.heap.size + 1 + 1, 0, none⟩) 5 5] 25)) w6.heap.size 30 #[.int .i64 0, .int .i64 0, .int .u32 0]) := (((Blk.new w6 _ _).alloc _).alloc _).alloc _
  generalize ((((w6.alloc (.cells #[.int .i64 0, .int .i64 0, .int .u32 0] 30)).alloc (.cells #[.int .u8 49, .int .u8 50, .int .u8 51, .int .u8 52] 5 (4, 5))).alloc (.cells #[.int .u8 53, .int .u8 54, .int .u8 55, .int .u8 56, .int .u8 57] 5 (5, 6))).alloc (.cells #[.slice (some ⟨w6.heap.size + 1, 0, none⟩) 4 4, .slice (some ⟨w6.heap.size + 1 + 1, 0, none⟩) 5 5] 25)) = w8 at *
  refine (check_c w8 _ 2 2 _ H8.out (HN.out.far (F6.out.trans F8.out (fun _ _ h => h))) (by omega)).mono ?_
  rintro e w9 ⟨rfl, rfl⟩
  rw [ck1]
  go_wp2_with fail
  have H10 : Hid (RdB ((w8.alloc (.cells (madeCells #[.int .u8 0] 32) 5)).alloc (.cells #[.slice (some ⟨w8.heap.size, 0, none⟩) 32 32] 25)) (some ⟨w8.heap.size + 1, 0, none⟩) 1 [List.replicate 32 0]) := by
    have a := rd_new w8 5 (madeCells #[.int .u8 0] 32) (0, 0) 32 (by rw [size_madeCells]; omega)
    have e : (madeCells #[.int .u8 0] 32).toList.take 32 = bv (List.replicate 32 0) := by kernel_rfl
    rw [e] at a
    have r := rdB1 _ 25 _ 32 (List.replicate 32 0) a (by decide) (by unfold maxLen; omega)
    simp only [World.size_alloc] at r
    exact r
  have F10 := Lib.hid (F8.out.trans (((Fr.refl (fun _ => False) w8).alloc (.cells (madeCells #[.int .u8 0] 32) 5)).alloc (.cells #[.slice (some ⟨w8.heap.size, 0, none⟩) 32 32] 25)) (fun _ _ h => h))
  have Z10 := Lib.hid ((Z8.out.alloc (.cells (madeCells #[.int .u8 0] 32) 5)).alloc (.cells #[.slice (some ⟨w8.heap.size, 0, none⟩) 32 32] 25))
  have z8 := F8.out.size
  clear hmk
  generalize (w8.alloc (.cells (madeCells #[.int .u8 0] 32) 5)).alloc (.cells #[.slice (some ⟨w8.heap.size, 0, none⟩) 32 32] 25) = w10 at *
  refine (check_c w10 _ 1 1 _ H10.out (HN.out.far (F6.out.trans F10.out (fun _ _ h => h))) (by omega)).mono ?_
  rintro e w11 ⟨rfl, rfl⟩
  rw [ck2]
  have T10 := T6.out.fr F10.out (fun h => h)
  have t0 := T10.cell 0
  have t1 := T10.cell 1
  have u0 := Z10.out.cell 0
  have u1 := Z10.out.cell 1
  have u2 := Z10.out.cell 2
  have RB10 := Lib.hid (RB6.out.far F10.out)
  have z10 := F10.out.size
  obtain ⟨b3, off3, rfl, hc3⟩ := RB10.out.2 (by simp)
  obtain ⟨B2, c2, x2, r2, -, -⟩ := hc3 2 (by simp)
  have y2 := conv_str w10 B2 2 c2 [98, 99] r2
  simp only [List.getElem_cons_succ, List.getElem_cons_zero, List.length_cons, List.length_nil, Nat.zero_add, Nat.reduceAdd] at x2
  have hs : (strOf [98, 99]).toList = [98, 99] := strOf_toList _
  clear hc3 r2 T10
  go_wp2_with fail
  refine (size_c _ _ 2 2 (by omega)).mono ?_
  rintro e w12 ⟨rfl, rfl⟩
  go_wp2_with fail
  go_ret
  exact ⟨rfl, (F6.out.trans F10.out (fun _ _ h => h)).alloc _⟩
end Go.Proofs.YtmaajihpkollcaaDoor
