/-
  THE WALK of FrameTells.
-/
import Derived.Test.YtmaajihpkollcaaDoorFe
import Derived.Test.YtmaajihpkollcaaDoorRall
import Derived.Test.YtmaajihpkollcaaDoorSpoil
import Derived.Lib.ConvBytes
namespace Go.Proofs.YtmaajihpkollcaaDoor
set_option linter.unusedSimpArgs false
set_option linter.unusedVariables false
open Go Go.RowKit

theorem conv_rd (w : World) (l : List UInt8) : Rd (Lib.bytesWorld w 5 (strOf l)) (some ⟨w.heap.size, 0, none⟩) l.length (bv l) := by
  refine ⟨by rw [bv_length], fun _ => ⟨_, rfl, fun j u hu => ?_⟩⟩
  have hj : j < l.length := by
    rcases Nat.lt_or_ge j l.length with h | h
    · exact h
    · rw [List.getElem?_eq_none (by rw [bv_length]; exact h)] at hu; cases hu
  rw [Addr.add_lit, Nat.zero_add, Lib.bytesWorld_cell w 5 (strOf l) j (by simpa [strOf, ByteArray.size] using hj)]
  rw [bv_get _ _ hj] at hu
  rw [← hu]
  simp [strOf, List.getD_eq_getElem?_getD, List.getElem?_eq_getElem hj]
theorem conv_fr (w : World) (s : ByteArray) : Fr (fun _ => False) w (Lib.bytesWorld w 5 s) :=
  ⟨rfl, rfl, rfl, by rw [Lib.bytesWorld_size]; omega, fun k hk _ => Lib.bytesWorld_at_old w _ s k hk⟩
theorem conv_run (W : World) (l : List UInt8) : ∃ cap, l.length ≤ cap ∧ (l.length ≤ maxLen → cap ≤ maxLen) ∧ (convert 9 25 (.string (strOf l))).run Tryd.prog W = .ok (.slice (some ⟨W.heap.size, 0, none⟩) l.length cap) (Lib.bytesWorld W 5 (strOf l)) := by
  have h := Lib.run_convert_string_bytes (P := Tryd.prog) W 9 25 5 (strOf l) Tryd.underlying9 Tryd.underlying25 Tryd.underlying5
  have e : (strOf l).size = l.length := by simp [strOf, ByteArray.size]
  rw [e] at h
  exact ⟨_, grownCap_ge _ _ _ _, grownCap_le_maxLen _ _ _ _, h⟩

theorem sizes_take_le : ∀ (l : List (List UInt8)) (i : Nat) (h : i < l.length), l[i].length ≤ sizes l
  | p :: l, 0, _ => by simp only [List.getElem_cons_zero, sizes, List.map_cons, List.sum_cons]; omega
  | p :: l, i + 1, h => by
    have := sizes_take_le l i (by simpa using h)
    simp only [List.getElem_cons_succ, sizes, List.map_cons, List.sum_cons] at *
    omega

set_option maxRecDepth 100000 in
set_option maxHeartbeats 1000000 in
theorem frameTells_c (w : World) (A : Option Addr) (n c : Nat) (b : List UInt8) (hr : Rd w A n (bv b)) (hn : n ≤ c) (hc : c ≤ 140737488355328) (hN : Nb w) :
    Calls Tryd.prog 4 #[.slice A n c] w fun e w' => e = .returned (.bool true) ∧ Fr (fun _ => False) w w' := by
  have hbl : b.length = n := by rw [← bv_length]; exact hr.1
  have hawake : ∀ W, Fr (fun _ => False) w W → Calls Tryd.prog 10 #[] W fun e w' => e = .returned (.bool true) ∧ Fr (fun _ => False) w w' := fun W hW =>
    (awake_c W (hN.far hW)).mono fun e w' h => ⟨h.1, hW.trans h.2 (fun _ _ h => h)⟩
  have HA := Lib.hid hawake
  have HR := Lib.hid hr
  have HN := Lib.hid hN
  have HB := Lib.hid hbl
  clear hawake hr hN hbl
  go_enter Tryd.func4, Tryd.ntmps4
  by_cases hlong : 60000 < n
  · go_wp2_with fail
    refine (HA.out w (Fr.refl _ w)).mono ?_
    rintro e w2 ⟨rfl, f2⟩
    have F2 := Lib.hid f2
    clear f2
    go_wp2_with fail
    go_ret
    exact ⟨rfl, F2.out⟩
  · have y0 := conv_str w A n c b HR.out
    go_wp2_with fail
    refine (all_c w A n c b HR.out hn (by unfold maxLen; omega) HN.out (by omega)).mono ?_
    rintro e w1 ⟨v1, rfl, ob1, f1⟩
    obtain ⟨ls, hls⟩ : ∃ ls, (tells 0 b).1 = ls := ⟨_, rfl⟩
    have hszs := tells_sizes 0 b
    rw [hls, HB.out] at hszs
    rw [hls] at ob1 ⊢
    have HLS := Lib.hid hls
    obtain ⟨A1, c1, rfl, rb1, g11, g12⟩ := ob1.rdB
    obtain ⟨C, hC⟩ : ∃ C, ls.length = C := ⟨_, rfl⟩
    obtain ⟨Z, hZ⟩ : ∃ Z, sizes ls = Z := ⟨_, rfl⟩
    obtain ⟨S, hS⟩ : ∃ S, (rowS 0 ls : Int) = S := ⟨_, rfl⟩
    rw [hZ] at hszs
    unfold tailV
    rw [hC, hZ, hS]
    rw [hC] at rb1 g11
    have HC := Lib.hid hC
    have HZ := Lib.hid hZ
    have HS := Lib.hid hS
    have F1 := Lib.hid f1
    have OB1 := Lib.hid ob1
    have RB1 := Lib.hid rb1
    obtain ⟨cap, hcap, hcm, y1⟩ := conv_run (w1.alloc (.cells #[.int .i64 (C : Int), .int .i64 (Z : Int), .int .u32 S] 30)) b
    rw [HB.out] at hcap hcm y1
    have hcm := hcm (by unfold maxLen; omega)
    have Y1 := Lib.hid y1
    clear hC hZ hS f1 ob1 rb1 hls y0
    go_wp2_with fail
    have G2 : Hid (Fr (fun _ => False) w1 (Lib.bytesWorld (w1.alloc (.cells #[.int .i64 (C : Int), .int .i64 (Z : Int), .int .u32 S] 30)) 5 (strOf b))) := ((Fr.refl (fun _ => False) w1).alloc (.cells #[.int .i64 (C : Int), .int .i64 (Z : Int), .int .u32 S] 30)).trans (conv_fr _ _) (fun _ _ h => h)
    have T2 : Hid (Blk (Lib.bytesWorld (w1.alloc (.cells #[.int .i64 (C : Int), .int .i64 (Z : Int), .int .u32 S] 30)) 5 (strOf b)) w1.heap.size 30 #[.int .i64 (C : Int), .int .i64 (Z : Int), .int .u32 S]) := (Blk.new w1 30 #[.int .i64 (C : Int), .int .i64 (Z : Int), .int .u32 S]).fr (conv_fr _ _) (fun h => h)
    have R2 := conv_rd (w1.alloc (.cells #[.int .i64 (C : Int), .int .i64 (Z : Int), .int .u32 S] 30)) b
    rw [HB.out, World.size_alloc] at R2
    have R2 := Lib.hid R2
    clear y1
    generalize Lib.bytesWorld (w1.alloc (.cells #[.int .i64 (C : Int), .int .i64 (Z : Int), .int .u32 S] 30)) 5 (strOf b) = w2 at *
    have hrc := rall_c w2 _ n cap b R2.out hcap hcm (by omega)

    refine hrc.mono ?_
    rintro e w3 ⟨v3, rfl, ob3, f3⟩
    clear hrc
    rw [HLS.out] at ob3 ⊢
    obtain ⟨A3, c3, rfl, rb3, g31, g32⟩ := ob3.rdB
    unfold tailV
    rw [HC.out, HZ.out, HS.out]
    rw [HC.out] at rb3 g31
    have F3 := Lib.hid (G2.out.trans f3 (fun _ _ h => h))
    have T3 := Lib.hid ((T2.out.fr f3 (fun h => h)).alloc (.cells #[.int .i64 (C : Int), .int .i64 (Z : Int), .int .u32 S] 30))
    have U3 := Lib.hid (Blk.new w3 30 #[.int .i64 (C : Int), .int .i64 (Z : Int), .int .u32 S])
    have F3' := Lib.hid (F3.out.alloc (.cells #[.int .i64 (C : Int), .int .i64 (Z : Int), .int .u32 S] 30))
    have RB3 := Lib.hid (rb3.far ((Fr.refl (fun _ => False) w3).alloc (.cells #[.int .i64 (C : Int), .int .i64 (Z : Int), .int .u32 S] 30)))
    have RA3 := Lib.hid (RB1.out.far F3'.out)
    have OB3 := Lib.hid (OB1.out.fr F3'.out (fun _ _ h => h))
    have FW := Lib.hid (F1.out.trans F3'.out (fun _ _ h => h))
    unfold maxLen at g12 g32
    have hsame := same_c _ _ C c1 _ RA3.out (by omega) _ C c3 _ RB3.out (by omega)
    rw [decide_eq_true (rfl : ls = ls)] at hsame
    have HSM := Lib.hid hsame
    clear hsame ob3 f3 rb3
    go_wp2_with fail
    refine HSM.out.mono ?_
    rintro e w4 ⟨rfl, f4⟩
    have T4 := T3.out.fr f4 (fun h => h)
    have U4 := U3.out.fr f4 (fun h => h)
    have t0 := T4.cell 0
    have t1 := T4.cell 1
    have t2 := T4.cell 2
    have u0 := U4.cell 0
    have u1 := U4.cell 1
    have u2 := U4.cell 2
    have n0 : ((Z : Int) != (Z : Int)) = false := by simp
    have n1 : ((C : Int) != (C : Int)) = false := by simp
    have n2 : (S != S) = false := by simp
    have F4 := Lib.hid (FW.out.trans f4 (fun _ _ h => h))
    have OB4 := Lib.hid (OB3.out.fr f4 (fun _ _ h => h))
    clear f4 T4 U4
    go_wp2_with fail
    clear t0 t1 t2 u0 u1 u2 n0 n1 n2
    obtain ⟨us, o1, o2, o3⟩ := OB4.out
    rw [HC.out] at o1 o2
    have HO1 := Lib.hid o1
    have HO2 := Lib.hid o2
    have hlens : ∀ i (h : i < ls.length), ls[i].length ≤ 60000 := fun i h => by
      have h1 := sizes_take_le ls i h
      have h2 := HZ.out
      omega
    have HL := Lib.hid hlens
    have hus : ∀ i, i < C → ∃ u m l, us[i]? = some u ∧ m ≤ 60000 ∧ w4.ownsRow w.heap.size 5 1 u m (bv l) := fun i hi => by
      have h : i < ls.length := by rw [HC.out]; exact hi
      obtain ⟨u, h1, h2⟩ := o3 i h
      exact ⟨u, _, _, h1, HL.out i h, h2⟩
    have HU := Lib.hid hus
    clear o1 o2 o3 hlens hus
    go_loopw [8] (fun iv wr => ∃ (k : Nat), k ≤ C ∧ iv = .int .i64 k ∧ Hid (wr.ownsRow w.heap.size 25 1 (.slice A1 C c1) C us) ∧ Hid (Keeps w4 wr) ∧ Hid (Fr (fun _ => False) w wr)) (fun iv _ => C - (intOf iv).toNat)
    case atStart => exact ⟨0, Nat.zero_le _, rfl, HO1.out, Keeps.refl _, F4.out⟩
    case round =>
      obtain ⟨k, hk, rfl, ho, hkp, hf⟩ := hrel
      by_cases hlt : k < C
      · obtain ⟨u, m, l, h1, h2, h3⟩ := HU.out k hlt
        obtain ⟨l', h4⟩ := hkp.out _ _ _ _ h3
        obtain ⟨P, p, rfl, h5, h6⟩ := own_slice h4
        have rr := Rd.of_own (own_base ho.out (base' := 0) (fun _ _ => Nat.zero_le _))
        obtain ⟨bb, off, rfl, hcc⟩ := rr.lit (by omega)
        have c0 := hcc k hlt
        rw [h1] at c0
        have H4 := Lib.hid h4
        clear rr hcc h1 h3 h4
        go_wp2_with fail
        have hspc := spoil_c wr w.heap.size P m p l' H4.out (by omega)
        refine hspc.mono ?_
        clear hspc
        rintro e w5 ⟨rfl, f5, k5⟩
        have O5 := Lib.hid (own_fr ho.out f5 (fun q hq hq2 => own_own_ne ho.out H4.out (by decide) q hq hq2))
        have K5 := Lib.hid (hkp.out.trans k5)
        have F5 := Lib.hid (hf.out.trans f5 (fun i hi hq => by have := (H4.out.lt i hq).1; omega))
        clear f5 k5
        go_wp2_with fail
        exact ⟨⟨k + 1, hlt, by go_num, O5.out, K5.out, F5.out⟩, by simp [intOf]; omega⟩
      · obtain rfl : k = C := by omega
        have y5 := conv_str wr A n c b (HR.out.far hf.out)
        have heq : ((strOf b).toList == (strOf b).toList) = true := by rw [beq_str]; simp
        go_wp2_with fail
        refine (HA.out wr hf.out).mono ?_
        rintro e w6 ⟨rfl, f6⟩
        have F6 := Lib.hid f6
        clear f6
        go_wp2_with fail
        go_ret
        exact ⟨rfl, F6.out⟩
end Go.Proofs.YtmaajihpkollcaaDoor
