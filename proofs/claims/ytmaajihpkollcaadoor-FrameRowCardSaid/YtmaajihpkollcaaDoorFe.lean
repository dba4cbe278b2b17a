/-
  THE WALK of FrameEnds.
-/
import Derived.Test.YtmaajihpkollcaaDoorFc
import Derived.Test.YtmaajihpkollcaaDoorSame
namespace Go.Proofs.YtmaajihpkollcaaDoor
set_option linter.unusedSimpArgs false
set_option linter.unusedVariables false
open Go Go.RowKit

theorem sizes_bulk : ∀ l : List (List UInt8), sizes l ≤ 8 * bulk l
  | [] => Nat.le_refl _
  | p :: l => by
    have := sizes_bulk l
    simp only [sizes, bulk, List.map_cons, List.sum_cons] at *
    omega
/-- The first rows of rows. -/
theorem RdB.take {w : World} {A : Option Addr} {n : Nat} {ls : List (List UInt8)} (h : RdB w A n ls) {k : Nat} (hk : k ≤ n) : RdB w A k (ls.take k) := by
  refine ⟨by rw [List.length_take, h.1]; omega, fun hpos => ?_⟩
  obtain ⟨b, off, rfl, hc⟩ := h.2 (by omega)
  refine ⟨b, off, rfl, fun i hi => ?_⟩
  rw [List.length_take] at hi
  obtain ⟨B, c, h1, h2, h3, h4⟩ := hc i (by omega)
  have e : (ls.take k)[i]'(by rw [List.length_take]; omega) = ls[i]'(by omega) := by simp
  rw [e]
  exact ⟨B, c, h1, h2, h3, h4⟩

theorem tells_sizes (s : Nat) (b : List UInt8) : sizes (tells s b).1 ≤ b.length := by
  obtain ⟨m, h, -⟩ := tells_is b.length s b (by omega)
  have := congrArg List.length h
  rw [List.length_append, rowB_length] at this
  unfold tells
  omega

set_option maxRecDepth 100000 in
set_option maxHeartbeats 8000000 in
theorem frameEnds_c (w : World) (A : Option Addr) (n c : Nat) (ls : List (List UInt8)) (hr : RdB w A n ls) (hn : n ≤ c) (hc : c ≤ 140737488355328) (hp : ∀ p ∈ ls, p.length ≤ 140737488355328)
    (cut : Int) (hc0 : -9223372036854775808 ≤ cut) (hc1 : cut ≤ 9223372036854775807)
    (B : Option Addr) (nm cm : Nat) (ms : List UInt8) (hm : Rd w B nm (bv ms)) (hnm : nm ≤ cm) (hcm : cm ≤ 140737488355328) (hN : Nb w) :
    Calls Tryd.prog 6 #[.slice A n c, .int .i64 cut, .slice B nm cm] w fun e w' => e = .returned (.bool true) ∧ Fr (fun _ => False) w w' := by
  obtain ⟨i0, hi, hz0, hz1, hz2⟩ := info_parts u8_info
  have HR := Lib.hid hr
  have HN := Lib.hid hN
  have HP := Lib.hid hp
  have HM := Lib.hid hm
  have hI := Lib.hid hi
  clear hr hN hp hi hm
  go_enter Tryd.func6, Tryd.ntmps6
  go_wp2_with fail
  refine (long_c w A n c ls HR.out (by omega) HP.out).mono ?_
  have hawake : ∀ W, Fr (fun _ => False) w W → Calls Tryd.prog 10 #[] W fun e w' => e = .returned (.bool true) ∧ Fr (fun _ => False) w w' := fun W hW =>
    (awake_c W (HN.out.far hW)).mono fun e w' h => ⟨h.1, hW.trans h.2 (fun _ _ h => h)⟩
  have HA := Lib.hid hawake
  clear hawake
  rintro e w1 ⟨rfl, rfl | ⟨rfl, hb⟩⟩
  · go_wp2_with fail
    refine (HA.out w (Fr.refl _ w)).mono ?_
    rintro e w2 ⟨rfl, f2⟩
    have F2 := Lib.hid f2
    clear f2
    go_wp2_with fail
    go_ret
    exact ⟨rfl, F2.out⟩
  · have HB := Lib.hid hb
    clear hb
    by_cases hlong : 60000 < nm
    · go_wp2_with fail
      refine (HA.out w (Fr.refl _ w)).mono ?_
      rintro e w2 ⟨rfl, f2⟩
      have F2 := Lib.hid f2
      clear f2
      go_wp2_with fail
      go_ret
      exact ⟨rfl, F2.out⟩
    · go_wp2_with fail
      have hsz := sizes_bulk ls
      have hln := bulk_len ls
      rw [HR.out.1] at hln
      refine (row_c w A n c ls HR.out HN.out (by have := HB.out; omega) (by have := HB.out; omega)).mono ?_
      rintro e w2 ⟨f2, ⟨h16, v2, rfl, o2⟩ | ⟨-, rfl⟩⟩
      · obtain ⟨A2, c2, rfl, hc2, hc2m⟩ := own_slice o2
        unfold tailV
        have hlb : (rowB 0 ls).length = sizes ls := rowB_length 0 ls
        rw [hlb] at o2 hc2
        obtain ⟨S, hS⟩ : ∃ S, (rowS 0 ls : Int) = S := ⟨_, rfl⟩
        have hll : ls.length = n := HR.out.1
        rw [hS, hlb, hll]
        obtain ⟨Z, hZ⟩ : ∃ Z, sizes ls = Z := ⟨_, rfl⟩
        rw [hZ] at o2 hc2 hsz ⊢
        have hZ2 : Z ≤ 480000 := by have := HB.out; omega
        have R2 := Lib.hid ((Rd.of_own (own_base o2 (base' := 0) (fun _ _ => Nat.zero_le _))).alloc (.cells #[.int .i64 (n : Int), .int .i64 (Z : Int), .int .u32 S] 30))
        have F2 := Lib.hid (f2.alloc (.cells #[.int .i64 (n : Int), .int .i64 (Z : Int), .int .u32 S] 30))
        have H16 := Lib.hid h16
        have HZ := Lib.hid hZ
        obtain ⟨X, hX⟩ : ∃ X : Int, (if cut < 0 then (0 : Int) else cut) = X := ⟨_, rfl⟩
        have hX0 : 0 ≤ X := by rw [← hX]; split <;> omega
        obtain ⟨K, hK⟩ : ∃ K : Nat, (K : Int) = if X ≤ (Z : Int) then X else (Z : Int) := ⟨(if X ≤ (Z : Int) then X else (Z : Int)).toNat, by split <;> omega⟩
        have hKZ : K ≤ Z := by revert hK; split <;> omega
        have hk1 : (if X ≤ (Z : Int) then X else (Z : Int)) = (K : Int) := hK.symm
        have hk2 : (if (Z : Int) < X then (Z : Int) else X) = (K : Int) := by rw [hK]; split <;> split <;> omega
        clear hK hX0
        have hc2l := Lib.hid (And.intro hc2 hc2m)
        clear f2 o2 hlb hS hZ h16 hsz hc2 hc2m hln hll
        go_wp2_with fail
        have HF := Lib.hid (HR.out.far F2.out)
        have hKc : K ≤ c2 := by have := hc2l.out.1; omega
        clear hX hk1 hk2
        generalize w2.alloc (.cells #[.int .i64 (n : Int), .int .i64 (Z : Int), .int .u32 S] 30) = w3 at *
        go_loop [11, 12] (fun jv sv => ∃ (j s : Nat), j ≤ n ∧ jv = .int .i64 j ∧ sv = .int .i64 s ∧ s ≤ K ∧ Hid (s = sizes (ls.take j))) (fun jv _ => n - (intOf jv).toNat)
        case atStart => exact ⟨0, 0, Nat.zero_le _, rfl, rfl, Nat.zero_le _, rfl⟩
        case round =>
          obtain ⟨j, s, hj, rfl, rfl, hsK, hs⟩ := hrel
          have hmem : ∀ h : j < n, ∃ (b off : Nat), A = some ⟨b, off, none⟩ ∧ ∃ P p M, w3.cell? ⟨b, off + j, none⟩ = some (.slice P M p) ∧ M ≤ 16384 ∧ sizes (ls.take (j + 1)) = s + (8 + M) := by
            intro h
            obtain ⟨b, off, rfl, hc⟩ := HF.out.2 (by omega)
            obtain ⟨P, p, c0, -, -, -⟩ := hc j (by rw [HF.out.1]; exact h)
            exact ⟨b, off, rfl, P, p, _, c0, H16.out _ (List.getElem_mem _), by rw [hs.out]; exact sizes_succ ls j _⟩
          by_cases hgo : j < n ∧ sizes (ls.take (j + 1)) ≤ K
          · obtain ⟨hlt, hle⟩ := hgo
            obtain ⟨b, off, rfl, P, p, M, c0, hM, hsz⟩ := hmem hlt
            rw [hsz] at hle
            have HSZ := Lib.hid hsz
            clear hsz hmem
            go_wp2_with fail
            refine (size_c _ P M p (by omega)).mono ?_
            rintro e w4 ⟨rfl, rfl⟩
            go_wp2_with fail
            refine (size_c _ P M p (by omega)).mono ?_
            rintro e w4 ⟨rfl, rfl⟩
            go_wp2_with fail
            exact ⟨⟨j + 1, s + (8 + M), hlt, by go_num, by go_num, hle, HSZ.out.symm⟩, by simp [intOf]; omega⟩
          · have hstop : Hid (j < ls.length → K < sizes (ls.take (j + 1))) := fun h => by
              have := HF.out.1
              omega
            rcases Nat.lt_or_ge j n with hlt | hge
            all_goals
              first
                | (obtain ⟨b, off, rfl, P, p, M, c0, hM, hsz⟩ := hmem hlt
                   have hgt : K < s + (8 + M) := by omega
                   clear hmem hgo hsz
                   go_wp2_with fail
                   refine (size_c _ P M p (by omega)).mono ?_
                   rintro e w4 ⟨rfl, rfl⟩
                   go_wp2_with fail)
                | (clear hmem hgo
                   go_wp2_with fail)
              obtain ⟨tc1, tc2⟩ := tells_cut ls 0 K j H16.out (by rw [HF.out.1]; exact hj) (by rw [← hs.out]; exact hsK) hstop.out
              have TC2 := Lib.hid tc2
              have hlj : (ls.take j).length = j := by rw [List.length_take, HF.out.1]; omega
              have r3 := R2.out.take hKZ
              rw [← bv_take] at r3
              have R3 := Lib.hid r3
              clear tc2 r3
              refine (all_c w3 A2 K c2 _ R3.out hKc hc2l.out.2 (HN.out.far F2.out) (by omega)).mono ?_
              rintro e w5 ⟨v5, rfl, ob5, f5⟩
              rw [tc1] at ob5 ⊢
              simp only at ob5 ⊢
              obtain ⟨A5, c5, rfl, rb5, g51, g52⟩ := ob5.rdB
              rw [hlj] at rb5 g51 ⊢
              rw [← hs.out]
              unfold tailV
              obtain ⟨S5, hS5⟩ : ∃ S5, (rowS 0 (ls.take j) : Int) = S5 := ⟨_, rfl⟩
              rw [hS5]
              have F5 := Lib.hid (F2.out.trans f5 (fun _ _ h => h))
              have RB5 := Lib.hid (rb5.far ((Fr.refl (fun _ => False) w5).alloc (.cells #[.int .i64 (j : Int), .int .i64 (s : Int), .int .u32 S5] 30)))
              have RA5 := Lib.hid (((HR.out.far F5.out).take hj).far ((Fr.refl (fun _ => False) w5).alloc (.cells #[.int .i64 (j : Int), .int .i64 (s : Int), .int .u32 S5] 30)))
              have T5 := Lib.hid (Blk.new w5 30 #[.int .i64 (j : Int), .int .i64 (s : Int), .int .u32 S5])
              have R5 := Lib.hid (R2.out.far f5)
              have hjc : j ≤ c := by omega
              have hsame := same_c _ _ j c5 _ RB5.out (by omega) _ j c _ RA5.out (by omega)
              rw [decide_eq_true (rfl : ls.take j = ls.take j)] at hsame
              have HSM := Lib.hid hsame
              clear hsame
              clear tc1 ob5 f5 rb5 hlj hS5
              go_wp2_with fail
              refine HSM.out.mono ?_
              rintro e w6 ⟨rfl, f6⟩
              have F6 := Lib.hid ((F5.out.alloc (.cells #[.int .i64 (j : Int), .int .i64 (s : Int), .int .u32 S5] 30)).trans f6 (fun _ _ h => h))
              have T6 := T5.out.fr f6 (fun h => h)
              have t0 := T6.cell 0
              have t1 := T6.cell 1
              have n0 : ((s : Int) != (s : Int)) = false := by simp
              have n1 : ((j : Int) != (j : Int)) = false := by simp
              have RB6 := Lib.hid (RB5.out.far f6)
              have R6 := Lib.hid ((R5.out.alloc (.cells #[.int .i64 (j : Int), .int .i64 (s : Int), .int .u32 S5] 30)).far f6)
              have z5 := T6.lt
              have OE : Hid ((w6.alloc (.cells #[] 5)).ownsRow w6.heap.size 5 1 (.slice (some ⟨w6.heap.size, 0, none⟩) 0 0) 0 []) := own_empty _ _ _ 0 #[] (Nat.le_refl _) (heap_alloc_new w6 _) rfl (by unfold maxLen; omega)
              have RK : Hid (Rd (w6.alloc (.cells #[] 5)) A2 K (bv ((rowB 0 ls).take K))) := by
                have r := (R6.out.alloc (.cells #[] 5)).take hKZ
                rw [← bv_take] at r
                exact r
              have GE : Hid (Fr (fun _ => False) w6 (w6.alloc (.cells #[] 5))) := (Fr.refl _ w6).alloc _
              clear f6 T6
              go_wp2_with (first
                | (at_builtin
                   refine wpList_app rfl _ _ _ _ rfl w6.heap.size 5 i0 _ 1 1 Tryd.underlying25 hI.out hz0 hz1 hz2 rfl _ K _ rfl H7.out _ nm _ rfl (Src.rd Tryd.underlying25 _ RM7.out (bv_one _)) (by omega) (by unfold maxLen; omega) G7.out.size ?_
                   intro v9 w9 hown9 hf9 hn9
                   rw [← bv_append] at hown9
                   have G9 := Lib.hid (G7.out.trans hf9 (fun i hi hq => by have := (H7.out.lt i hq).1; omega))
                   have H9 := Lib.hid hown9
                   obtain ⟨A9, c9, rfl, hc9, hcm9⟩ := own_slice hown9
                   have HCM9 := Lib.hid hcm9
                   clear hown9 hf9 hn9 hcm9)
                | (at_builtin
                   refine wpList_app rfl _ _ _ _ rfl w6.heap.size 5 i0 _ 1 1 Tryd.underlying25 hI.out hz0 hz1 hz2 rfl _ 0 _ rfl OE.out _ K _ rfl (Src.rd Tryd.underlying25 _ RK.out (bv_one _)) (by omega) (by unfold maxLen; omega) GE.out.size ?_
                   intro v7 w7 hown7 hf7 hn7
                   rw [Nat.zero_add, List.nil_append] at hown7
                   have G7 := Lib.hid (GE.out.trans hf7 (fun i hi hq => by have := (OE.out.lt i hq).1; omega))
                   have H7 := Lib.hid hown7
                   obtain ⟨A7, c7, rfl, hc7, hcm7⟩ := own_slice hown7
                   have RM7 := Lib.hid (HM.out.far (F6.out.trans G7.out (fun _ _ h => h)))
                   clear hown7 hf7 hn7 hcm7))
              have r9 := Lib.hid (Rd.of_own (own_base H9.out (base' := 0) (fun _ _ => Nat.zero_le _)))
              refine (all_c w9 A9 (K + nm) c9 _ r9.out hc9 HCM9.out (HN.out.far (F6.out.trans G9.out (fun _ _ h => h))) (by omega)).mono ?_
              rintro e w10 ⟨v10, rfl, ob10, f10⟩
              obtain ⟨x, y, hxy⟩ := TC2.out ms
              rw [hxy] at ob10 ⊢
              simp only at ob10 ⊢
              obtain ⟨A10, c10, rfl, rb10, g101, g102⟩ := ob10.rdB
              have hlj : (ls.take j).length = j := by rw [List.length_take, HF.out.1]; omega
              have hl10 : (ls.take j ++ x).length = j + x.length := by rw [List.length_append, hlj]
              have hs10 : sizes (ls.take j ++ x) = s + sizes x := by rw [sizes_append, ← hs.out]
              obtain ⟨q, hq⟩ : ∃ q, x.length = q := ⟨_, rfl⟩
              obtain ⟨U, hU⟩ : ∃ U, sizes x = U := ⟨_, rfl⟩
              obtain ⟨S10, hS10⟩ : ∃ S10, (rowS 0 (ls.take j ++ x) : Int) = S10 := ⟨_, rfl⟩
              have hjq : j + q ≤ 9223372036854775807 := by
                rw [hl10, hq] at g101
                unfold maxLen at g102
                omega
              have hjx : (ls.take j ++ x).take j = ls.take j := by rw [List.take_append_of_le_length (by omega), List.take_of_length_le (by omega)]
              have hUU : s + U ≤ 1000000000000 := by
                have h := tells_sizes 0 ((rowB 0 ls).take K ++ ms)
                have hml : ms.length = nm := by rw [← bv_length]; exact HM.out.1
                rw [hxy, List.length_append, List.length_take, hml, hs10, hU] at h
                omega
              rw [hl10, hq] at rb10 g101 ⊢
              rw [hs10, hU, hS10]
              unfold tailV
              have r10 := rb10.take (k := j) (by omega)
              rw [hjx] at r10
              have RB10 := Lib.hid (r10.far ((Fr.refl (fun _ => False) w10).alloc (.cells #[.int .i64 ((j + q : Nat) : Int), .int .i64 ((s + U : Nat) : Int), .int .u32 S10] 30)))
              have F10 := Lib.hid ((F6.out.trans (G9.out.trans f10 (fun _ _ h => h)) (fun _ _ h => h)).alloc (.cells #[.int .i64 ((j + q : Nat) : Int), .int .i64 ((s + U : Nat) : Int), .int .u32 S10] 30))
              have RD10 := Lib.hid ((RB6.out.far (G9.out.trans f10 (fun _ _ h => h))).far ((Fr.refl (fun _ => False) w10).alloc (.cells #[.int .i64 ((j + q : Nat) : Int), .int .i64 ((s + U : Nat) : Int), .int .u32 S10] 30)))
              have T10 := Lib.hid (Blk.new w10 30 #[.int .i64 ((j + q : Nat) : Int), .int .i64 ((s + U : Nat) : Int), .int .u32 S10])
              have hsame := same_c _ _ j c10 _ RB10.out (by omega) _ j c5 _ RD10.out (by omega)
              rw [decide_eq_true (rfl : ls.take j = ls.take j)] at hsame
              have HSM2 := Lib.hid hsame
              have hjc10 : j ≤ c10 := by omega
              clear hsame ob10 f10 rb10 hxy hlj hl10 hs10 hq hU hS10 r10 hjx g101 g102
              go_wp2_with fail
              refine HSM2.out.mono ?_
              rintro e w11 ⟨rfl, f11⟩
              have F11 := Lib.hid (F10.out.trans f11 (fun _ _ h => h))
              have t1 := (T10.out.fr f11 (fun h => h)).cell 1
              clear f11
              go_wp2_with fail
              refine (HA.out _ F11.out).mono ?_
              rintro e w12 ⟨rfl, f12⟩
              have F12 := Lib.hid f12
              clear f12
              go_wp2_with fail
              go_ret
              exact ⟨rfl, F12.out⟩
      · unfold tailV
        have F2 := Lib.hid f2
        clear f2
        go_wp2_with fail
        refine (HA.out _ (F2.out.alloc _)).mono ?_
        rintro e w3 ⟨rfl, f3⟩
        have F3 := Lib.hid f3
        clear f3
        go_wp2_with fail
        go_ret
        exact ⟨rfl, F3.out⟩
end Go.Proofs.YtmaajihpkollcaaDoor
