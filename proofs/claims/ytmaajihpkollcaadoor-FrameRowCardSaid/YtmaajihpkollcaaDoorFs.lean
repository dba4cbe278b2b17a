/-
  THE WALK of FrameSpoilt.
-/
import Derived.Test.YtmaajihpkollcaaDoorFe
import Derived.Test.YtmaajihpkollcaaDoorSpl
import Derived.Test.YtmaajihpkollcaaDoorRput
import Derived.Test.YtmaajihpkollcaaDoorSpoil
namespace Go.Proofs.YtmaajihpkollcaaDoor
set_option linter.unusedSimpArgs false
set_option linter.unusedVariables false
open Go Go.RowKit

theorem mask_i64 (x : Int) (M : Nat) (hM : M < 4294967296) : ∃ X : Nat, X ≤ M ∧ bits .and .i64 x (M : Int) = (X : Int) := by
  refine ⟨(BitVec.ofInt 64 x &&& BitVec.ofInt 64 (M : Int)).toNat, ?_, ?_⟩
  · rw [BitVec.toNat_and]
    refine Nat.le_trans Nat.and_le_right ?_
    rw [BitVec.ofInt_natCast, BitVec.toNat_ofNat]
    exact Nat.mod_le _ _
  · have h : (BitVec.ofInt 64 x &&& BitVec.ofInt 64 (M : Int)).toNat ≤ M := by
      rw [BitVec.toNat_and]
      refine Nat.le_trans Nat.and_le_right ?_
      rw [BitVec.ofInt_natCast, BitVec.toNat_ofNat]
      exact Nat.mod_le _ _
    show IntKind.i64.wrap ((BitVec.ofInt 64 x &&& BitVec.ofInt 64 (M : Int)).toNat : Int) = _
    exact wrapi _ (by omega) (by omega)

theorem own_drew {w : World} {base n : Nat} {v : Value} {xs : List Value} (h : w.ownsRow base 5 1 v n xs) : w.drew.ownsRow base 5 1 v n xs := h
theorem xor_bit (x : UInt8) (r : Nat) (h : r < 8) : bits .xor .u8 (x.toNat : Int) ((2 : Int) ^ r % 256) = ((turnB x r).toNat : Int) := by
  have hp : (2 : Int) ^ r % 256 = ((2 ^ r : Nat) : Int) := by
    have : r = 0 ∨ r = 1 ∨ r = 2 ∨ r = 3 ∨ r = 4 ∨ r = 5 ∨ r = 6 ∨ r = 7 := by omega
    rcases this with rfl | rfl | rfl | rfl | rfl | rfl | rfl | rfl <;> rfl
  have hb : 2 ^ r < 256 := Nat.lt_of_lt_of_le (Nat.pow_lt_pow_right (by omega) h) (by omega)
  rw [hp, u8_xor_nat _ _ x.toNat_lt hb, turnB_toNat _ _ h]
/-- Three bits turned, one by one. -/
def tn (b : List UInt8) (o d1 d2 d3 : Nat) : Nat → List UInt8
  | 0 => b
  | 1 => turn b o d1
  | 2 => turn (turn b o d1) o d2
  | _ => turn (turn (turn b o d1) o d2) o d3
theorem tn_length (b : List UInt8) (o d1 d2 d3 i : Nat) : (tn b o d1 d2 d3 i).length = b.length := by
  rcases i with _ | _ | _ | i <;> simp [tn, turn_length]
theorem tn_next (b : List UInt8) (o d1 d2 d3 B i : Nat) (h1 : d1 < B) (h2 : d2 < B) (h3 : d3 < B) (hi : i < 3) : ∃ d, d < B ∧ (#[Value.int .i64 (d1 : Int), .int .i64 (d2 : Int), .int .i64 (d3 : Int)] : Array Value)[i]? = some (.int .i64 (d : Int)) ∧ tn b o d1 d2 d3 (i + 1) = turn (tn b o d1 d2 d3 i) o d := by
  have : i = 0 ∨ i = 1 ∨ i = 2 := by omega
  rcases this with rfl | rfl | rfl
  · exact ⟨d1, h1, rfl, rfl⟩
  · exact ⟨d2, h2, rfl, rfl⟩
  · exact ⟨d3, h3, rfl, rfl⟩

set_option maxRecDepth 100000 in
set_option maxHeartbeats 4000000 in
theorem frameSpoilt_c (w : World) (A : Option Addr) (n c : Nat) (ls : List (List UInt8)) (hr : RdB w A n ls) (hn : n ≤ c) (hc : c ≤ 140737488355328) (hp : ∀ p ∈ ls, p.length ≤ 140737488355328)
    (q0 q1 q2 q3 : Int) (g0 : -9223372036854775808 ≤ q0) (g1 : q0 ≤ 9223372036854775807) (g2 : -9223372036854775808 ≤ q1) (g3 : q1 ≤ 9223372036854775807) (g4 : -9223372036854775808 ≤ q2) (g5 : q2 ≤ 9223372036854775807) (g6 : -9223372036854775808 ≤ q3) (g7 : q3 ≤ 9223372036854775807) (hN : Nb w) :
    Calls Tryd.prog 8 #[.slice A n c, .int .i64 q0, .int .i64 q1, .int .i64 q2, .int .i64 q3] w fun e w' => e = .returned (.bool true) ∧ Fr (fun _ => False) w w' := by
  obtain ⟨i0, hi, hz0, hz1, hz2⟩ := info_parts u8_info
  have hawake : ∀ W, Fr (fun _ => False) w W → Calls Tryd.prog 10 #[] W fun e w' => e = .returned (.bool true) ∧ Fr (fun _ => False) w w' := fun W hW =>
    (awake_c W (hN.far hW)).mono fun e w' h => ⟨h.1, hW.trans h.2 (fun _ _ h => h)⟩
  have HA := Lib.hid hawake
  have HR := Lib.hid hr
  have HN := Lib.hid hN
  have HP := Lib.hid hp
  have hI := Lib.hid hi
  clear hr hN hp hi hawake
  go_enter Tryd.func8, Tryd.ntmps8
  go_wp2_with fail
  refine (long_c w A n c ls HR.out (by omega) HP.out).mono ?_
  rintro e w1 ⟨rfl, rfl | ⟨rfl, hb⟩⟩
  · go_wp2_with fail
    refine (HA.out w (Fr.refl _ w)).mono ?_
    rintro e w2 ⟨rfl, f2⟩
    have F2 := Lib.hid f2
    clear f2
    go_wp2_with fail
    go_ret
    exact ⟨rfl, F2.out⟩
  · have HB := Lib.hid hb
    clear hb
    by_cases hn0 : n = 0
    · subst hn0
      go_wp2_with fail
      refine (HA.out w (Fr.refl _ w)).mono ?_
      rintro e w2 ⟨rfl, f2⟩
      have F2 := Lib.hid f2
      clear f2
      go_wp2_with fail
      go_ret
      exact ⟨rfl, F2.out⟩
    · have hnpos : 0 < n := by omega
      have hne0 : ((n : Int) == 0) = false := by simp; omega
      clear hn0
      go_wp2_with fail
      have hsz := sizes_bulk ls
      have hln := bulk_len ls
      rw [HR.out.1] at hln
      refine (row_c w A n c ls HR.out HN.out (by have := HB.out; omega) (by have := HB.out; omega)).mono ?_
      rintro e w2 ⟨f2, ⟨h16, v2, rfl, o2⟩ | ⟨-, rfl⟩⟩
      · obtain ⟨A2, c2, rfl, hc2, hc2m⟩ := own_slice o2
        unfold tailV
        have hlb : (rowB 0 ls).length = sizes ls := rowB_length 0 ls
        rw [hlb] at o2 hc2
        obtain ⟨S, hS⟩ : ∃ S, (rowS 0 ls : Int) = S := ⟨_, rfl⟩
        have hll : ls.length = n := HR.out.1
        rw [hS, hlb, hll]
        obtain ⟨Z, hZ⟩ : ∃ Z, sizes ls = Z := ⟨_, rfl⟩
        rw [hZ] at o2 hc2 hsz ⊢
        have hZ2 : Z ≤ 480000 := by have := HB.out; omega
        have hn6 : n ≤ 60000 := by have := HB.out; omega
        have O2 := Lib.hid (own_fr o2 ((Fr.refl (fun _ => False) w2).alloc (.cells #[.int .i64 (n : Int), .int .i64 (Z : Int), .int .u32 S] 30)) (fun _ _ h => h))
        have F2 := Lib.hid (f2.alloc (.cells #[.int .i64 (n : Int), .int .i64 (Z : Int), .int .u32 S] 30))
        have H16 := Lib.hid h16
        have HZ := Lib.hid hZ
        have hc2l := Lib.hid (And.intro hc2 hc2m)
        obtain ⟨X, hX1, hX2⟩ := mask_i64 q0 65535 (by omega)
        have hX2 : bits .and .i64 q0 65535 = (X : Int) := hX2
        obtain ⟨K, hK⟩ : ∃ K, K = X % n := ⟨_, rfl⟩
        have hKn : K < n := by rw [hK]; exact Nat.mod_lt _ hnpos
        have hK2 : ((X : Int) % (n : Int)) = (K : Int) := by rw [hK]; omega
        clear f2 o2 hlb hS hZ h16 hsz hc2 hc2m hln hll hK
        go_wp2_with fail
        have HF := Lib.hid (HR.out.far F2.out)
        generalize w2.alloc (.cells #[.int .i64 (n : Int), .int .i64 (Z : Int), .int .u32 S] 30) = w3 at *
        rw [hK2]
        clear hK2 hX2
        go_loop [15, 16] (fun av iv => ∃ (j s : Nat), j ≤ K ∧ iv = .int .i64 j ∧ av = .int .i64 s ∧ Hid (s = sizes (ls.take j))) (fun _ iv => K - (intOf iv).toNat)
        case atStart => exact ⟨0, 0, Nat.zero_le _, rfl, rfl, rfl⟩
        case round =>
          obtain ⟨j, s, hj, rfl, rfl, hs⟩ := hrel
          have hjl : j < ls.length := by rw [HF.out.1]; omega
          obtain ⟨b, off, rfl, hc⟩ := HF.out.2 (by omega)
          obtain ⟨P, p, c0, -, -, -⟩ := hc j hjl
          have hsz := sizes_succ ls j hjl
          have hM := H16.out _ (List.getElem_mem hjl)
          have hle : sizes (ls.take (j + 1)) ≤ Z := by rw [← HZ.out]; exact sizes_take ls (j + 1)
          rw [← hs.out] at hsz
          rw [hsz] at hle
          have HSZ := Lib.hid hsz
          obtain ⟨M, hMM⟩ : ∃ M, (ls[j]).length = M := ⟨_, rfl⟩
          rw [hMM] at c0 hM hle
          have HMM := Lib.hid hMM
          clear hsz hc hMM
          by_cases hlt : j < K
          · go_wp2_with fail
            refine (size_c _ P M p (by omega)).mono ?_
            rintro e w4 ⟨rfl, rfl⟩
            go_wp2_with fail
            exact ⟨⟨j + 1, s + (8 + M), hlt, by go_num, by go_num, by rw [← HMM.out]; exact HSZ.out.symm⟩, by simp [intOf]; omega⟩
          · obtain rfl : j = K := by omega
            have hsM : s + (8 + M) ≤ Z := hle
            clear hle
            go_wp2_with fail
            refine (size_c _ P M p (by omega)).mono ?_
            rintro e w4 ⟨rfl, rfl⟩
            go_wp2_with fail
            refine (size_c _ P M p (by omega)).mono ?_
            rintro e w4 ⟨rfl, rfl⟩
            go_wp2_with fail
            have hB0 : 8 * (8 + (M : Int) - 4) = ((8 * (4 + M) : Nat) : Int) := by omega
            rw [hB0]
            clear hB0
            obtain ⟨B, hB⟩ : ∃ B : Nat, 8 * (4 + M) = B := ⟨_, rfl⟩
            rw [hB]
            have hBpos : 0 < B := by omega
            have hBle : B ≤ 200000 := by omega
            have hBp : (0 : Int) < (B : Int) := by omega
            have HBB := Lib.hid hB
            obtain ⟨Y1, hY1, y1⟩ := mask_i64 q1 268435455 (by omega)
            obtain ⟨Y2, hY2, y2⟩ := mask_i64 q2 268435455 (by omega)
            obtain ⟨Y3, hY3, y3⟩ := mask_i64 q3 268435455 (by omega)
            have y1 : bits .and .i64 q1 268435455 = (Y1 : Int) := y1
            have y2 : bits .and .i64 q2 268435455 = (Y2 : Int) := y2
            have y3 : bits .and .i64 q3 268435455 = (Y3 : Int) := y3
            clear hB
            have hm1 : ((Y1 : Int) % (B : Int)) = ((Y1 % B : Nat) : Int) := by omega
            have hm2 : ((Y2 : Int) % (B : Int)) = ((Y2 % B : Nat) : Int) := by omega
            have hm3 : ((Y3 : Int) % (B : Int)) = ((Y3 % B : Nat) : Int) := by omega
            have hM1 := Lib.hid hm1
            have hM2 := Lib.hid hm2
            have hM3 := Lib.hid hm3
            have l1 := Nat.mod_lt Y1 hBpos
            have l2 := Nat.mod_lt Y2 hBpos
            have l3 := Nat.mod_lt Y3 hBpos
            clear hm1 hm2 hm3
            go_region
            rw [hM1.out, hM2.out, hM3.out]
            clear y1 y2 y3
            generalize Y1 % B = D1 at *
            generalize Y2 % B = D2 at *
            generalize Y3 % B = D3 at *
            have T5 := Lib.hid (Blk.new w3 3 #[.int .i64 (D1 : Int), .int .i64 (D2 : Int), .int .i64 (D3 : Int)]).drew
            have F5 := Lib.hid ((Fr.refl (fun _ => False) w3).alloc (.cells #[.int .i64 (D1 : Int), .int .i64 (D2 : Int), .int .i64 (D3 : Int)] 3)).drew
            generalize (w3.alloc (.cells #[.int .i64 (D1 : Int), .int .i64 (D2 : Int), .int .i64 (D3 : Int)] 3)).drew = w5 at *
            have OE : Hid ((w5.alloc (.cells #[] 5)).ownsRow w5.heap.size 5 1 (.slice (some ⟨w5.heap.size, 0, none⟩) 0 0) 0 []) := own_empty _ _ _ 0 #[] (Nat.le_refl _) (heap_alloc_new w5 _) rfl (by unfold maxLen; omega)
            have GE : Hid (Fr (fun _ => False) w5 (w5.alloc (.cells #[] 5))) := (Fr.refl _ w5).alloc _
            have OB6 := Lib.hid (own_fr O2.out (F5.out.trans GE.out (fun _ _ h => h)) (fun _ _ h => h))
            have RK := Lib.hid (Rd.of_own (own_base OB6.out (base' := 0) (fun _ _ => Nat.zero_le _)))
            go_wp2_with (first
                | (at_builtin
                   refine wpList_app rfl _ _ _ _ rfl w5.heap.size 5 i0 _ 1 1 Tryd.underlying25 hI.out hz0 hz1 hz2 rfl _ 0 _ rfl OE.out _ Z _ rfl (Src.rd Tryd.underlying25 _ RK.out (bv_one _)) (by omega) (by unfold maxLen; omega) GE.out.size ?_
                   intro v7 w7 hown7 hf7 hn7
                   rw [Nat.zero_add, List.nil_append] at hown7
                   have G7 := Lib.hid (GE.out.trans hf7 (fun i hi hq => by have := (OE.out.lt i hq).1; omega))
                   have H7 := Lib.hid hown7
                   obtain ⟨A7, c7, rfl, hc7, hcm7⟩ := own_slice hown7
                   have HCM7 := Lib.hid hcm7
                   clear hown7 hf7 hn7 hcm7))
            have hrl : (rowB 0 ls).length = Z := by rw [rowB_length]; exact HZ.out
            have HRL := Lib.hid hrl
            clear hrl
            go_loopw [20] (fun iv wr => ∃ (i : Nat), i ≤ 3 ∧ iv = .int .i64 i ∧ Hid (wr.ownsRow w5.heap.size 5 1 (.slice A7 Z c7) Z (bv (tn (rowB 0 ls) (s + 4) D1 D2 D3 i))) ∧ Hid (Fr (fun _ => False) w5 wr)) (fun iv _ => 3 - (intOf iv).toNat)
            case atStart => exact ⟨0, by omega, rfl, H7.out, G7.out⟩
            case round =>
              obtain ⟨i, hi3, rfl, ho, hf⟩ := hrel
              by_cases hlt3 : i < 3
              · obtain ⟨d, hd, hcd, htn⟩ := tn_next (rowB 0 ls) (s + 4) D1 D2 D3 B i l1 l2 l3 hlt3
                obtain ⟨q, hq⟩ : ∃ q, d / 8 = q := ⟨_, rfl⟩
                obtain ⟨r, hr⟩ : ∃ r, d % 8 = r := ⟨_, rfl⟩
                have hq1 : ((d : Int) / 8) = (q : Int) := by omega
                have hr1 : ((d : Int) % 8) = (r : Int) := by omega
                have hr8 : r < 8 := by omega
                have hqM : q < 4 + M := by have := HBB.out; omega
                have hidx : s + 4 + q < Z := by omega
                have c1 := (T5.out.fr hf.out (fun h => h)).cell i
                rw [hcd] at c1
                have rr := Rd.of_own (own_base ho.out (base' := 0) (fun _ _ => Nat.zero_le _))
                obtain ⟨g, rfl⟩ : ∃ g, A7 = some ⟨g, 0, none⟩ := by
                  rcases ho.out.2 with ⟨h1, h2⟩ | ⟨g', cap, cur, he, -⟩
                  · injection h1 with h1 h2 h3; omega
                  · injection he with h1
                    exact ⟨g', h1⟩
                have hml := tn_length (rowB 0 ls) (s + 4) D1 D2 D3 i
                rw [HRL.out] at hml
                have c2 := rr.cell (k := s + 4 + q) hidx
                rw [bv_get _ _ (by rw [hml]; exact hidx), Nat.zero_add] at c2
                have f0 : wr.frozen? ⟨g, s + 4 + q, none⟩ = false := by
                  rcases ho.out.2 with ⟨h1, -⟩ | ⟨g', cap, cur, he, hbg, hg, -⟩
                  · cases h1
                  · injection he with h1
                    injection h1 with h1
                    injection h1 with h1
                    subst h1
                    exact (show Blk wr g 5 cur from hg).frozen _
                have HTN := Lib.hid htn
                have HQ := Lib.hid hq
                have HRR := Lib.hid hr
                clear htn hq hr rr hcd
                go_wp2_with fail
                go_region
                have hxb := xor_bit ((tn (rowB 0 ls) (s + 4) D1 D2 D3 i)[s + 4 + q]'(by rw [hml]; exact hidx)) r hr8
                rw [hxb]
                have hset := own_set _ _ _ _ _ _ ho.out (s + 4 + q) hidx (turnB ((tn (rowB 0 ls) (s + 4) D1 D2 D3 i)[s + 4 + q]'(by rw [hml]; exact hidx)) r)
                have hnew : tn (rowB 0 ls) (s + 4) D1 D2 D3 (i + 1) = (tn (rowB 0 ls) (s + 4) D1 D2 D3 i).set (s + 4 + q) (turnB ((tn (rowB 0 ls) (s + 4) D1 D2 D3 i)[s + 4 + q]'(by rw [hml]; exact hidx)) r) := by
                  rw [HTN.out]
                  unfold turn
                  rw [HQ.out, HRR.out, List.getElem?_eq_getElem (by rw [hml]; exact hidx)]
                  rfl
                rw [← hnew] at hset
                have HSET := Lib.hid hset
                have FSET := Lib.hid (hf.out.setCell (p := ⟨g, s + 4 + q, none⟩) (fun h => by have := (ho.out.lt g rfl).1; exact absurd h (by show ¬ g < _; omega)) (.int .u8 ((turnB ((tn (rowB 0 ls) (s + 4) D1 D2 D3 i)[s + 4 + q]'(by rw [hml]; exact hidx)) r).toNat : Int)))
                clear hset hnew hxb
                generalize wr.setCell ⟨g, s + 4 + q, none⟩ (.int .u8 ((turnB ((tn (rowB 0 ls) (s + 4) D1 D2 D3 i)[s + 4 + q]'(by rw [hml]; exact hidx)) r).toNat : Int)) = w8 at *
                clear c1 c2 f0
                go_wp2_with fail
                exact ⟨⟨i + 1, hlt3, by go_num, own_drew HSET.out, FSET.out.drew⟩, by simp [intOf]; omega⟩
              · obtain rfl : i = 3 := by omega
                have hml := tn_length (rowB 0 ls) (s + 4) D1 D2 D3 3
                rw [HRL.out] at hml
                have FR := Lib.hid (F2.out.trans (F5.out.trans hf.out (fun _ _ h => h)) (fun _ _ h => h))
                have r1 := Lib.hid (Rd.of_own (own_base ho.out (base' := 0) (fun _ _ => Nat.zero_le _)))
                have r2 := Lib.hid ((Rd.of_own (own_base O2.out (base' := 0) (fun _ _ => Nat.zero_le _))).far (F5.out.trans hf.out (fun _ _ h => h)))
                have s1 := conv_str wr A7 Z c7 _ r1.out
                have s2 := conv_str wr A2 Z c2 _ r2.out
                have hts := tells_spoilt ls j hjl D1 D2 D3 H16.out (by rw [HMM.out]; have := HBB.out; omega) (by rw [HMM.out]; have := HBB.out; omega) (by rw [HMM.out]; have := HBB.out; omega)
                rw [← hs.out] at hts
                have hts : tells 0 (tn (rowB 0 ls) (s + 4) D1 D2 D3 3) = (ls.take j, rowS 0 (ls.take j)) := hts
                have HTS := Lib.hid hts
                clear hts
                generalize tn (rowB 0 ls) (s + 4) D1 D2 D3 3 = X3 at *
                have heq := beq_str X3 (rowB 0 ls)
                by_cases hX : X3 = rowB 0 ls
                · rw [decide_eq_true hX] at heq
                  have HXX := Lib.hid hX
                  clear hX
                  go_wp2_with fail
                  refine (HA.out _ FR.out).mono ?_
                  rintro e w12 ⟨rfl, f12⟩
                  have F12 := Lib.hid f12
                  clear f12
                  go_wp2_with fail
                  go_ret
                  exact ⟨rfl, F12.out⟩
                · rw [decide_eq_false hX] at heq
                  have HXX := Lib.hid hX
                  clear hX
                  go_wp2_with fail
                  have hall := all_c wr A7 Z c7 X3 r1.out hc7 HCM7.out (HN.out.far FR.out) (by omega)
                  refine hall.mono ?_
                  rintro e w9 ⟨v9, rfl, ob9, f9⟩
                  clear hall
                  rw [HTS.out] at ob9 ⊢
                  simp only at ob9 ⊢
                  have hlj : (ls.take j).length = j := by rw [List.length_take, HF.out.1]; omega
                  obtain ⟨A9, c9, rfl, rb9, g91, g92⟩ := ob9.rdB
                  unfold tailV
                  rw [hlj] at rb9 g91 ⊢
                  rw [← hs.out]
                  obtain ⟨S9, hS9⟩ : ∃ S9, (rowS 0 (ls.take j) : Int) = S9 := ⟨_, rfl⟩
                  rw [hS9]
                  have F9 := Lib.hid ((FR.out.trans f9 (fun _ _ h => h)).alloc (.cells #[.int .i64 (j : Int), .int .i64 (s : Int), .int .u32 S9] 30))
                  have RB9 := Lib.hid (rb9.far ((Fr.refl (fun _ => False) w9).alloc (.cells #[.int .i64 (j : Int), .int .i64 (s : Int), .int .u32 S9] 30)))
                  have RA9 := Lib.hid ((HR.out.far F9.out).take (k := j) (by omega))
                  have T9 := Lib.hid (Blk.new w9 30 #[.int .i64 (j : Int), .int .i64 (s : Int), .int .u32 S9])
                  unfold maxLen at g92
                  have hjc : j ≤ c := by omega
                  have hsame := same_c _ _ j c9 _ RB9.out (by omega) _ j c _ RA9.out (by omega)
                  rw [decide_eq_true (rfl : ls.take j = ls.take j)] at hsame
                  have HSM := Lib.hid hsame
                  clear hsame ob9 f9 rb9 hlj hS9 s1 s2 heq
                  go_wp2_with fail
                  refine HSM.out.mono ?_
                  rintro e w10 ⟨rfl, f10⟩
                  have F10 := Lib.hid (F9.out.trans f10 (fun _ _ h => h))
                  have t0 := (T9.out.fr f10 (fun h => h)).cell 0
                  clear f10
                  go_wp2_with fail
                  refine (HA.out _ F10.out).mono ?_
                  rintro e w12 ⟨rfl, f12⟩
                  have F12 := Lib.hid f12
                  clear f12
                  go_wp2_with fail
                  go_ret
                  exact ⟨rfl, F12.out⟩
      · unfold tailV
        have F2 := Lib.hid f2
        clear f2
        go_wp2_with fail
        refine (HA.out _ (F2.out.alloc _)).mono ?_
        rintro e w3 ⟨rfl, f3⟩
        have F3 := Lib.hid f3
        clear f3
        go_wp2_with fail
        go_ret
        exact ⟨rfl, F3.out⟩
end Go.Proofs.YtmaajihpkollcaaDoor
