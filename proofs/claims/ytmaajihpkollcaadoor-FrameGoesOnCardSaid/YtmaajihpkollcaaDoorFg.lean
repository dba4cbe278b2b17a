/-
  THE WALK of FrameGoesOn.
-/
import Derived.Test.YtmaajihpkollcaaDoorFgp
import Derived.Deep.RegionHeld3
import Derived.Deep.QuietTactic
import Derived.BigQuiet
namespace Go.Proofs.YtmaajihpkollcaaDoor
set_option linter.unusedSimpArgs false
set_option linter.unusedVariables false
open Go Go.RowKit

set_option maxRecDepth 100000 in
set_option maxHeartbeats 4000000 in
theorem frameGoesOn_c (w : World) (A : Option Addr) (n c : Nat) (ls : List (List UInt8)) (hr : RdB w A n ls) (hn : n ≤ c) (hc : c ≤ 140737488355328) (hp : ∀ p ∈ ls, p.length ≤ 140737488355328)
    (B : Option Addr) (m d : Nat) (ms : List (List UInt8)) (hs : RdB w B m ms) (hm : m ≤ d) (hd : d ≤ 140737488355328) (hq : ∀ p ∈ ms, p.length ≤ 140737488355328)
    (o : Int) (ho0 : 0 ≤ o) (ho1 : o < 4294967296) (hN : Nb w) :
    Calls Tryd.prog 5 #[.slice A n c, .slice B m d, .int .u32 o] w fun e w' => e = .returned (.bool true) ∧ Fr (fun _ => False) w w' := by
  obtain ⟨o, rfl⟩ := Int.eq_ofNat_of_zero_le ho0
  have HO1 := Lib.hid (show o < 4294967296 by omega)
  clear ho0 ho1
  obtain ⟨i0, hi, hz0, hz1, hz2⟩ := info_parts u8_info
  obtain ⟨i1, hi1, hy0, hy1, hy2⟩ := info_parts bytes_info
  have hawake : ∀ W, Fr (fun _ => False) w W → Calls Tryd.prog 10 #[] W fun e w' => e = .returned (.bool true) ∧ Fr (fun _ => False) w w' := fun W hW =>
    (awake_c W (hN.far hW)).mono fun e w' h => ⟨h.1, hW.trans h.2 (fun _ _ h => h)⟩
  have HA := Lib.hid hawake
  have HR := Lib.hid hr
  have HS := Lib.hid hs
  have HN := Lib.hid hN
  have HP := Lib.hid hp
  have HQ := Lib.hid hq
  have hI := Lib.hid hi
  have hI1 := Lib.hid hi1
  clear hr hs hN hp hq hi hi1 hawake
  go_enter Tryd.func5, Tryd.ntmps5
  go_wp2_with fail
  refine (long_c w A n c ls HR.out (by omega) HP.out).mono ?_
  rintro e w1 ⟨rfl, rfl | ⟨rfl, hb⟩⟩
  · go_wp2_with fail
    refine (HA.out w (Fr.refl _ w)).mono ?_
    rintro e w2 ⟨rfl, f2⟩
    have F2 := Lib.hid f2
    clear f2
    go_wp2_with fail
    go_ret
    exact ⟨rfl, F2.out⟩
  · have HB := Lib.hid hb
    clear hb
    go_wp2_with fail
    refine (long_c w B m d ms HS.out (by omega) HQ.out).mono ?_
    rintro e w1 ⟨rfl, rfl | ⟨rfl, hb⟩⟩
    · go_wp2_with fail
      refine (HA.out w (Fr.refl _ w)).mono ?_
      rintro e w2 ⟨rfl, f2⟩
      have F2 := Lib.hid f2
      clear f2
      go_wp2_with fail
      go_ret
      exact ⟨rfl, F2.out⟩
    · have HB2 := Lib.hid hb
      clear hb
      go_wp2_with fail
      have hsz := sizes_bulk ls
      have hln := bulk_len ls
      rw [HR.out.1] at hln
      have hrow := row_c w A n c ls HR.out HN.out (by have := HB.out; omega) (by have := HB.out; omega)
      refine hrow.mono ?_
      rintro e w2 ⟨f2, ⟨h16, v2, rfl, o2⟩ | ⟨-, rfl⟩⟩
      · clear hrow
        obtain ⟨A2, c2, rfl, hc2, hc2m⟩ := own_slice o2
        unfold tailV
        have hlb : (rowB 0 ls).length = sizes ls := rowB_length 0 ls
        rw [hlb] at o2 hc2
        obtain ⟨S, hS⟩ : ∃ S, rowS 0 ls = S := ⟨_, rfl⟩
        have hll : ls.length = n := HR.out.1
        rw [hS, hlb, hll]
        obtain ⟨Z, hZ⟩ : ∃ Z, sizes ls = Z := ⟨_, rfl⟩
        rw [hZ] at o2 hc2 hsz ⊢
        have hZ2 : Z ≤ 480000 := by have := HB.out; omega
        have hn6 : n ≤ 60000 := by have := HB.out; omega
        have hm6 : m ≤ 60000 := by have := HB2.out; have := bulk_len ms; have := HS.out.1; omega
        have O2 := Lib.hid (own_fr o2 ((Fr.refl (fun _ => False) w2).alloc (.cells #[.int .i64 (n : Int), .int .i64 (Z : Int), .int .u32 (S : Int)] 30)) (fun _ _ h => h))
        have F2 := Lib.hid (f2.alloc (.cells #[.int .i64 (n : Int), .int .i64 (Z : Int), .int .u32 (S : Int)] 30))
        have T2 := Lib.hid (Blk.new w2 30 #[.int .i64 (n : Int), .int .i64 (Z : Int), .int .u32 (S : Int)])
        have H16 := Lib.hid h16
        have Z28 := Lib.hid f2.size
        have HZ := Lib.hid hZ
        have HSS := Lib.hid hS
        have z2 := f2.size
        have z3 := F2.out.size
        have t8 : w2.heap.size < (w2.alloc (.cells #[.int .i64 (n : Int), .int .i64 (Z : Int), .int .u32 (S : Int)] 30)).heap.size := by simp
        obtain ⟨us, hus, hrus⟩ := HR.out.vals
        have HU := Lib.hid hus
        have RU := Lib.hid (hrus.far (F2.out.alloc (.cells #[] 25)))
        have T3 := T2
        have O3 := O2
        have F3 := F2
        have tlt : w2.heap.size < (w2.alloc (.cells #[.int .i64 (n : Int), .int .i64 (Z : Int), .int .u32 (S : Int)] 30)).heap.size := T2.out.lt
        have OE : Hid (((w2.alloc (.cells #[.int .i64 (n : Int), .int .i64 (Z : Int), .int .u32 (S : Int)] 30)).alloc (.cells #[] 25)).ownsRow w.heap.size 25 1 (.slice (some ⟨w2.heap.size + 1, 0, none⟩) 0 0) 0 []) := own_empty_b _ _ _ 0 #[] (by omega) (by rw [← World.size_alloc w2 (.cells #[.int .i64 (n : Int), .int .i64 (Z : Int), .int .u32 (S : Int)] 30)]; exact heap_alloc_new _ _) rfl (by unfold maxLen; omega)
        have GE : Hid (Fr (fun _ => False) (w2.alloc (.cells #[.int .i64 (n : Int), .int .i64 (Z : Int), .int .u32 (S : Int)] 30)) ((w2.alloc (.cells #[.int .i64 (n : Int), .int .i64 (Z : Int), .int .u32 (S : Int)] 30)).alloc (.cells #[] 25))) := (Fr.refl _ _).alloc _
        have zE := GE.out.size
        have zF := F2.out.size
        clear f2 o2 hlb hS hZ h16 hsz hc2 hc2m hln hll hus hrus T2 O2 F2 z2 z3 t8
        go_wp2_with (first
                | (at_builtin
                   refine wpList_app rfl _ _ _ _ rfl w.heap.size 25 i1 _ 1 24 Tryd.underlying22 hI1.out hy0 hy1 hy2 rfl _ 0 _ rfl OE.out _ n _ rfl (Src.rd Tryd.underlying22 _ RU.out (HU.out.one)) (by omega) (by unfold maxLen; omega) (by omega) ?_
                   intro v5 w5 hown5 hf5 hn5
                   rw [Nat.zero_add, List.nil_append] at hown5
                   have G5 := Lib.hid (GE.out.trans hf5 (fun i hi hq => by have h : w2.heap.size + 1 = i := Option.some.inj hq; rw [World.size_alloc] at hi; omega))
                   have H5 := Lib.hid hown5
                   obtain ⟨A5, c5, rfl, hc5, hcm5⟩ := own_slice hown5
                   clear hown5 hf5 hn5 hcm5 hc5))
        have F5 := Lib.hid (F3.out.trans G5.out (fun _ _ h => h))
        have T5 := Lib.hid (T3.out.fr G5.out (fun h => h))
        have O5 := Lib.hid (own_fr O3.out G5.out (fun _ _ h => h))
        clear OE GE T3 O3 F3 RU
        go_loopw [7, 10, 11] (fun bv_ av iv wr => ∃ (i L Z' S' : Nat) (all : List (List UInt8)) (us : List Value) (bA aA : Option Addr) (bc ac : Nat), i ≤ m ∧ bv_ = .slice bA Z' bc ∧ av = .slice aA L ac ∧ iv = .int .i64 i ∧ Hid (GoS w ls ms i w2.heap.size bA aA bc ac L Z' S' all us wr)) (fun _ _ iv _ => m - (intOf iv).toNat)
        case atStart => exact ⟨0, n, Z, S, ls, us, A2, A5, c2, c5, Nat.zero_le _, rfl, rfl, rfl, ⟨by simp [fits], HR.out.1, HZ.out, HSS.out, HU.out, O5.out, H5.out, T5.out, F5.out⟩⟩
        case round =>
          obtain ⟨i, L, Z', S', all, us', bA, aA, bc, ac, hi, rfl, rfl, rfl, hg⟩ := hrel
          have hbnd : L ≤ 120000 ∧ Z' ≤ 960000 ∧ S' < 4294967296 := by
            have h1 := HB.out
            have h2 := HB2.out
            have h3 := sizes_bulk ls
            have h4 := sizes_bulk ms
            have h5 := sizes_fits (ms.take i)
            have h6 := sizes_take ms i
            have h7 := fits_le ms i
            have h8 := HR.out.1
            have h9 := hg.out.ha
            refine ⟨?_, ?_, ?_⟩
            · rw [← hg.out.hl, h9, List.length_append]; omega
            · rw [← hg.out.hz, h9, sizes_append]; omega
            · rw [← hg.out.hs]; exact rowS_lt _ _ (by omega)
          obtain ⟨hL, hZ', hS'⟩ := hbnd
          by_cases hlt : i < m
          · obtain ⟨b, off, rfl, hc⟩ := HS.out.2 (by omega)
            have hil : i < ms.length := by rw [HS.out.1]; exact hlt
            obtain ⟨P, q, c0, r0, hq1, hq2⟩ := hc i hil
            obtain ⟨M, hM⟩ : ∃ M, (ms[i]).length = M := ⟨_, rfl⟩
            rw [hM] at c0 r0 hq1
            have c00 : wr.cell? ⟨b, off + i, none⟩ = some (.slice P M q) := by rw [hg.out.fr.cell (World.block_lt_of_cell? _ _ c0) (fun h => h)]; exact c0
            have C0W := Lib.hid c0
            clear c0
            have c0 := c00
            clear c00
            have RPW := Lib.hid r0
            have RP := Lib.hid (r0.far hg.out.fr)
            have HM := Lib.hid hM
            clear hc r0 hM
            have tl0 := hg.out.tl.cell 0
            have tl1 := hg.out.tl.cell 1
            have tl2 := hg.out.tl.cell 2
            go_wp2_with fail
            by_cases h16 : M ≤ 16384
            · obtain ⟨p, hp⟩ : ∃ p, ms[i] = p := ⟨_, rfl⟩
              rw [hp] at RP RPW
              have HPP := Lib.hid hp
              clear hp
              have hsl := sumOf_lt S' p
              go_region_held3 (fun w' => w'.cell? ⟨w2.heap.size, 0, none⟩ = some (.int .i64 (L : Int)) ∧ w'.cell? ⟨w2.heap.size, 1, none⟩ = some (.int .i64 (Z' : Int)) ∧ w'.cell? ⟨w2.heap.size, 2, none⟩ = some (.int .u32 (S' : Int)) ∧ w'.cell? ⟨b, off + i, none⟩ = some (.slice P M q))
                (exact heldG hg.out.tl c0 (by with_reducible repeat (first | exact Fr.refl _ _ | exact FA.out | refine Fr.drew ?_ | refine Fr.alloc ?_ _ | refine Fr.setCell ?_ (by intro h; simp only at h; omega) _)))
                (first
                  | (go_at_call 18; refine (put_c _ L Z' S' hS' (by omega) (by omega) (by omega) (by omega) P M q p (RP.out.far (by with_reducible repeat (first | exact Fr.refl _ _ | refine Fr.drew ?_ | refine Fr.alloc ?_ _))) hq1 hq2 (HN.out.far (hg.out.fr.trans (by with_reducible repeat (first | exact Fr.refl _ _ | refine Fr.drew ?_ | refine Fr.alloc ?_ _)) (fun _ _ h => h))) h16).mono ?_; rintro e w1 ⟨v1, rfl, o1, f1⟩
                     unfold tailV
                     have FA := Lib.hid (Fr.trans (a := wr) (fp := fun _ => False) (by with_reducible repeat (first | exact Fr.refl _ _ | refine Fr.drew ?_ | refine Fr.alloc ?_ _)) f1 (fun _ _ h => h))
                     have zA := FA.out.size
                     have O1 : Hid (w1.ownsRow wr.heap.size 5 1 v1 (8 + M) (bv (recB S' p))) := own_base o1 (fun k hk => Nat.le_trans (Fr.size (fp := fun _ => False) (w := wr) (by with_reducible repeat (first | exact Fr.refl _ _ | refine Fr.drew ?_ | refine Fr.alloc ?_ _))) (o1.lt k hk).1)
                     first
                       | (have D1 : Blk w1 wr.heap.size 30 #[.int .i64 0, .int .i64 0, .int .u32 0] := (by first | exact (Blk.new wr _ _).fr f1 (fun h => h) | exact (Blk.new wr _ _).drew.fr f1 (fun h => h))
                          have j0 := D1.cell 0
                          have j1 := D1.cell 1
                          have j2 := D1.cell 2
                          have m0 := D1.frozen 0
                          have m1 := D1.frozen 1
                          have m2 := D1.frozen 2
                          have DD := Lib.hid D1
                          clear D1)
                       | skip
                     clear f1 o1))
              all_goals
                first
                  | (have D9 := DD.out
                     have hs9 : Fr (fun k => k = wr.heap.size) w1 (((w1.setCell ⟨wr.heap.size, 0, none⟩ (.int .i64 ((L : Int) + 1))).setCell ⟨wr.heap.size, 1, none⟩ (.int .i64 ((Z' : Int) + (8 + (M : Int))))).setCell ⟨wr.heap.size, 2, none⟩ (.int .u32 (sumOf S' p : Int))) := (((Fr.refl (fun k => k = wr.heap.size) w1).setCell (p := ⟨wr.heap.size, 0, none⟩) (fun _ => rfl) _).setCell (p := ⟨wr.heap.size, 1, none⟩) (fun _ => rfl) _).setCell (p := ⟨wr.heap.size, 2, none⟩) (fun _ => rfl) _
                     have T9 : Hid (Blk (((w1.setCell ⟨wr.heap.size, 0, none⟩ (.int .i64 ((L : Int) + 1))).setCell ⟨wr.heap.size, 1, none⟩ (.int .i64 ((Z' : Int) + (8 + (M : Int))))).setCell ⟨wr.heap.size, 2, none⟩ (.int .u32 (sumOf S' p : Int))) wr.heap.size 30 #[.int .i64 ((L : Int) + 1), .int .i64 ((Z' : Int) + (8 + (M : Int))), .int .u32 (sumOf S' p : Int)]) := (by
                       have h := ((D9.set_ 0 (.int .i64 ((L : Int) + 1))).set_ 1 (.int .i64 ((Z' : Int) + (8 + (M : Int))))).set_ 2 (.int .u32 (sumOf S' p : Int))
                       simp at h
                       exact h)
                     have F9 := Lib.hid (FA.out.trans hs9 (fun k hk (e : k = wr.heap.size) => by omega))
                     have O9 := Lib.hid (own_fr O1.out hs9 (fun k hk (e : k = wr.heap.size) => own_blk_ne O1.out D9 (by decide) (by rw [hk, e])))
                     have hne13 : wr.heap.size ≠ w2.heap.size := Nat.ne_of_gt hg.out.tl.lt
                     clear D9 hs9 j0 j1 j2 m0 m1 m2 DD
                     generalize (((w1.setCell ⟨wr.heap.size, 0, none⟩ (.int .i64 ((L : Int) + 1))).setCell ⟨wr.heap.size, 1, none⟩ (.int .i64 ((Z' : Int) + (8 + (M : Int))))).setCell ⟨wr.heap.size, 2, none⟩ (.int .u32 (sumOf S' p : Int))) = w9 at *
                     have O9 := Lib.hid (own_base O9.out (base' := w.heap.size) (fun k hk => Nat.le_trans hg.out.fr.size (O9.out.lt k hk).1))
                     generalize wr.heap.size = t13 at *)
                  | (have T9 := Lib.hid (Blk.new w1 30 #[.int .i64 ((L : Int) + 1), .int .i64 ((Z' : Int) + (8 + (M : Int))), .int .u32 (sumOf S' p : Int)])
                     have F9 := Lib.hid (FA.out.alloc (.cells #[.int .i64 ((L : Int) + 1), .int .i64 ((Z' : Int) + (8 + (M : Int))), .int .u32 (sumOf S' p : Int)] 30))
                     have O9 := Lib.hid (own_fr O1.out ((Fr.refl (fun _ => False) w1).alloc (.cells #[.int .i64 ((L : Int) + 1), .int .i64 ((Z' : Int) + (8 + (M : Int))), .int .u32 (sumOf S' p : Int)] 30)) (fun _ _ h => h))
                     have O9 := Lib.hid (own_base O9.out (base' := w.heap.size) (fun k hk => Nat.le_trans hg.out.fr.size (O9.out.lt k hk).1))
                     have hne13 : w1.heap.size ≠ w2.heap.size := by have := hg.out.tl.lt; omega
                     generalize w1.alloc (.cells #[.int .i64 ((L : Int) + 1), .int .i64 ((Z' : Int) + (8 + (M : Int))), .int .u32 (sumOf S' p : Int)] 30) = w9 at *
                     generalize w1.heap.size = t13 at *)
                have F9w := Lib.hid (hg.out.fr.trans F9.out (fun _ _ h => h))
                have T8 := hg.out.tl.fr F9.out (fun h => h)
                have c9 : w9.cell? ⟨b, off + i, none⟩ = some (.slice P M q) := by rw [F9.out.cell (World.block_lt_of_cell? _ _ c0) (fun h => h)]; exact c0
                have HT8 := Lib.hid T8
                have C0 := Lib.hid c0
                clear tl0 tl1 tl2 T8 c0
                go_wp2_with fail
                have hpt := put_c w9 0 0 o HO1.out (by omega) (by omega) (by omega) (by omega) P M q p (RP.out.far F9.out) hq1 hq2 (HN.out.far F9w.out) h16
                refine hpt.mono ?_
                rintro e w10 ⟨v10, rfl, o10, f10⟩
                unfold tailV
                clear hpt
                go_wp2_with fail
                have F11 := Lib.hid ((F9.out.trans f10 (fun _ _ h => h)).alloc (.cells #[.int .i64 1, .int .i64 (8 + (M : Int)), .int .u32 (sumOf o p : Int)] 30))
                have F911 := Lib.hid (f10.alloc (.cells #[.int .i64 1, .int .i64 (8 + (M : Int)), .int .u32 (sumOf o p : Int)] 30))
                have O10 := Lib.hid (own_fr o10 ((Fr.refl (fun _ => False) w10).alloc (.cells #[.int .i64 1, .int .i64 (8 + (M : Int)), .int .u32 (sumOf o p : Int)] 30)) (fun _ _ h => h))
                clear f10 o10
                generalize w10.alloc (.cells #[.int .i64 1, .int .i64 (8 + (M : Int)), .int .u32 (sumOf o p : Int)] 30) = w11 at *
                have TT13 := Lib.hid (T9.out.fr F911.out (fun h => h))
                have TT8 := Lib.hid (HT8.out.fr F911.out (fun h => h))
                have O11 := Lib.hid (own_fr O9.out F911.out (fun _ _ h => h))
                obtain ⟨A1, k1, rfl, hk1, hk1m⟩ := own_slice O11.out
                obtain ⟨A10, k10, rfl, hk10, hk10m⟩ := own_slice O10.out
                have R1 := Lib.hid (Rd.of_own (own_base O11.out (base' := 0) (fun _ _ => Nat.zero_le _)))
                have R10 := Lib.hid (Rd.of_own (own_base O10.out (base' := 0) (fun _ _ => Nat.zero_le _)))
                have cc : w11.cell? ⟨b, off + i, none⟩ = some (.slice P M q) := by rw [F911.out.cell (World.block_lt_of_cell? _ _ c9) (fun h => h)]; exact c9
                have a0 : w11.cell? ⟨t13, 0, none⟩ = some (.int .i64 ((L : Int) + 1)) := TT13.out.cell 0
                have a1 : w11.cell? ⟨t13, 1, none⟩ = some (.int .i64 ((Z' : Int) + (8 + (M : Int)))) := TT13.out.cell 1
                have b0 : w11.cell? ⟨w2.heap.size, 0, none⟩ = some (.int .i64 (L : Int)) := TT8.out.cell 0
                have b1 : w11.cell? ⟨w2.heap.size, 1, none⟩ = some (.int .i64 (Z' : Int)) := TT8.out.cell 1
                have b2 : w11.cell? ⟨w2.heap.size, 2, none⟩ = some (.int .u32 (S' : Int)) := TT8.out.cell 2
                have y1 := fun k => conv_str (w11.drewN k) A1 (8 + M) k1 _ (R1.out.drewN k)
                have y10 := fun k => conv_str (w11.drewN k) A10 (8 + M) k10 _ (R10.out.drewN k)
                obtain ⟨bb, hbb⟩ : ∃ bb : Bool, decide (o = S') = bb := ⟨_, rfl⟩
                have e1 : ((strOf (recB o p)).toList == (strOf (recB S' p)).toList) = bb := by rw [beq_str, recB_dec o S' p HO1.out hS', hbb]
                have e2 : ((o : Int) == (S' : Int)) = bb := by rw [← hbb, Bool.eq_iff_iff]; simp; omega
                have e3 : (bb != bb) = false := by simp
                have n1 : ((L : Int) + 1 != (L : Int) + 1) = false := by simp
                have n2 : ((Z' : Int) + (8 + (M : Int)) != (Z' : Int) + (8 + (M : Int))) = false := by simp
                have hw1 : IntKind.i64.wrap ((L : Int) + 1) = (L : Int) + 1 := wrapi _ (by omega) (by omega)
                have hw2 : IntKind.i64.wrap ((Z' : Int) + (8 + (M : Int))) = (Z' : Int) + (8 + (M : Int)) := wrapi _ (by omega) (by omega)
                have hM0 : (M : Int) ≤ 16384 := by omega
                clear hbb c9
                go_quiet ((go_at_call 19; exact Calls.quiet_of_same ((size_c _ P M q (by omega)).mono fun e w' h => ⟨h.1, h.2.symm⟩)))
                have zz := F9w.out.size
                have zz2 := F911.out.size
                have hz12 : w.heap.size ≤ (w11.drewN nq).heap.size := by show w.heap.size ≤ w11.heap.size; omega
                have F12 : Hid (Fr (fun _ => False) w (w11.drewN nq)) := (F9w.out.trans F911.out (fun _ _ h => h)).drewN nq
                have OB12 : Hid ((w11.drewN nq).ownsRow w.heap.size 5 1 (.slice bA Z' bc) Z' (bv (rowB 0 all))) := own_fr (own_fr hg.out.ob (F9.out.trans F911.out (fun _ _ h => h)) (fun _ _ h => h)) ((Fr.refl (fun _ => False) w11).drewN nq) (fun _ _ h => h)
                have OA12 : Hid ((w11.drewN nq).ownsRow w.heap.size 25 1 (.slice aA L ac) L us') := own_fr (own_fr hg.out.oa (F9.out.trans F911.out (fun _ _ h => h)) (fun _ _ h => h)) ((Fr.refl (fun _ => False) w11).drewN nq) (fun _ _ h => h)
                have R12 := Lib.hid (R1.out.drewN nq)
                have TA := Lib.hid (TT13.out.drewN nq)
                have TB := Lib.hid (TT8.out.drewN nq)
                have CC := Lib.hid (show (w11.drewN nq).cell? ⟨b, off + i, none⟩ = some (.slice P M q) from cc)
                clear a0 a1 b0 b1 b2 y1 y10 e1 e2 e3 n1 n2 hw1 hw2 cc
                generalize w11.drewN nq = w12 at *
                go_wp2_with (first
                | (at_builtin
                   refine wpList_app rfl _ _ _ _ rfl w.heap.size 25 i1 _ 1 24 Tryd.underlying22 hI1.out hy0 hy1 hy2 rfl _ L _ rfl OA14.out _ 1 _ rfl (Src.rd Tryd.underlying22 _ (rd_one w13 25 (.slice P M q)) (by simp [Value.oneCell'])) (by omega) (by unfold maxLen; omega) hz14 ?_
                   intro v15 w15 hown15 hf15 hn15
                   have H15 := Lib.hid hown15
                   have F15 := Lib.hid hf15
                   obtain ⟨A15, k15, rfl, hk15, hk15m⟩ := own_slice hown15
                   have T15 := TA14.out.fr hf15 (fun e => own_blk_ne OA14.out TA14.out (by decide) e)
                   have T15b := TB14.out.fr hf15 (fun e => own_blk_ne OA14.out TB14.out (by decide) e)
                   have x0 : w15.cell? ⟨t13, 0, none⟩ = some (.int .i64 ((L : Int) + 1)) := T15.cell 0
                   have x1 : w15.cell? ⟨t13, 1, none⟩ = some (.int .i64 ((Z' : Int) + (8 + (M : Int)))) := T15.cell 1
                   have x2 : w15.cell? ⟨t13, 2, none⟩ = some (.int .u32 (sumOf S' p : Int)) := T15.cell 2
                   have x3 : w15.cell? ⟨w2.heap.size, 0, none⟩ = some (.int .i64 (L : Int)) := T15b.cell 0
                   have x4 : w15.cell? ⟨w2.heap.size, 1, none⟩ = some (.int .i64 (Z' : Int)) := T15b.cell 1
                   have x5 : w15.cell? ⟨w2.heap.size, 2, none⟩ = some (.int .u32 (S' : Int)) := T15b.cell 2
                   have x6 := T15b.frozen 0
                   have x7 := T15b.frozen 1
                   have x8 := T15b.frozen 2
                   have HT15 := Lib.hid T15b
                   clear hown15 hf15 hn15 hk15m T15 T15b)
                | (at_builtin
                   refine wpList_app rfl _ _ _ _ rfl w.heap.size 5 i0 _ 1 1 Tryd.underlying25 hI.out hz0 hz1 hz2 rfl _ Z' _ rfl OB12.out _ (8 + M) _ rfl (Src.rd Tryd.underlying25 _ R12.out (bv_one _)) (by omega) (by unfold maxLen; omega) hz12 ?_
                   intro v13 w13 hown13 hf13 hn13
                   rw [← bv_append] at hown13
                   have F13 := Lib.hid hf13
                   have H13 := Lib.hid hown13
                   obtain ⟨A13, k13, rfl, hk13, hk13m⟩ := own_slice hown13
                   have OA14 := Lib.hid (own_fr (own_fr OA12.out hf13 (fun k hk hk2 => own_own_ne OA12.out OB12.out (by decide) k hk hk2)) ((Fr.refl (fun _ => False) w13).alloc (.cells #[.slice P M q] 25)) (fun _ _ h => h))
                   have TA14 := Lib.hid ((TA.out.fr hf13 (fun e => own_blk_ne OB12.out TA.out (by decide) e)).alloc (.cells #[.slice P M q] 25))
                   have TB14 := Lib.hid ((TB.out.fr hf13 (fun e => own_blk_ne OB12.out TB.out (by decide) e)).alloc (.cells #[.slice P M q] 25))
                   have hz14 : w.heap.size ≤ (w13.alloc (.cells #[.slice P M q] 25)).heap.size := by have h1 := hf13.size; have h2 := World.size_alloc w13 (.cells #[.slice P M q] 25); omega
                   have c13 : w13.cell? ⟨b, off + i, none⟩ = some (.slice P M q) := (by
                     rw [hf13.cell (World.block_lt_of_cell? _ _ CC.out) (fun e => by
                       have h1 := (OB12.out.lt _ e).1
                       have h2 := World.block_lt_of_cell? _ _ C0W.out
                       simp only at h1 h2
                       omega)]
                     exact CC.out)
                   clear hown13 hf13 hn13 hk13m))
                have G15 := Lib.hid (((F12.out.trans F13.out (fun k hk hq => by have := (OB12.out.lt k hq).1; omega)).alloc (.cells #[.slice P M q] 25)).trans F15.out (fun k hk hq => by have := (OA14.out.lt k hq).1; omega))
                have fset : Fr (fun k => k = w2.heap.size) w15 (((w15.setCell ⟨w2.heap.size, 0, none⟩ (.int .i64 ((L : Int) + 1))).setCell ⟨w2.heap.size, 1, none⟩ (.int .i64 ((Z' : Int) + (8 + (M : Int))))).setCell ⟨w2.heap.size, 2, none⟩ (.int .u32 (sumOf S' p : Int))) := (((Fr.refl (fun k => k = w2.heap.size) w15).setCell (p := ⟨w2.heap.size, 0, none⟩) (fun _ => rfl) _).setCell (p := ⟨w2.heap.size, 1, none⟩) (fun _ => rfl) _).setCell (p := ⟨w2.heap.size, 2, none⟩) (fun _ => rfl) _
                have tset : Blk (((w15.setCell ⟨w2.heap.size, 0, none⟩ (.int .i64 ((L : Int) + 1))).setCell ⟨w2.heap.size, 1, none⟩ (.int .i64 ((Z' : Int) + (8 + (M : Int))))).setCell ⟨w2.heap.size, 2, none⟩ (.int .u32 (sumOf S' p : Int))) w2.heap.size 30 #[.int .i64 ((L : Int) + 1), .int .i64 ((Z' : Int) + (8 + (M : Int))), .int .u32 (sumOf S' p : Int)] := (by
                  have h := ((HT15.out.set_ 0 (.int .i64 ((L : Int) + 1))).set_ 1 (.int .i64 ((Z' : Int) + (8 + (M : Int))))).set_ 2 (.int .u32 (sumOf S' p : Int))
                  simp at h
                  exact h)
                have O15 := own_fr (own_fr H13.out ((Fr.refl (fun _ => False) w13).alloc (.cells #[.slice P M q] 25)) (fun _ _ h => h)) F15.out (fun k hk hq => own_own_ne OA14.out (own_fr H13.out ((Fr.refl (fun _ => False) w13).alloc (.cells #[.slice P M q] 25)) (fun _ _ h => h)) (by decide) k hq hk)
                refine ⟨⟨i + 1, L + 1, Z' + (8 + M), sumOf S' p, all ++ [p], us' ++ [.slice P M q], A13, A15, k13, k15, hlt, rfl, rfl, ?_, ?_⟩, ?_⟩
                · go_num
                · refine hg.out.add (q := q) hil HPP.out (by rw [← HPP.out]; exact HM.out) h16 rfl RPW.out hq1 hq2 ?_ ?_ tset ?_
                  · exact own_fr O15 fset (fun k hk (e : k = w2.heap.size) => own_blk_ne O15 HT15.out (by decide) (by rw [hk, e]))
                  · exact own_fr H15.out fset (fun k hk (e : k = w2.heap.size) => own_blk_ne H15.out HT15.out (by decide) (by rw [hk, e]))
                  · exact G15.out.trans fset (fun k hk (e : k = w2.heap.size) => by have := Z28.out; omega)
                · simp [intOf]; omega
            · have hlong : 16384 < M := by omega
              go_region_held3 (fun w' => w'.cell? ⟨w2.heap.size, 0, none⟩ = some (.int .i64 (L : Int)) ∧ w'.cell? ⟨w2.heap.size, 1, none⟩ = some (.int .i64 (Z' : Int)) ∧ w'.cell? ⟨w2.heap.size, 2, none⟩ = some (.int .u32 (S' : Int)) ∧ w'.cell? ⟨b, off + i, none⟩ = some (.slice P M q))
                (exact heldG hg.out.tl c0 (by with_reducible repeat (first | exact Fr.refl _ _ | exact FA.out | refine Fr.drew ?_ | refine Fr.alloc ?_ _ | refine Fr.setCell ?_ (by intro h; simp only at h; omega) _)))
                (first
                  | (go_at_call 18; refine (put_long _ L Z' S' P M q hlong).mono ?_; rintro e w1 ⟨rfl, f1⟩
                     unfold tailV
                     have FA := Lib.hid (Fr.trans (a := wr) (fp := fun _ => False) (by with_reducible repeat (first | exact Fr.refl _ _ | refine Fr.drew ?_ | refine Fr.alloc ?_ _)) f1 (fun _ _ h => h))
                     first
                       | (have D1 : Blk w1 wr.heap.size 30 #[.int .i64 0, .int .i64 0, .int .u32 0] := (by first | exact (Blk.new wr _ _).fr f1 (fun h => h) | exact (Blk.new wr _ _).drew.fr f1 (fun h => h))
                          have j0 := D1.cell 0
                          have j1 := D1.cell 1
                          have j2 := D1.cell 2
                          have m0 := D1.frozen 0
                          have m1 := D1.frozen 1
                          have m2 := D1.frozen 2
                          have DD := Lib.hid D1
                          clear D1)
                       | skip
                     clear f1))
              all_goals
                try clear DD
                try clear j0 j1 j2 m0 m1 m2
                go_wp2_with fail
                refine ⟨⟨i + 1, L, Z', S', all, us', bA, aA, bc, ac, hlt, rfl, rfl, ?_, ?_⟩, ?_⟩
                · go_num
                · refine hg.out.skip (W := _) ?_ hil (by rw [HM.out]; exact h16)
                  with_reducible repeat (first | exact FA.out | exact Fr.refl _ _ | refine Fr.drew ?_ | refine Fr.alloc ?_ _ | refine Fr.setCell ?_ (by intro h; simp only at h; omega) _)
                · simp [intOf]; omega
          · obtain rfl : i = m := by omega
            obtain ⟨ha, hl, hz, hs, rows, ob, oa, tl, fr⟩ := hg.out
            have h16a : ∀ p ∈ all, p.length ≤ 16384 := fun p hp => by
              rw [ha] at hp
              rcases List.mem_append.1 hp with h | h
              · exact H16.out p h
              · exact fits_all _ p h
            have htl := tells_row all 0 [] h16a
            have htn : tells (rowS 0 all) [] = ([], rowS 0 all) := tells_none (by unfold one; rfl)
            rw [List.append_nil, htn, List.append_nil] at htl
            clear htn
            have HTL := Lib.hid htl
            have T8 := Lib.hid tl
            have FRW := Lib.hid fr
            have OB := Lib.hid ob
            have OA := Lib.hid oa
            have ROWS := Lib.hid rows
            have HLL := Lib.hid hl
            have HZZ := Lib.hid hz
            have HSZ := Lib.hid hs
            have hbc : Z' ≤ bc ∧ bc ≤ maxLen := by
              obtain ⟨A', c', e1, h1, h2⟩ := own_slice ob
              injection e1 with e1 e3 e4
              rw [e4]
              exact ⟨h1, h2⟩
            obtain ⟨hbc, hbcm⟩ := hbc
            have hac : L ≤ ac ∧ ac ≤ maxLen := by
              obtain ⟨A', c', e1, h1, h2⟩ := own_slice oa
              injection e1 with e1 e3 e4
              rw [e4]
              exact ⟨h1, h2⟩
            obtain ⟨hac, hacm⟩ := hac
            have RB := Lib.hid (Rd.of_own (own_base ob (base' := 0) (fun _ _ => Nat.zero_le _)))
            clear ha hl hz hs rows ob oa tl fr h16a htl hg
            go_wp2_with fail
            have hall := all_c wr bA Z' bc (rowB 0 all) RB.out hbc hbcm (HN.out.far FRW.out) (by omega)
            refine hall.mono ?_
            rintro e w9 ⟨v9, rfl, ob9, f9⟩
            clear hall
            rw [HTL.out] at ob9 ⊢
            simp only at ob9 ⊢
            obtain ⟨A9, c9, rfl, rb9, g91, g92⟩ := ob9.rdB
            unfold tailV
            rw [HLL.out] at rb9 g91 ⊢
            rw [HZZ.out, HSZ.out]
            have F9 := Lib.hid ((FRW.out.trans f9 (fun _ _ h => h)).alloc (.cells #[.int .i64 (L : Int), .int .i64 (Z' : Int), .int .u32 (S' : Int)] 30))
            have G9 := Lib.hid (f9.alloc (.cells #[.int .i64 (L : Int), .int .i64 (Z' : Int), .int .u32 (S' : Int)] 30))
            have T9 := Lib.hid (Blk.new w9 30 #[.int .i64 (L : Int), .int .i64 (Z' : Int), .int .u32 (S' : Int)])
            have RB9 := Lib.hid (rb9.far ((Fr.refl (fun _ => False) w9).alloc (.cells #[.int .i64 (L : Int), .int .i64 (Z' : Int), .int .u32 (S' : Int)] 30)))
            have RA9 := Lib.hid ((ROWS.out.fr F9.out).rdB (own_fr OA.out G9.out (fun _ _ h => h)))
            have T89 := Lib.hid (T8.out.fr G9.out (fun h => h))
            unfold maxLen at g92 hacm hbcm
            have hsame := same_c _ _ L c9 _ RB9.out (by omega) _ L ac _ RA9.out (by omega)
            rw [decide_eq_true (rfl : all = all)] at hsame
            have HSM := Lib.hid hsame
            clear hsame ob9 f9 rb9
            go_wp2_with fail
            refine HSM.out.mono ?_
            rintro e w10 ⟨rfl, f10⟩
            have F10 := Lib.hid (F9.out.trans f10 (fun _ _ h => h))
            have U9 := T9.out.fr f10 (fun h => h)
            have U8 := T89.out.fr f10 (fun h => h)
            have x0 := U9.cell 0
            have x1 := U9.cell 1
            have x2 := U9.cell 2
            have x3 := U8.cell 0
            have x4 := U8.cell 1
            have x5 := U8.cell 2
            have n0 : ((L : Int) == (L : Int)) = true := by simp
            have n1 : ((Z' : Int) == (Z' : Int)) = true := by simp
            have n2 : ((S' : Int) == (S' : Int)) = true := by simp
            clear U8 U9 f10
            go_wp2_with fail
            refine (HA.out _ F10.out).mono ?_
            rintro e w12 ⟨rfl, f12⟩
            have F12 := Lib.hid f12
            clear f12
            go_wp2_with fail
            go_ret
            exact ⟨rfl, F12.out⟩
      · clear hrow
        unfold tailV
        have F2 := Lib.hid f2
        clear f2
        go_wp2_with fail
        refine (HA.out _ (F2.out.alloc _)).mono ?_
        rintro e w3 ⟨rfl, f3⟩
        have F3 := Lib.hid f3
        clear f3
        go_wp2_with fail
        go_ret
        exact ⟨rfl, F3.out⟩
end Go.Proofs.YtmaajihpkollcaaDoor
