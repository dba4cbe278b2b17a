/-
  THE WALK of FrameRow.
-/
import Derived.Test.YtmaajihpkollcaaDoorFwp
import Derived.Test.YtmaajihpkollcaaDoorRall
import Derived.Test.YtmaajihpkollcaaDoorFs
import Derived.Deep.RegionHeld3
import Derived.Deep.QuietTactic
import Derived.BigQuiet
import Derived.Deep.DeepCutAuto
namespace Go.Proofs.YtmaajihpkollcaaDoor
set_option linter.unusedSimpArgs false
set_option linter.unusedVariables false
open Go Go.RowKit

theorem tail_info : (Tryd.prog.info? 30).map (fun i => (i.zero, i.size, i.bytes)) = some (some (.agg #[.int .i64 0, .int .i64 0, .int .u32 0]), 3, 24) := by kernel_rfl

/-- What stands at a round's head. -/
structure RwS (w : World) (ls : List (List UInt8)) (i : Nat) (rv tv : Value) (wr : World) : Prop where
  recs : OwnB wr w.heap.size rv (recl 0 (ls.take i))
  tls : wr.ownsRow w.heap.size 30 3 tv (i + 1) (tcs ls i)
  fits : ∀ p ∈ ls.take i, p.length ≤ 16384
  fr : Fr (fun _ => False) w wr

theorem OwnB.fr_other {w w' : World} {base base' : Nat} {v v' : Value} {e : TypeId} {s n : Nat} {xs : List Value} {ls : List (List UInt8)} (h : OwnB w base v ls) (ho : w.ownsRow base' e s v' n xs) (h1 : e ≠ 25) (h2 : e ≠ 5) (hf : Fr (fun k => v'.ownBlock = some k) w w') : OwnB w' base v ls := by
  obtain ⟨us, g1, g2, g3⟩ := h
  refine ⟨us, own_fr g1 hf (fun k hk hk2 => own_own_ne ho g1 h1 k hk2 hk), g2, fun i hi => ?_⟩
  obtain ⟨u, g4, g5⟩ := g3 i hi
  exact ⟨u, g4, own_fr g5 hf (fun k hk hk2 => own_own_ne ho g5 h2 k hk2 hk)⟩
theorem tc3_next (ls : List (List UInt8)) (i Z S M : Nat) (p : List UInt8) (hi : i < ls.length) (hp : ls[i] = p) (hM : p.length = M) (hZ : sizes (ls.take i) = Z) (hS : rowS 0 (ls.take i) = S) :
    tc3 ls (i + 1) = [.int .i64 ((i : Int) + 1), .int .i64 ((Z : Int) + (8 + (M : Int))), .int .u32 (sumOf S p : Int)] := by
  have h1 : sizes (ls.take (i + 1)) = Z + (8 + M) := by rw [sizes_succ ls i hi, hZ, hp, hM]
  have h2 : rowS 0 (ls.take (i + 1)) = sumOf S p := by rw [List.take_succ_eq_append_getElem hi, rowS_append, hS, hp]; rfl
  unfold tc3
  rw [h1, h2]
  have e1 : (((i + 1 : Nat)) : Int) = (i : Int) + 1 := by omega
  have e2 : (((Z + (8 + M) : Nat)) : Int) = (Z : Int) + (8 + (M : Int)) := by omega
  rw [e1, e2]
theorem recB_len (s : Nat) (p : List UInt8) (M : Nat) (h : p.length = M) : (recB s p).length = 8 + M := by rw [recB_length, h]

set_option maxRecDepth 100000 in
set_option maxHeartbeats 4000000 in
theorem frameRow_c (w : World) (A : Option Addr) (n c : Nat) (ls : List (List UInt8)) (hr : RdB w A n ls) (hn : n ≤ c) (hc : c ≤ 140737488355328) (hp : ∀ p ∈ ls, p.length ≤ 140737488355328)
    (q0 q1 q2 : Int) (g0 : -9223372036854775808 ≤ q0) (g1 : q0 ≤ 9223372036854775807) (g2 : -9223372036854775808 ≤ q1) (g3 : q1 ≤ 9223372036854775807) (g4 : -9223372036854775808 ≤ q2) (g5 : q2 ≤ 9223372036854775807) (hN : Nb w) :
    Calls Tryd.prog 7 #[.slice A n c, .int .i64 q0, .int .i64 q1, .int .i64 q2] w fun e w' => e = .returned (.bool true) ∧ Fr (fun _ => False) w w' := by
  obtain ⟨i0, hi, hz0, hz1, hz2⟩ := info_parts u8_info
  obtain ⟨i1, hi1, hy0, hy1, hy2⟩ := info_parts bytes_info
  obtain ⟨i2, hi2, hx0, hx1, hx2⟩ := info_parts tail_info
  have hawake : ∀ W, Fr (fun _ => False) w W → Calls Tryd.prog 10 #[] W fun e w' => e = .returned (.bool true) ∧ Fr (fun _ => False) w w' := fun W hW =>
    (awake_c W (hN.far hW)).mono fun e w' h => ⟨h.1, hW.trans h.2 (fun _ _ h => h)⟩
  have HA := Lib.hid hawake
  have HR := Lib.hid hr
  have HN := Lib.hid hN
  have HP := Lib.hid hp
  have hI := Lib.hid hi
  have hI1 := Lib.hid hi1
  have hI2 := Lib.hid hi2
  have hg := Lib.hid (And.intro (And.intro g0 g1) (And.intro (And.intro g2 g3) (And.intro g4 g5)))
  clear hr hN hp hi hi1 hi2 hawake g0 g1 g2 g3 g4 g5
  go_enter Tryd.func7, Tryd.ntmps7
  go_wp2_with fail
  refine (long_c w A n c ls HR.out (by omega) HP.out).mono ?_
  rintro e w1 ⟨rfl, rfl | ⟨rfl, hb⟩⟩
  · go_wp2_with fail
    refine (HA.out w (Fr.refl _ w)).mono ?_
    rintro e w2 ⟨rfl, f2⟩
    have F2 := Lib.hid f2
    clear f2
    go_wp2_with fail
    go_ret
    exact ⟨rfl, F2.out⟩
  · have HB := Lib.hid hb
    clear hb
    by_cases hn0 : n = 0
    · subst hn0
      go_wp2_with fail
      refine (HA.out w (Fr.refl _ w)).mono ?_
      rintro e w2 ⟨rfl, f2⟩
      have F2 := Lib.hid f2
      clear f2
      go_wp2_with fail
      go_ret
      exact ⟨rfl, F2.out⟩
    · have hnpos : 0 < n := by omega
      have hne0 : ((n : Int) == 0) = false := by simp; omega
      clear hn0
      have hn6 : n ≤ 60000 := by have := HB.out; have := bulk_len ls; have := HR.out.1; omega
      have hsz := sizes_bulk ls
      have hsz6 : sizes ls ≤ 480000 := by have := HB.out; omega
      have HSZ := Lib.hid hsz6
      clear hsz hsz6
      go_wp2_with fail
      have T0 := Lib.hid (Blk.new w 30 #[.int .i64 0, .int .i64 0, .int .u32 0])
      have F0 := Lib.hid ((Fr.refl (fun _ => False) w).alloc (.cells #[.int .i64 0, .int .i64 0, .int .u32 0] 30))
      go_loopw [9, 10, 11] (fun rv tv iv wr => ∃ (i : Nat) (rA tA : Option Addr) (rc tcp : Nat), i ≤ n ∧ rv = .slice rA i rc ∧ tv = .slice tA (i + 1) tcp ∧ iv = .int .i64 i ∧ Hid (RwS w ls i (.slice rA i rc) (.slice tA (i + 1) tcp) wr)) (fun _ _ iv _ => n - (intOf iv).toNat)
      case atStart =>
        refine ⟨0, none, some ⟨w.heap.size, 0, none⟩, 0, 1, Nat.zero_le _, rfl, rfl, rfl, ⟨OwnB.nil _ _, ?_, by simp, F0.out⟩⟩
        exact ⟨rfl, .inr ⟨w.heap.size, 1, _, rfl, Nat.le_refl _, T0.out, Nat.le_refl _, by unfold maxLen; omega, rfl, rfl⟩⟩
      case round =>
        obtain ⟨i, rA, tA, rc, tcp, hin, rfl, rfl, rfl, hst⟩ := hrel
        by_cases hlt : i < n
        · as_aux_lemma =>
          obtain ⟨b, off, rfl, hc⟩ := HR.out.2 (by omega)
          have hil : i < ls.length := by rw [HR.out.1]; exact hlt
          obtain ⟨P, q, c0, r0, hq1, hq2⟩ := hc i hil
          obtain ⟨M, hM⟩ : ∃ M, (ls[i]).length = M := ⟨_, rfl⟩
          rw [hM] at c0 r0 hq1
          have c00 : wr.cell? ⟨b, off + i, none⟩ = some (.slice P M q) := by rw [hst.out.fr.cell (World.block_lt_of_cell? _ _ c0) (fun h => h)]; exact c0
          have RP := Lib.hid (r0.far hst.out.fr)
          have HM := Lib.hid hM
          clear c0 hc r0 hM
          have hbS : rowS 0 (ls.take i) < 4294967296 := rowS_lt _ _ (by omega)
          have hbZ : sizes (ls.take i) ≤ 480000 := Nat.le_trans (sizes_take ls i) HSZ.out
          obtain ⟨g, tcap, hv, hgb, hgl⟩ := hst.out.tls.form (by omega)
          injection hv with hv1 hv2 hv3
          subst hv1 hv3
          have hcl := hst.out.tls.cells (g := g) rfl
          have t0 := hcl (i * 3 + 0) _ (by rw [tcs_get ls i i 0 (Nat.le_refl _) (by omega)]; rfl)
          have t1 := hcl (i * 3 + 1) _ (by rw [tcs_get ls i i 1 (Nat.le_refl _) (by omega)]; rfl)
          have t2 := hcl (i * 3 + 2) _ (by rw [tcs_get ls i i 2 (Nat.le_refl _) (by omega)]; rfl)
          rw [Addr.add_lit] at t0 t1 t2
          rw [Nat.zero_add] at t0 t1 t2
          rw [Nat.add_zero] at t0
          obtain ⟨S, hS⟩ : ∃ S, rowS 0 (ls.take i) = S := ⟨_, rfl⟩
          obtain ⟨Z, hZ⟩ : ∃ Z, sizes (ls.take i) = Z := ⟨_, rfl⟩
          rw [hS] at t2 hbS
          rw [hZ] at t1 hbZ
          have HS := Lib.hid hS
          have HZ := Lib.hid hZ
          clear hS hZ hcl
          obtain ⟨m1, hm1⟩ : ∃ m1, i + 1 = m1 := ⟨_, rfl⟩
          have him : i < m1 := by omega
          have HTLS : Hid (wr.ownsRow w.heap.size 30 3 (.slice (some ⟨g, 0, none⟩) m1 tcp) m1 (tcs ls i)) := by rw [← hm1]; exact hst.out.tls
          have hm6 : m1 ≤ 60000 := by omega
          rw [hm1]
          have HM1 := Lib.hid hm1
          clear hm1 hv2
          go_wp2_with fail
          by_cases h16 : M ≤ 16384
          · as_aux_lemma =>
            obtain ⟨p, hp⟩ : ∃ p, ls[i] = p := ⟨_, rfl⟩
            rw [hp] at RP
            have HPP := Lib.hid hp
            clear hp
            have hsl := sumOf_lt S p
            go_region_held3 (fun w' => w'.cell? ⟨g, i * 3, none⟩ = some (.int .i64 (i : Int)) ∧ w'.cell? ⟨g, i * 3 + 1, none⟩ = some (.int .i64 (Z : Int)) ∧ w'.cell? ⟨g, i * 3 + 2, none⟩ = some (.int .u32 (S : Int)) ∧ w'.cell? ⟨b, off + i, none⟩ = some (.slice P M q))
              (exact heldR t0 t1 t2 c00 (by with_reducible repeat (first | exact Fr.refl _ _ | exact FA.out | refine Fr.drew ?_ | refine Fr.alloc ?_ _ | refine Fr.setCell ?_ (by intro h; simp only at h; omega) _)))
              (first
                | (go_at_call 18; refine (put_c _ i Z S hbS (by omega) (by omega) (by omega) (by omega) P M q p (RP.out.far (by with_reducible repeat (first | exact Fr.refl _ _ | refine Fr.drew ?_ | refine Fr.alloc ?_ _))) hq1 hq2 (HN.out.far (hst.out.fr.trans (by with_reducible repeat (first | exact Fr.refl _ _ | refine Fr.drew ?_ | refine Fr.alloc ?_ _)) (fun _ _ h => h))) h16).mono ?_; rintro e w1 ⟨v1, rfl, o1, f1⟩
                   unfold tailV
                   have FA := Lib.hid (Fr.trans (a := wr) (fp := fun _ => False) (by with_reducible repeat (first | exact Fr.refl _ _ | refine Fr.drew ?_ | refine Fr.alloc ?_ _)) f1 (fun _ _ h => h))
                   have zA := FA.out.size
                   have O1 : Hid (w1.ownsRow wr.heap.size 5 1 v1 (8 + M) (bv (recB S p))) := own_base o1 (fun k hk => Nat.le_trans (Fr.size (fp := fun _ => False) (w := wr) (by with_reducible repeat (first | exact Fr.refl _ _ | refine Fr.drew ?_ | refine Fr.alloc ?_ _))) (o1.lt k hk).1)
                   first
                     | (have D1 : Blk w1 wr.heap.size 30 #[.int .i64 0, .int .i64 0, .int .u32 0] := (by first | exact (Blk.new wr _ _).fr f1 (fun h => h) | exact (Blk.new wr _ _).drew.fr f1 (fun h => h))
                        have j0 := D1.cell 0
                        have j1 := D1.cell 1
                        have j2 := D1.cell 2
                        have m0 := D1.frozen 0
                        have m1 := D1.frozen 1
                        have m2 := D1.frozen 2
                        have DD := Lib.hid D1
                        clear D1)
                     | skip
                   clear f1 o1))
            all_goals
              first
                | (have D9 := DD.out
                   have hs9 : Fr (fun k => k = wr.heap.size) w1 (((w1.setCell ⟨wr.heap.size, 0, none⟩ (.int .i64 ((i : Int) + 1))).setCell ⟨wr.heap.size, 1, none⟩ (.int .i64 ((Z : Int) + (8 + (M : Int))))).setCell ⟨wr.heap.size, 2, none⟩ (.int .u32 (sumOf S p : Int))) := (((Fr.refl (fun k => k = wr.heap.size) w1).setCell (p := ⟨wr.heap.size, 0, none⟩) (fun _ => rfl) _).setCell (p := ⟨wr.heap.size, 1, none⟩) (fun _ => rfl) _).setCell (p := ⟨wr.heap.size, 2, none⟩) (fun _ => rfl) _
                   have T9 : Hid (Blk (((w1.setCell ⟨wr.heap.size, 0, none⟩ (.int .i64 ((i : Int) + 1))).setCell ⟨wr.heap.size, 1, none⟩ (.int .i64 ((Z : Int) + (8 + (M : Int))))).setCell ⟨wr.heap.size, 2, none⟩ (.int .u32 (sumOf S p : Int))) wr.heap.size 30 #[.int .i64 ((i : Int) + 1), .int .i64 ((Z : Int) + (8 + (M : Int))), .int .u32 (sumOf S p : Int)]) := (by
                     have h := ((D9.set_ 0 (.int .i64 ((i : Int) + 1))).set_ 1 (.int .i64 ((Z : Int) + (8 + (M : Int))))).set_ 2 (.int .u32 (sumOf S p : Int))
                     simp at h
                     exact h)
                   have F9 := Lib.hid (FA.out.trans hs9 (fun k hk (e : k = wr.heap.size) => by omega))
                   have O9 := Lib.hid (own_fr O1.out hs9 (fun k hk (e : k = wr.heap.size) => own_blk_ne O1.out D9 (by decide) (by rw [hk, e])))
                   have hne13 : wr.heap.size ≠ g := by omega
                   clear D9 hs9 j0 j1 j2 m0 m1 m2 DD
                   generalize (((w1.setCell ⟨wr.heap.size, 0, none⟩ (.int .i64 ((i : Int) + 1))).setCell ⟨wr.heap.size, 1, none⟩ (.int .i64 ((Z : Int) + (8 + (M : Int))))).setCell ⟨wr.heap.size, 2, none⟩ (.int .u32 (sumOf S p : Int))) = w9 at *
                   have O9W := Lib.hid (own_base O9.out (base' := w.heap.size) (fun k hk => Nat.le_trans hst.out.fr.size (O9.out.lt k hk).1))
                   generalize wr.heap.size = t13 at *)
                | (have T9 := Lib.hid (Blk.new w1 30 #[.int .i64 ((i : Int) + 1), .int .i64 ((Z : Int) + (8 + (M : Int))), .int .u32 (sumOf S p : Int)])
                   have F9 := Lib.hid (FA.out.alloc (.cells #[.int .i64 ((i : Int) + 1), .int .i64 ((Z : Int) + (8 + (M : Int))), .int .u32 (sumOf S p : Int)] 30))
                   have O9 := Lib.hid (own_fr O1.out ((Fr.refl (fun _ => False) w1).alloc (.cells #[.int .i64 ((i : Int) + 1), .int .i64 ((Z : Int) + (8 + (M : Int))), .int .u32 (sumOf S p : Int)] 30)) (fun _ _ h => h))
                   have O9W := Lib.hid (own_base O9.out (base' := w.heap.size) (fun k hk => Nat.le_trans hst.out.fr.size (O9.out.lt k hk).1))
                   have hne13 : w1.heap.size ≠ g := by omega
                   generalize w1.alloc (.cells #[.int .i64 ((i : Int) + 1), .int .i64 ((Z : Int) + (8 + (M : Int))), .int .u32 (sumOf S p : Int)] 30) = w9 at *
                   generalize w1.heap.size = t13 at *)
              have F9w := Lib.hid (hst.out.fr.trans F9.out (fun _ _ h => h))
              clear t0 t1 t2 c00 zA hgl
              obtain ⟨A1, k1, rfl, hk1, hk1m⟩ := own_slice O9.out
              obtain ⟨us, u1, u2, u3⟩ := hst.out.recs.fr F9.out (fun _ _ h => h)
              have hli : (recl 0 (ls.take i)).length = i := by rw [recl_length, List.length_take]; omega
              rw [hli] at u1 u2
              have OR := Lib.hid (own_fr u1 ((Fr.refl (fun _ => False) w9).alloc (.cells #[.slice A1 (8 + M) k1] 25)) (fun _ _ h => h))
              have U2 := Lib.hid u2
              have U3 := Lib.hid u3
              have HLI := Lib.hid hli
              have hz9 : w.heap.size ≤ (w9.alloc (.cells #[.slice A1 (8 + M) k1] 25)).heap.size := by have h1 := F9w.out.size; have h2 := World.size_alloc w9 (.cells #[.slice A1 (8 + M) k1] 25); omega
              clear u1 u2 u3 hli
              go_wp2_with (first
                | (at_builtin
                   refine wpList_app rfl _ _ _ _ rfl w.heap.size 30 i2 _ 3 24 Tryd.underlying43 hI2.out hx0 hx1 hx2 rfl _ m1 _ rfl OT12.out _ 1 _ rfl (Src.ofSlice _ Tryd.underlying43 _ 1 1 _ rfl SN12.out SO12.out) (by omega) (by unfold maxLen; omega) hz12 ?_
                   intro v15 w15 hown15 hf15 hn15
                   have H15 := Lib.hid hown15
                   have F15 := Lib.hid hf15
                   obtain ⟨A15, k15, rfl, hk15, hk15m⟩ := own_slice hown15
                   clear hown15 hf15 hn15 hk15m)
                | (at_builtin
                   refine wpList_app rfl _ _ _ _ rfl w.heap.size 25 i1 _ 1 24 Tryd.underlying22 hI1.out hy0 hy1 hy2 rfl _ i _ rfl OR.out _ 1 _ rfl (Src.rd Tryd.underlying22 _ (rd_one w9 25 (.slice A1 (8 + M) k1)) (by simp [Value.oneCell'])) (by omega) (by unfold maxLen; omega) hz9 ?_
                   intro v11 w11 hown11 hf11 hn11
                   have H11 := Lib.hid hown11
                   have F11 := Lib.hid hf11
                   obtain ⟨A11, k11, rfl, hk11, hk11m⟩ := own_slice hown11
                   have T11 := (T9.out.alloc (.cells #[.slice A1 (8 + M) k1] 25)).fr hf11 (fun e => own_blk_ne OR.out (T9.out.alloc (.cells #[.slice A1 (8 + M) k1] 25)) (by decide) e)
                   have x0 : w11.cell? ⟨t13, 0, none⟩ = some (.int .i64 ((i : Int) + 1)) := T11.cell 0
                   have x1 : w11.cell? ⟨t13, 1, none⟩ = some (.int .i64 ((Z : Int) + (8 + (M : Int)))) := T11.cell 1
                   have x2 : w11.cell? ⟨t13, 2, none⟩ = some (.int .u32 (sumOf S p : Int)) := T11.cell 2
                   have OT9 := own_fr HTLS.out (F9.out.alloc (.cells #[.slice A1 (8 + M) k1] 25)) (fun _ _ h => h)
                   have OT11 := own_fr OT9 hf11 (fun k hk hk2 => own_own_ne OT9 OR.out (by decide) k hk hk2)
                   have OT12 := Lib.hid (own_fr OT11 ((Fr.refl (fun _ => False) w11).alloc (.cells #[.int .i64 ((i : Int) + 1), .int .i64 ((Z : Int) + (8 + (M : Int))), .int .u32 (sumOf S p : Int)] 30)) (fun _ _ h => h))
                   have SN12 : Hid (∀ j u, ([.int .i64 ((i : Int) + 1), .int .i64 ((Z : Int) + (8 + (M : Int))), .int .u32 (sumOf S p : Int)] : List Value)[j]? = some u → (w11.alloc (.cells #[.int .i64 ((i : Int) + 1), .int .i64 ((Z : Int) + (8 + (M : Int))), .int .u32 (sumOf S p : Int)] 30)).cell? ((⟨w11.heap.size, 0, none⟩ : Addr).add j) = some u) := (fun j u hu => by
                     rw [Addr.add_lit, Nat.zero_add, (Blk.new w11 30 #[.int .i64 ((i : Int) + 1), .int .i64 ((Z : Int) + (8 + (M : Int))), .int .u32 (sumOf S p : Int)]).cell]
                     rw [← hu]
                     simp)
                   have SO12 : Hid (∀ u ∈ ([.int .i64 ((i : Int) + 1), .int .i64 ((Z : Int) + (8 + (M : Int))), .int .u32 (sumOf S p : Int)] : List Value), u.oneCell' = true) := (by
                     show ∀ u ∈ _, _
                     simp [Value.oneCell'])
                   have hz12 : w.heap.size ≤ (w11.alloc (.cells #[.int .i64 ((i : Int) + 1), .int .i64 ((Z : Int) + (8 + (M : Int))), .int .u32 (sumOf S p : Int)] 30)).heap.size := (by have h1 := hf11.size; have h2 := World.size_alloc w11 (.cells #[.int .i64 ((i : Int) + 1), .int .i64 ((Z : Int) + (8 + (M : Int))), .int .u32 (sumOf S p : Int)] 30); omega)
                   clear hown11 hf11 hn11 hk11m T11 OT9 OT11))
              have hpM : p.length = M := by rw [← HPP.out]; exact HM.out
              have B11 := OwnB.snoc OR.out HLI.out ⟨U2.out, fun j hj => by
                obtain ⟨u, e1, e2⟩ := U3.out j hj
                exact ⟨u, e1, own_fr e2 ((Fr.refl (fun _ => False) w9).alloc (.cells #[.slice A1 (8 + M) k1] 25)) (fun _ _ h => h)⟩⟩ (own_fr O9W.out ((Fr.refl (fun _ => False) w9).alloc (.cells #[.slice A1 (8 + M) k1] 25)) (fun _ _ h => h)) (recB_len S p M hpM) H11.out F11.out
              have B15 := (B11.fr ((Fr.refl (fun _ => False) w11).alloc (.cells #[.int .i64 ((i : Int) + 1), .int .i64 ((Z : Int) + (8 + (M : Int))), .int .u32 (sumOf S p : Int)] 30)) (fun _ _ h => h)).fr_other OT12.out (by decide) (by decide) F15.out
              have G15 := ((((F9w.out.alloc (.cells #[.slice A1 (8 + M) k1] 25)).trans F11.out (fun k hk hq => by have := (OR.out.lt k hq).1; omega)).alloc (.cells #[.int .i64 ((i : Int) + 1), .int .i64 ((Z : Int) + (8 + (M : Int))), .int .u32 (sumOf S p : Int)] 30)).trans F15.out (fun k hk hq => by have := (OT12.out.lt k hq).1; omega))
              have hrs := recl_snoc ls i hil
              rw [HS.out, HPP.out] at hrs
              have htc := tc3_next ls i Z S M p hil HPP.out hpM HZ.out HS.out
              have hm1 := HM1.out
              subst hm1
              refine ⟨⟨i + 1, A11, A15, k11, k15, hlt, rfl, rfl, ?_, ⟨?_, ?_, ?_, G15⟩⟩, ?_⟩
              · go_num
              · rw [hrs]; exact B15
              · rw [tcs, htc]; exact H15.out
              · intro x hx
                rw [List.take_succ_eq_append_getElem hil, List.mem_append] at hx
                rcases hx with hx | hx
                · exact hst.out.fits x hx
                · rw [List.mem_singleton.1 hx, HM.out]; exact h16
              · simp [intOf]; omega
          · as_aux_lemma =>
            have hlong : 16384 < M := by omega
            go_region_held3 (fun w' => w'.cell? ⟨g, i * 3, none⟩ = some (.int .i64 (i : Int)) ∧ w'.cell? ⟨g, i * 3 + 1, none⟩ = some (.int .i64 (Z : Int)) ∧ w'.cell? ⟨g, i * 3 + 2, none⟩ = some (.int .u32 (S : Int)) ∧ w'.cell? ⟨b, off + i, none⟩ = some (.slice P M q))
              (exact heldR t0 t1 t2 c00 (by with_reducible repeat (first | exact Fr.refl _ _ | exact FA.out | refine Fr.drew ?_ | refine Fr.alloc ?_ _ | refine Fr.setCell ?_ (by intro h; simp only at h; omega) _)))
              (first
                | (go_at_call 18; refine (put_long _ i Z S P M q hlong).mono ?_; rintro e w1 ⟨rfl, f1⟩
                   unfold tailV
                   have FA := Lib.hid (Fr.trans (a := wr) (fp := fun _ => False) (by with_reducible repeat (first | exact Fr.refl _ _ | refine Fr.drew ?_ | refine Fr.alloc ?_ _)) f1 (fun _ _ h => h))
                   first
                     | (have D1 : Blk w1 wr.heap.size 30 #[.int .i64 0, .int .i64 0, .int .u32 0] := (by first | exact (Blk.new wr _ _).fr f1 (fun h => h) | exact (Blk.new wr _ _).drew.fr f1 (fun h => h))
                        have j0 := D1.cell 0
                        have j1 := D1.cell 1
                        have j2 := D1.cell 2
                        have m0 := D1.frozen 0
                        have m1' := D1.frozen 1
                        have m2 := D1.frozen 2
                        clear D1)
                     | skip
                   clear f1))
            all_goals
              go_wp2_with fail
              refine (HA.out _ (hst.out.fr.trans (w' := _) ?_ (fun _ _ h => h))).mono ?_
              · with_reducible repeat (first | exact FA.out | exact Fr.refl _ _ | refine Fr.drew ?_ | refine Fr.alloc ?_ _ | refine Fr.setCell ?_ (by intro h; simp only at h; omega) _)
              · rintro e w3 ⟨rfl, f3⟩
                have F3 := Lib.hid f3
                clear f3
                go_wp2_with fail
                go_ret
                exact ⟨rfl, F3.out⟩
        · as_aux_lemma =>
          obtain rfl : i = n := by omega
          obtain ⟨hrecs, htls, hfits, hfr⟩ := hst.out
          have hlen : ls.length = i := HR.out.1
          rw [List.take_of_length_le (by omega)] at hrecs hfits
          obtain ⟨us, u1, u2⟩ := hrecs.vals
          have hrl : (recl 0 ls).length = i := by rw [recl_length]; exact hlen
          rw [hrl] at u1
          obtain ⟨rg, rcap, hv, hrgb, hrgl⟩ := u1.form hnpos
          injection hv with hv1 hv2 hv3
          subst hv1 hv3
          have hrcb : i ≤ rc ∧ rc ≤ maxLen := by
            obtain ⟨A', c', e1, h1, h2⟩ := own_slice u1
            injection e1 with e1 e2 e3
            rw [e3]
            exact ⟨h1, h2⟩
          obtain ⟨hrc, hrcm⟩ := hrcb
          obtain ⟨tg, tcap, hv, htgb, htgl⟩ := htls.form (by omega)
          injection hv with hv1 hv2 hv3
          subst hv1 hv3
          have FRW := Lib.hid hfr
          have HFT := Lib.hid hfits
          have RV := Lib.hid u2
          have RU := Lib.hid (Rd.of_own (own_base u1 (base' := 0) (fun _ _ => Nat.zero_le _)))
          have HTC := Lib.hid (htls.cells (g := tg) rfl)
          have HLEN := Lib.hid hlen
          have HRL := Lib.hid hrl
          have huo : us.length = i := RU.out.1
          have HUO := Lib.hid huo
          obtain ⟨m1, hm1⟩ : ∃ m1, i + 1 = m1 := ⟨_, rfl⟩
          rw [hm1]
          have him : i < m1 := by omega
          have hm6 : m1 ≤ 60001 := by omega
          have HM1 := Lib.hid hm1
          clear hm1
          obtain ⟨X0, hX0, x0⟩ := mask_i64 q0 65535 (by omega)
          have x0 : bits .and .i64 q0 65535 = (X0 : Int) := x0
          obtain ⟨K, hK⟩ : ∃ K, K = X0 % i := ⟨_, rfl⟩
          have hKn : K < i := by rw [hK]; exact Nat.mod_lt _ hnpos
          have hK2 : ((X0 : Int) % (i : Int)) = (K : Int) := by rw [hK]; omega
          clear hrecs htls hfits hfr hst u1 u2 hlen hrl huo hK hv2 T0 F0
          go_wp2_with fail
          try rw [hK2]
          clear hK2 x0
          have hw1 : IntKind.i64.wrap ((K : Int) + 1) = (K : Int) + 1 := wrapi _ (by omega) (by omega)
          have hk0 : (0 : Int) ≤ (K : Int) + 1 := by omega
          have hkt : ((K : Int) + 1).toNat = K + 1 := by omega
          have hkr : (K : Int) + 1 ≤ (i : Int) := by omega
          have hkr2 : (K : Int) ≤ (rc : Int) := by omega
          have zr := FRW.out.size
          go_cut [16] (fun av wx => ∃ (aA : Option Addr) (L cap : Nat) (al : List (List UInt8)), av = .slice aA L cap ∧ L ≤ cap ∧ cap ≤ maxLen ∧ Hid (al = (tells 0 ((recl 0 ls).take K ++ (recl 0 ls).drop (K + 1)).flatten).1) ∧ Hid (RdB wx aA L al) ∧ Hid (Fr (fun _ => False) wr wx))
          case first =>
            as_aux_lemma =>
            have hfl : ((recl 0 ls).take K ++ (recl 0 ls).drop (K + 1)).flatten.length ≤ 480000 := by
              refine Nat.le_trans ?_ HSZ.out
              rw [← recl_sum 0 ls, List.flatten_append, List.length_append]
              have h := congrArg List.length (congrArg List.flatten (List.take_append_drop (K + 1) (recl 0 ls)))
              rw [List.flatten_append, List.length_append] at h
              have h2 : ((recl 0 ls).take K).flatten.length ≤ ((recl 0 ls).take (K + 1)).flatten.length := by
                rw [List.take_add_one]
                simp
              omega
            have HFL := Lib.hid hfl
            obtain ⟨FL, hFL⟩ : ∃ FL, ((recl 0 ls).take K ++ (recl 0 ls).drop (K + 1)).flatten = FL := ⟨_, rfl⟩
            obtain ⟨Z3, hZ3⟩ : ∃ Z3, ((recl 0 ls).take K ++ (recl 0 ls).drop (K + 1)).flatten.length = Z3 := ⟨_, rfl⟩
            have HFLE := Lib.hid hFL
            have HZ3 := Lib.hid hZ3
            have hZ36 : Z3 ≤ 480000 := by rw [← hZ3]; exact hfl
            clear hFL hZ3 hfl
            obtain ⟨AD, had, hs8⟩ := slice_from (some ⟨rg, 0, none⟩) i rc (K + 1) ((K : Int) + 1) (by omega) (by omega) hrc
            have HADR := Lib.hid had
            clear had
            go_region_held3 (fun _ => True) (trivial)
              (first
                | (go_at_call 13; refine (all_c _ A3 (Z3) k3 FL ?_ hk3 hk3m (HN.out.far ?_) (by omega)).mono ?_
                   · exact Rd.of_own (own_base (own_fr O3.out (fp := fun _ => False) (by with_reducible repeat (first | exact Fr.refl _ _ | refine Fr.drew ?_ | refine Fr.alloc ?_ _)) (fun _ _ h => h)) (base' := 0) (fun _ _ => Nat.zero_le _))
                   · exact FRW.out.trans (by with_reducible repeat (first | exact FA4.out | exact FA3.out | exact FA2.out | exact FA1.out | exact Fr.refl _ _ | refine Fr.drew ?_ | refine Fr.alloc ?_ _)) (fun _ _ h => h)
                   rintro e w4 ⟨v4, rfl, ob4, f4⟩
                   unfold tailV
                   have FA4 := Lib.hid (Fr.trans (a := wr) (fp := fun _ => False) (by with_reducible repeat (first | exact FA4.out | exact FA3.out | exact FA2.out | exact FA1.out | exact Fr.refl _ _ | refine Fr.drew ?_ | refine Fr.alloc ?_ _)) f4 (fun _ _ h => h))
                   obtain ⟨A4, c4, rfl, -, g41, g42⟩ := ob4.rdB
                   have OB4 := Lib.hid ob4
                   first
                     | (have D4 : Blk w4 w3.heap.size 30 #[.int .i64 0, .int .i64 0, .int .u32 0] := Blk.fr (by with_reducible exact Blk.new w3 _ _) f4 (fun h => h)
                        have HB17 := Lib.hid (And.intro (show w3.heap.size < w3.heap.size + 1 by omega) FA3.out.size)
                        have OB5 := Lib.hid (OB4.out.base (base' := w3.heap.size + 1) (by rw [World.size_alloc]; exact Nat.le_refl _))
                        have j0 := D4.cell 0
                        have j1 := D4.cell 1
                        have j2 := D4.cell 2
                        have m0 := D4.frozen 0
                        have m1 := D4.frozen 1
                        have m2 := D4.frozen 2
                        clear D4)
                     | (have D4 := DT.out.fr f4 (fun h => h)
                        have HB17 := Lib.hid (And.intro DT.out.lt GE17.out)
                        have OB5 := OB4
                        have j0 := D4.cell 0
                        have j1 := D4.cell 1
                        have j2 := D4.cell 2
                        have m0 := D4.frozen 0
                        have m1 := D4.frozen 1
                        have m2 := D4.frozen 2
                        clear D4)
                     | skip
                   clear f4 ob4)
                | (go_at_call 20; refine (join_c _ A2 (K + (i - (K + 1))) k2 ((recl 0 ls).take K ++ (recl 0 ls).drop (K + 1)) ?_ (by omega) (by have := HFL.out; omega)).mono ?_
                   · exact RowsV.rdB (((RV.out.take K).append (RV.out.drop (K + 1))).fr (by with_reducible repeat (first | exact FA4.out | exact FA3.out | exact FA2.out | exact FA1.out | exact Fr.refl _ _ | refine Fr.drew ?_ | refine Fr.alloc ?_ _))) (own_fr O2.out (fp := fun _ => False) (by with_reducible repeat (first | exact Fr.refl _ _ | refine Fr.drew ?_ | refine Fr.alloc ?_ _)) (fun _ _ h => h))
                   rintro e w3 ⟨v3, rfl, o3, f3⟩
                   rw [HZ3.out, HFLE.out] at o3
                   have FA3 := Lib.hid (Fr.trans (a := wr) (fp := fun _ => False) (by with_reducible repeat (first | exact FA4.out | exact FA3.out | exact FA2.out | exact FA1.out | exact Fr.refl _ _ | refine Fr.drew ?_ | refine Fr.alloc ?_ _)) f3 (fun _ _ h => h))
                   have O3 := Lib.hid o3
                   obtain ⟨A3, k3, rfl, hk3, hk3m⟩ := own_slice o3
                   first
                     | (have D3 : Blk w3 w2.heap.size 30 #[.int .i64 0, .int .i64 0, .int .u32 0] := Blk.fr (by with_reducible exact Blk.new w2 _ _) f3 (fun h => h)
                        have DT := Lib.hid D3
                        have GE17 := Lib.hid FA2.out.size
                        clear D3)
                     | (have D3 := DT.out.fr f3 (fun h => h)
                        have DT := Lib.hid D3
                        clear D3)
                     | skip
                   clear f3 o3)
                | (refine oper_app_p rfl _ _ _ _ rfl wr.heap.size 25 i1 _ 1 24 Tryd.underlying22 hI1.out hy0 hy1 hy2 rfl (.slice A1 K k1) K (us.take K) rfl ?_ (.slice AD (i - (K + 1)) (rc - (K + 1))) (i - (K + 1)) (us.drop (K + 1)) rfl ?_ (by omega) (by unfold maxLen; omega) (Fr.size (w := wr) (fp := fun _ => False) (by with_reducible repeat (first | exact FA4.out | exact FA3.out | exact FA2.out | exact FA1.out | exact Fr.refl _ _ | refine Fr.drew ?_ | refine Fr.alloc ?_ _))) ?_
                   · exact own_fr O1.out (fp := fun _ => False) (by with_reducible repeat (first | exact Fr.refl _ _ | refine Fr.drew ?_ | refine Fr.alloc ?_ _)) (fun _ _ h => h)
                   · exact Src.rd Tryd.underlying22 _ ((RU.out.cut' (k := K + 1) (by omega) HADR.out).far (by with_reducible repeat (first | exact FA4.out | exact FA3.out | exact FA2.out | exact FA1.out | exact Fr.refl _ _ | refine Fr.drew ?_ | refine Fr.alloc ?_ _))) (fun u hu => RV.out.one u (List.mem_of_mem_drop hu))
                   intro v2 w2 o2 f2 n2
                   have FA2 := Lib.hid (Fr.trans (a := wr) (fp := fun _ => False) (by with_reducible repeat (first | exact FA4.out | exact FA3.out | exact FA2.out | exact FA1.out | exact Fr.refl _ _ | refine Fr.drew ?_ | refine Fr.alloc ?_ _)) f2 (fun k hk hq => by have h := (O1.out.lt k hq).1; omega))
                   have O2 := Lib.hid o2
                   obtain ⟨A2, k2, rfl, hk2, hk2m⟩ := own_slice o2
                   first
                     | (have D2 : Blk w2 w1.heap.size 30 #[.int .i64 0, .int .i64 0, .int .u32 0] := Blk.fr (by with_reducible exact Blk.new w1 _ _) f2 (fun h => by have h1 := (O1.out.lt _ h).2; omega)
                        have DT := Lib.hid D2
                        have GE17 := Lib.hid FA1.out.size
                        clear D2)
                     | (have D2 := DT.out.fr f2 (fun h => own_blk_ne O1.out DT.out (by decide) h)
                        have DT := Lib.hid D2
                        clear D2)
                     | skip
                   clear o2 f2 n2)
                | (refine oper_app_p rfl _ _ _ _ rfl wr.heap.size 25 i1 _ 1 24 Tryd.underlying22 hI1.out hy0 hy1 hy2 rfl (.slice (some ⟨wr.heap.size, 0, none⟩) 0 0) 0 [] rfl ?_ (.slice (some ⟨rg, 0, none⟩) K rc) K (us.take K) rfl ?_ (by omega) (by unfold maxLen; omega) (Fr.size (w := wr) (fp := fun _ => False) (by with_reducible repeat (first | exact FA4.out | exact FA3.out | exact FA2.out | exact FA1.out | exact Fr.refl _ _ | refine Fr.drew ?_ | refine Fr.alloc ?_ _))) ?_
                   · first | with_reducible exact Blk.empty (Blk.new wr 25 #[]).drew _ (Nat.le_refl _) | with_reducible exact Blk.empty ((Blk.new wr 25 #[]).alloc _).drew _ (Nat.le_refl _)
                   · exact Src.rd Tryd.underlying22 _ ((RU.out.take (k := K) (by omega)).far (by with_reducible repeat (first | exact FA4.out | exact FA3.out | exact FA2.out | exact FA1.out | exact Fr.refl _ _ | refine Fr.drew ?_ | refine Fr.alloc ?_ _))) (fun u hu => RV.out.one u (List.mem_of_mem_take hu))
                   intro v1 w1 o1 f1 n1
                   rw [Nat.zero_add, List.nil_append] at o1
                   have FA1 := Lib.hid (Fr.trans (a := wr) (fp := fun _ => False) (by with_reducible repeat (first | exact FA4.out | exact FA3.out | exact FA2.out | exact FA1.out | exact Fr.refl _ _ | refine Fr.drew ?_ | refine Fr.alloc ?_ _)) f1 (fun k hk hq => by have h : wr.heap.size = k := Option.some.inj hq; omega))
                   have O1 := Lib.hid o1
                   obtain ⟨A1, k1, rfl, hk1, hk1m⟩ := own_slice o1
                   first
                     | (have D1 : Blk w1 (wr.heap.size + 1) 30 #[.int .i64 0, .int .i64 0, .int .u32 0] := Blk.fr (by with_reducible exact (blk_new1 wr _ _ _).drew) f1 (fun h => by have h1 : wr.heap.size = wr.heap.size + 1 := Option.some.inj h; omega)
                        have DT := Lib.hid D1
                        have GE17 : Hid (wr.heap.size ≤ wr.heap.size + 1) := (by show _ ≤ _; omega)
                        clear D1)
                     | skip
                   clear o1 f1 n1)
                | (refine oper_app_p rfl _ _ _ _ rfl wr.heap.size 25 i1 _ 1 24 Tryd.underlying22 hI1.out hy0 hy1 hy2 rfl (.slice (some ⟨wr.heap.size + 1, 0, none⟩) 0 0) 0 [] rfl ?_ (.slice (some ⟨rg, 0, none⟩) K rc) K (us.take K) rfl ?_ (by omega) (by unfold maxLen; omega) (Fr.size (w := wr) (fp := fun _ => False) (by with_reducible repeat (first | exact FA4.out | exact FA3.out | exact FA2.out | exact FA1.out | exact Fr.refl _ _ | refine Fr.drew ?_ | refine Fr.alloc ?_ _))) ?_
                   · with_reducible exact Blk.empty (blk_new1 wr _ 25 #[]).drew _ (by omega)
                   · exact Src.rd Tryd.underlying22 _ ((RU.out.take (k := K) (by omega)).far (by with_reducible repeat (first | exact FA4.out | exact FA3.out | exact FA2.out | exact FA1.out | exact Fr.refl _ _ | refine Fr.drew ?_ | refine Fr.alloc ?_ _))) (fun u hu => RV.out.one u (List.mem_of_mem_take hu))
                   intro v1 w1 o1 f1 n1
                   rw [Nat.zero_add, List.nil_append] at o1
                   have FA1 := Lib.hid (Fr.trans (a := wr) (fp := fun _ => False) (by with_reducible repeat (first | exact FA4.out | exact FA3.out | exact FA2.out | exact FA1.out | exact Fr.refl _ _ | refine Fr.drew ?_ | refine Fr.alloc ?_ _)) f1 (fun k hk hq => by have h : wr.heap.size + 1 = k := Option.some.inj hq; omega))
                   have O1 := Lib.hid o1
                   obtain ⟨A1, k1, rfl, hk1, hk1m⟩ := own_slice o1
                   first
                     | (have D1 : Blk w1 wr.heap.size 30 #[.int .i64 0, .int .i64 0, .int .u32 0] := Blk.fr (by with_reducible exact ((Blk.new wr _ _).alloc _).drew) f1 (fun h => by have h1 : wr.heap.size + 1 = wr.heap.size := Option.some.inj h; omega)
                        have DT := Lib.hid D1
                        have GE17 : Hid (wr.heap.size ≤ wr.heap.size) := (by show _ ≤ _; omega)
                        clear D1)
                     | skip
                   clear o1 f1 n1))
            all_goals
              go_wp2_with fail
              go_meet
              first
                | (refine ⟨A4, _, c4, _, rfl, g41, g42, rfl, ?_, FA4.out.alloc _⟩
                   rw [HFLE.out]
                   exact OB4.out.rd.far ((Fr.refl (fun _ => False) w4).alloc _))
                | (refine ⟨A4, _, c4, _, rfl, g41, g42, rfl, ?_, ?_⟩
                   · rw [HFLE.out]
                     refine OwnB.rd (OB5.out.fr (fp := fun k => k < _) ?_ (fun k hk h => absurd h (Nat.not_lt.2 hk)))
                     with_reducible repeat (first | exact Fr.refl _ _ | refine Fr.setCell ?_ (fun _ => HB17.out.1) _)
                   · show Fr _ _ _
                     with_reducible repeat (first | exact FA4.out | refine Fr.setCell ?_ (fun h => absurd h (Nat.not_lt.2 HB17.out.2)) _))
          case rest =>
            as_aux_lemma =>
            obtain ⟨aA, L, cap, al, rfl, hLc, hcapm, hal, hrd, hf⟩ := hcut
            obtain ⟨wa, hwa⟩ : ∃ wa : World, wa = wc := ⟨_, rfl⟩
            subst hwa
            go_wp2_with fail
            have hcl := fun (j r : Nat) (hj : j ≤ i) (hr : r < 3) => show wa.cell? ⟨tg, j * 3 + r, none⟩ = (tc3 ls j)[r]? from by
              have h1 := HTC.out (j * 3 + r) ((tc3 ls j)[r]'hr) (by rw [tcs_get ls i j r hj hr]; exact List.getElem?_eq_getElem _)
              rw [Addr.add_lit, Nat.zero_add] at h1
              rw [hf.out.cell (World.block_lt_of_cell? _ _ h1) (fun h => h), h1]
              exact (List.getElem?_eq_getElem _).symm
            have HCL := Lib.hid hcl
            clear hcl
            go_cut [18] (fun b wx => ∃ bb : Bool, b = .bool bb ∧ Hid (bb = false → K + 1 < ls.length → rowS 0 (ls.take K) ≠ rowS 0 (ls.take (K + 1))) ∧ Hid (Fr (fun _ => False) wa wx))
            case first =>
              as_aux_lemma =>
              have hl := HLEN.out
              by_cases h1 : K + 1 < i
              · have hd : decide ((K : Int) + 1 < (i : Int)) = true := decide_eq_true (by omega)
                obtain ⟨S1, hS1⟩ : ∃ S1, rowS 0 (ls.take K) = S1 := ⟨_, rfl⟩
                obtain ⟨S2, hS2⟩ : ∃ S2, rowS 0 (ls.take (K + 1)) = S2 := ⟨_, rfl⟩
                have x1 : wa.cell? ⟨tg, K * 3 + 2, none⟩ = some (.int .u32 (S1 : Int)) := by rw [← hS1]; exact HCL.out K 2 (by omega) (by omega)
                have x2 : wa.cell? ⟨tg, (K + 1) * 3 + 2, none⟩ = some (.int .u32 (S2 : Int)) := by rw [← hS2]; exact HCL.out (K + 1) 2 (by omega) (by omega)
                have HS1 := Lib.hid hS1
                have HS2 := Lib.hid hS2
                have hlt2 : (K : Int) + 1 < (m1 : Int) := by omega
                have hlt3 : (K : Int) < (m1 : Int) := by omega
                clear hS1 hS2 hl
                by_cases heq : S1 = S2
                · have hb : ((S1 : Int) == (S2 : Int)) = true := by simp [heq]
                  have HE := Lib.hid heq
                  clear heq
                  go_quiet (fail)
                  go_wp2_with fail
                  go_meet
                  exact ⟨true, rfl, (fun h => by cases h), (Fr.refl _ wa).drewN nq⟩
                · have hb : ((S1 : Int) == (S2 : Int)) = false := by simp; omega
                  have HE := Lib.hid heq
                  clear heq
                  go_quiet (fail)
                  go_wp2_with fail
                  go_meet
                  exact ⟨false, rfl, fun _ _ e => HE.out (by rw [← HS1.out, ← HS2.out]; exact e), (Fr.refl _ wa).drewN nq⟩
              · have hd : decide ((K : Int) + 1 < (i : Int)) = false := decide_eq_false (by omega)
                go_quiet (fail)
                go_wp2_with fail
                go_meet
                exact ⟨false, rfl, fun _ h => by omega, (Fr.refl _ wa).drewN nq⟩
            case rest =>
              as_aux_lemma =>
              obtain ⟨bb, rfl, hbb, hf2⟩ := hcut
              obtain ⟨wb, hwb⟩ : ∃ wb : World, wb = wc := ⟨_, rfl⟩
              subst hwb
              have FB := Lib.hid (hf.out.trans hf2.out (fun _ _ h => h))
              go_upto_region 16 with fail
              go_cut [112] (fun tv wx => tv = .bool false ∧ Hid (Fr (fun _ => False) wb wx))
              case first =>
                as_aux_lemma =>
                cases bb
                · have hto := tells_out ls K (by rw [HLEN.out]; exact hKn) HFT.out (hbb.out rfl)
                  have hall : al = ls.take K := by rw [hal.out, hto]
                  unfold maxLen at hcapm
                  have hsame := same_c wb aA L cap al (hrd.out.far hf2.out) (by omega) A K c _ (((HR.out.far (FRW.out.trans FB.out (fun _ _ h => h))).take (k := K) (by omega))) (by omega)
                  rw [decide_eq_true hall] at hsame
                  have HSM := Lib.hid hsame
                  clear hsame hto hall
                  go_wp2_with fail
                  refine HSM.out.mono ?_
                  rintro e w6 ⟨rfl, f6⟩
                  have F6 := Lib.hid f6
                  clear f6
                  go_wp2_with fail
                  go_meet
                  exact ⟨rfl, F6.out⟩
                · go_wp2_with fail
                  go_meet
                  exact ⟨rfl, Fr.refl _ _⟩
              case rest =>
                as_aux_lemma =>
                obtain ⟨rfl, hf3⟩ := hcut
                obtain ⟨wd, hwd⟩ : ∃ wd : World, wd = wc := ⟨_, rfl⟩
                subst hwd
                have FD := Lib.hid (FB.out.trans hf3.out (fun _ _ h => h))
                go_wp2_with fail
                obtain ⟨X1, hX1, x1⟩ := mask_i64 q1 65535 (by omega)
                have x1 : bits .and .i64 q1 65535 = (X1 : Int) := x1
                obtain ⟨X2, hX2, x2⟩ := mask_i64 q2 65535 (by omega)
                have x2 : bits .and .i64 q2 65535 = (X2 : Int) := x2
                obtain ⟨I, hI⟩ : ∃ I, I = X1 % i := ⟨_, rfl⟩
                have hIn : I < i := by rw [hI]; exact Nat.mod_lt _ hnpos
                have hI2 : ((X1 : Int) % (i : Int)) = (I : Int) := by rw [hI]; omega
                obtain ⟨J, hJ⟩ : ∃ J, J = X2 % (i + 1) := ⟨_, rfl⟩
                have hJn : J < i + 1 := by rw [hJ]; exact Nat.mod_lt _ (by omega)
                have hJ2 : ((X2 : Int) % ((i : Int) + 1)) = (J : Int) := by rw [hJ]; rfl
                have hw2 : IntKind.i64.wrap ((i : Int) + 1) = (i : Int) + 1 := wrapi _ (by omega) (by omega)
                have hi1 : (0 : Int) < (i : Int) + 1 := by omega
                clear hI hJ
                go_cut [19, 20] (fun a b wx => a = .int .i64 (I : Int) ∧ b = .int .i64 (J : Int) ∧ Hid (Fr (fun _ => False) wd wx))
                case first =>
                  as_aux_lemma =>
                  have HI2 := Lib.hid hI2
                  have HJ2 := Lib.hid hJ2
                  clear hI2 hJ2
                  go_quiet (fail)
                  go_wp2_with fail
                  go_meet
                  exact ⟨by rw [HI2.out], by rw [HJ2.out], (Fr.refl _ wd).drewN nq⟩
                case rest =>
                  as_aux_lemma =>
                  obtain ⟨rfl, rfl, hf4⟩ := hcut
                  obtain ⟨we, hwe⟩ : ∃ we : World, we = wc := ⟨_, rfl⟩
                  subst hwe
                  have FE := Lib.hid (FD.out.trans hf4.out (fun _ _ h => h))
                  clear x1 x2 hI2 hJ2 hw2 hi1
                  go_wp2_with fail
                  have hIr : (I : Int) < (i : Int) := by omega
                  have hJr : (J : Int) ≤ (rc : Int) := by omega
                  have hJi : J ≤ i := by omega
                  obtain ⟨uI, huI, hRI⟩ := RV.out.one' I (by rw [HRL.out]; exact hIn)
                  have cI : we.cell? ⟨rg, I, none⟩ = some uI := by
                    have h1 := RU.out.cell (b := rg) (off := 0) hIn
                    rw [Nat.zero_add, huI] at h1
                    rw [FE.out.cell (World.block_lt_of_cell? _ _ h1) (fun h => h)]
                    exact h1
                  obtain ⟨BI, cI2, hBI, hRdI, hlI, hmI⟩ := hRI.2 0 (by simp)
                  have huI2 : uI = .slice BI ((recl 0 ls)[I]'(by rw [HRL.out]; exact hIn)).length cI2 := Option.some.inj hBI
                  have HUI := Lib.hid huI
                  have HRI := Lib.hid hRI
                  have hone : uI.oneCell' = true := by rw [huI2]; rfl
                  have HUI2 := Lib.hid (show ∃ B n c, uI = .slice B n c from ⟨_, _, _, huI2⟩)
                  clear huI hRI hBI hRdI hlI hmI huI2
                  have HONE := Lib.hid hone
                  clear hone
                  have zE := FE.out.size
                  go_cut [21] (fun pv wx => ∃ (A5 : Option Addr) (k5 : Nat), pv = .slice A5 (J + 1) k5 ∧ Hid (wx.ownsRow wr.heap.size 25 1 (.slice A5 (J + 1) k5) (J + 1) (us.take J ++ [uI])) ∧ Hid (Fr (fun _ => False) we wx))
                  case first =>
                    as_aux_lemma =>
                    obtain ⟨B0, n0, c0, rfl⟩ := HUI2.out
                    go_region_held3 (fun w' => w'.cell? ⟨rg, I, none⟩ = some (.slice B0 n0 c0)) (exact held1 cI (by with_reducible repeat (first | exact FA2.out | exact FA1.out | exact Fr.refl _ _ | refine Fr.drew ?_ | refine Fr.alloc ?_ _)))
                      (first
                        | (refine oper_app_p rfl _ _ _ _ rfl we.heap.size 25 i1 _ 1 24 Tryd.underlying22 hI1.out hy0 hy1 hy2 rfl (.slice A1 J k1) J (us.take J) rfl ?_ (.slice (some ⟨w1.heap.size, 0, none⟩) 1 1) 1 [.slice B0 n0 c0] rfl ?_ (by omega) (by unfold maxLen; omega) (Fr.size (w := we) (fp := fun _ => False) (by with_reducible repeat (first | exact FA2.out | exact FA1.out | exact Fr.refl _ _ | refine Fr.drew ?_ | refine Fr.alloc ?_ _))) ?_
                           · exact own_fr O1.out (fp := fun _ => False) (by with_reducible repeat (first | exact Fr.refl _ _ | refine Fr.drew ?_ | refine Fr.alloc ?_ _)) (fun _ _ h => h)
                           · exact Src.rd Tryd.underlying22 _ (rd_one w1 25 (.slice B0 n0 c0)) (by simp [Value.oneCell'])
                           intro v2 w2 o2 f2 n2
                           have FA2 := Lib.hid (Fr.trans (a := we) (fp := fun _ => False) (by with_reducible repeat (first | exact FA2.out | exact FA1.out | exact Fr.refl _ _ | refine Fr.drew ?_ | refine Fr.alloc ?_ _)) f2 (fun k hk hq => by have h := (O1.out.lt k hq).1; omega))
                           have O2 := Lib.hid o2
                           obtain ⟨A2, k2, rfl, hk2, hk2m⟩ := own_slice o2
                           clear o2 f2 n2)
                        | (refine oper_app_p rfl _ _ _ _ rfl we.heap.size 25 i1 _ 1 24 Tryd.underlying22 hI1.out hy0 hy1 hy2 rfl (.slice A1 J k1) J (us.take J) rfl O1.out (.slice (some ⟨we.heap.size, 0, none⟩) 1 1) 1 [.slice B0 n0 c0] rfl ?_ (by omega) (by unfold maxLen; omega) (Fr.size (w := we) (fp := fun _ => False) (by with_reducible repeat (first | exact FA2.out | exact FA1.out | exact Fr.refl _ _ | refine Fr.drew ?_ | refine Fr.alloc ?_ _))) ?_
                           · exact Src.rd Tryd.underlying22 _ (Rd.of_blk (n := 1) BL0.out (by simp)) (by simp [Value.oneCell'])
                           intro v2 w2 o2 f2 n2
                           have FA2 := Lib.hid (Fr.trans (a := we) (fp := fun _ => False) (by with_reducible repeat (first | exact FA2.out | exact FA1.out | exact Fr.refl _ _ | refine Fr.drew ?_ | refine Fr.alloc ?_ _)) f2 (fun k hk hq => by have h := (O1.out.lt k hq).1; omega))
                           have O2 := Lib.hid o2
                           obtain ⟨A2, k2, rfl, hk2, hk2m⟩ := own_slice o2
                           clear o2 f2 n2)
                        | (refine oper_app_p rfl _ _ _ _ rfl we.heap.size 25 i1 _ 1 24 Tryd.underlying22 hI1.out hy0 hy1 hy2 rfl (.slice A1 J k1) J (us.take J) rfl O1.out (.slice (some ⟨we.heap.size + 1, 0, none⟩) 1 1) 1 [.slice B0 n0 c0] rfl ?_ (by omega) (by unfold maxLen; omega) (Fr.size (w := we) (fp := fun _ => False) (by with_reducible repeat (first | exact FA2.out | exact FA1.out | exact Fr.refl _ _ | refine Fr.drew ?_ | refine Fr.alloc ?_ _))) ?_
                           · exact Src.rd Tryd.underlying22 _ (Rd.of_blk (n := 1) BL1.out (by simp)) (by simp [Value.oneCell'])
                           intro v2 w2 o2 f2 n2
                           have FA2 := Lib.hid (Fr.trans (a := we) (fp := fun _ => False) (by with_reducible repeat (first | exact FA2.out | exact FA1.out | exact Fr.refl _ _ | refine Fr.drew ?_ | refine Fr.alloc ?_ _)) f2 (fun k hk hq => by have h := (O1.out.lt k hq).1; omega))
                           have O2 := Lib.hid o2
                           obtain ⟨A2, k2, rfl, hk2, hk2m⟩ := own_slice o2
                           clear o2 f2 n2)
                        | (refine oper_app_p rfl _ _ _ _ rfl we.heap.size 25 i1 _ 1 24 Tryd.underlying22 hI1.out hy0 hy1 hy2 rfl (.slice (some ⟨we.heap.size, 0, none⟩) 0 0) 0 [] rfl ?_ (.slice (some ⟨rg, 0, none⟩) J rc) J (us.take J) rfl ?_ (by omega) (by unfold maxLen; omega) (Fr.size (w := we) (fp := fun _ => False) (by with_reducible repeat (first | exact FA2.out | exact FA1.out | exact Fr.refl _ _ | refine Fr.drew ?_ | refine Fr.alloc ?_ _))) ?_
                           · first | with_reducible exact Blk.empty (Blk.new we 25 #[]).drew _ (Nat.le_refl _) | with_reducible exact Blk.empty ((Blk.new we 25 #[]).alloc _).drew _ (Nat.le_refl _)
                           · exact Src.rd Tryd.underlying22 _ ((RU.out.take (k := J) (by omega)).far (FE.out.trans (by with_reducible repeat (first | exact FA2.out | exact FA1.out | exact Fr.refl _ _ | refine Fr.drew ?_ | refine Fr.alloc ?_ _)) (fun _ _ h => h))) (fun u hu => RV.out.one u (List.mem_of_mem_take hu))
                           intro v1 w1 o1 f1 n1
                           rw [Nat.zero_add, List.nil_append] at o1
                           have FA1 := Lib.hid (Fr.trans (a := we) (fp := fun _ => False) (by with_reducible repeat (first | exact FA2.out | exact FA1.out | exact Fr.refl _ _ | refine Fr.drew ?_ | refine Fr.alloc ?_ _)) f1 (fun k hk hq => by have h : we.heap.size = k := Option.some.inj hq; omega))
                           have O1 := Lib.hid o1
                           obtain ⟨A1, k1, rfl, hk1, hk1m⟩ := own_slice o1
                           first
                             | (have B1 : Blk w1 (we.heap.size + 1) 25 #[.slice B0 n0 c0] := Blk.fr (by with_reducible exact (blk_new1 we _ _ _).drew) f1 (fun h => by have h1 : we.heap.size = we.heap.size + 1 := Option.some.inj h; omega)
                                have BL1 := Lib.hid B1
                                clear B1)
                             | skip
                           clear o1 f1 n1)
                        | (refine oper_app_p rfl _ _ _ _ rfl we.heap.size 25 i1 _ 1 24 Tryd.underlying22 hI1.out hy0 hy1 hy2 rfl (.slice (some ⟨we.heap.size + 1, 0, none⟩) 0 0) 0 [] rfl ?_ (.slice (some ⟨rg, 0, none⟩) J rc) J (us.take J) rfl ?_ (by omega) (by unfold maxLen; omega) (Fr.size (w := we) (fp := fun _ => False) (by with_reducible repeat (first | exact FA2.out | exact FA1.out | exact Fr.refl _ _ | refine Fr.drew ?_ | refine Fr.alloc ?_ _))) ?_
                           · with_reducible exact Blk.empty (blk_new1 we _ 25 #[]).drew _ (by omega)
                           · exact Src.rd Tryd.underlying22 _ ((RU.out.take (k := J) (by omega)).far (FE.out.trans (by with_reducible repeat (first | exact FA2.out | exact FA1.out | exact Fr.refl _ _ | refine Fr.drew ?_ | refine Fr.alloc ?_ _)) (fun _ _ h => h))) (fun u hu => RV.out.one u (List.mem_of_mem_take hu))
                           intro v1 w1 o1 f1 n1
                           rw [Nat.zero_add, List.nil_append] at o1
                           have FA1 := Lib.hid (Fr.trans (a := we) (fp := fun _ => False) (by with_reducible repeat (first | exact FA2.out | exact FA1.out | exact Fr.refl _ _ | refine Fr.drew ?_ | refine Fr.alloc ?_ _)) f1 (fun k hk hq => by have h : we.heap.size + 1 = k := Option.some.inj hq; omega))
                           have O1 := Lib.hid o1
                           obtain ⟨A1, k1, rfl, hk1, hk1m⟩ := own_slice o1
                           first
                             | (have B1 : Blk w1 we.heap.size 25 #[.slice B0 n0 c0] := Blk.fr (by with_reducible exact ((Blk.new we _ _).alloc _).drew) f1 (fun h => by have h1 : we.heap.size + 1 = we.heap.size := Option.some.inj h; omega)
                                have BL0 := Lib.hid B1
                                clear B1)
                             | skip
                           clear o1 f1 n1))
                    all_goals
                      go_wp2_with fail
                      go_meet
                      exact ⟨A2, k2, rfl, own_base O2.out (fun k hk => Nat.le_trans zE (O2.out.lt k hk).1), FA2.out⟩
                  case rest =>
                    as_aux_lemma =>
                    obtain ⟨A5, k5, rfl, ho5, hf5⟩ := hcut
                    obtain ⟨wf, hwf⟩ : ∃ wf : World, wf = wc := ⟨_, rfl⟩
                    subst hwf
                    have FF := Lib.hid (FE.out.trans hf5.out (fun _ _ h => h))
                    have zF := FF.out.size
                    obtain ⟨AD, had, hs9⟩ := slice_from (some ⟨rg, 0, none⟩) i rc J (J : Int) rfl hJi hrc
                    have HADR := Lib.hid had
                    clear had
                    have hll : ((recl 0 ls).take J ++ [(recl 0 ls)[I]'(by rw [HRL.out]; exact hIn)] ++ (recl 0 ls).drop J).flatten.length ≤ 960000 := by
                      have h1 := congrArg List.length (congrArg List.flatten (List.take_append_drop J (recl 0 ls)))
                      rw [List.flatten_append, List.length_append, recl_sum] at h1
                      have h2 : ((recl 0 ls)[I]'(by rw [HRL.out]; exact hIn)).length ≤ sizes ls := by
                        rw [← recl_sum 0 ls]
                        exact mem_flat_len _ _ (List.getElem_mem _)
                      have h3 := HSZ.out
                      rw [List.flatten_append, List.flatten_append, List.flatten_singleton, List.length_append, List.length_append]
                      omega
                    obtain ⟨LL, hLL⟩ : ∃ LL, (recl 0 ls).take J ++ [(recl 0 ls)[I]'(by rw [HRL.out]; exact hIn)] ++ (recl 0 ls).drop J = LL := ⟨_, rfl⟩
                    rw [hLL] at hll
                    have RLL : Hid (RowsV wf (us.take J ++ [uI] ++ us.drop J) LL) := by
                      rw [← hLL]
                      exact (((RV.out.take J).append HRI.out).append (RV.out.drop J)).fr FF.out
                    have HLL := Lib.hid hLL
                    obtain ⟨Z7, hZ7⟩ : ∃ Z7, LL.flatten.length = Z7 := ⟨_, rfl⟩
                    rw [hZ7] at hll
                    have HZ7 := Lib.hid hZ7
                    clear hLL hZ7
                    go_wp2_with (first
                      | (at_builtin
                         refine wpList_app rfl _ _ _ _ rfl wr.heap.size 25 i1 _ 1 24 Tryd.underlying22 hI1.out hy0 hy1 hy2 rfl _ (J + 1) _ rfl ho5.out _ (i - J) _ rfl (Src.rd Tryd.underlying22 _ ((RU.out.cut' (k := J) hJi HADR.out).far FF.out) (fun u hu => RV.out.one u (List.mem_of_mem_drop hu))) (by omega) (by unfold maxLen; omega) zF ?_
                         intro v7 w7 hown7 hf7 hn7
                         have F7 := Lib.hid (FF.out.trans hf7 (fun k hk hq => by have := (ho5.out.lt k hq).1; omega))
                         have G7 := Lib.hid hf7
                         have H7 := Lib.hid hown7
                         obtain ⟨A7, k7, rfl, hk7, hk7m⟩ := own_slice hown7
                         clear hown7 hf7 hn7))
                    have RL7 : RowsV w7 (us.take J ++ [uI] ++ us.drop J) LL := by
                      rw [← HLL.out]
                      exact (((RV.out.take J).append HRI.out).append (RV.out.drop J)).fr F7.out
                    have hjn := join_c w7 A7 (J + 1 + (i - J)) k7 LL (RL7.rdB H7.out) (by omega) (by rw [HZ7.out]; omega)
                    refine hjn.mono ?_
                    rintro e w8 ⟨v8, rfl, o8, f8⟩
                    clear hjn
                    rw [HZ7.out] at o8
                    obtain ⟨A8, k8, rfl, hk8, hk8m⟩ := own_slice o8
                    have F8 := Lib.hid (F7.out.trans f8 (fun _ _ h => h))
                    have R8 := Lib.hid (Rd.of_own (own_base o8 (base' := 0) (fun _ _ => Nat.zero_le _)))
                    clear f8 o8 RL7
                    go_wp2_with fail
                    have hall := all_c w8 A8 Z7 k8 LL.flatten R8.out hk8 hk8m (HN.out.far (FRW.out.trans F8.out (fun _ _ h => h))) (by omega)
                    refine hall.mono ?_
                    rintro e w9 ⟨v9, rfl, ob9, f9⟩
                    clear hall
                    unfold tailV
                    obtain ⟨bl, hbl⟩ : ∃ bl, (tells 0 LL.flatten).1 = bl := ⟨_, rfl⟩
                    rw [hbl] at ob9 ⊢
                    have HBL := Lib.hid hbl
                    have hblz : sizes bl ≤ 960000 := by
                      have h1 := tells_sizes 0 LL.flatten
                      rw [hbl, HZ7.out] at h1
                      omega
                    have hbll : bl.length ≤ sizes bl := len_le_sizes bl
                    obtain ⟨A9, k9, rfl, rb9, hk9, hk9m⟩ := ob9.rdB
                    obtain ⟨NB, hNB⟩ : ∃ NB, bl.length = NB := ⟨_, rfl⟩
                    obtain ⟨ZB, hZB⟩ : ∃ ZB, sizes bl = ZB := ⟨_, rfl⟩
                    obtain ⟨SB, hSB⟩ : ∃ SB, (rowS 0 bl : Int) = SB := ⟨_, rfl⟩
                    rw [hNB, hZB] at hbll
                    rw [hZB] at hblz
                    rw [hNB] at rb9 hk9
                    rw [hNB, hZB, hSB]
                    have HNB := Lib.hid hNB
                    have F9 := Lib.hid ((F8.out.trans f9 (fun _ _ h => h)).alloc (.cells #[.int .i64 (NB : Int), .int .i64 (ZB : Int), .int .u32 SB] 30))
                    have RB9 := Lib.hid (rb9.far ((Fr.refl (fun _ => False) w9).alloc (.cells #[.int .i64 (NB : Int), .int .i64 (ZB : Int), .int .u32 SB] 30)))
                    clear f9 ob9 rb9 hbl hNB hZB hSB
                    go_wp2_with fail
                    generalize w9.alloc (.cells #[.int .i64 (NB : Int), .int .i64 (ZB : Int), .int .u32 SB] 30) = wg at *
                    have FG := Lib.hid (FRW.out.trans F9.out (fun _ _ h => h))
                    obtain ⟨SJ, hSJ⟩ : ∃ SJ, rowS 0 (ls.take J) = SJ := ⟨_, rfl⟩
                    obtain ⟨SI, hSI⟩ : ∃ SI, rowS 0 (ls.take I) = SI := ⟨_, rfl⟩
                    have y1 : wg.cell? ⟨tg, J * 3 + 2, none⟩ = some (.int .u32 (SJ : Int)) := by
                      rw [← hSJ]
                      have h1 := HTC.out (J * 3 + 2) _ (by rw [tcs_get ls i J 2 hJi (by omega)]; rfl)
                      rw [Addr.add_lit, Nat.zero_add] at h1
                      exact held1 h1 F9.out
                    have y2 : wg.cell? ⟨tg, I * 3 + 2, none⟩ = some (.int .u32 (SI : Int)) := by
                      rw [← hSI]
                      have h1 := HTC.out (I * 3 + 2) _ (by rw [tcs_get ls i I 2 (by omega) (by omega)]; rfl)
                      rw [Addr.add_lit, Nat.zero_add] at h1
                      exact held1 h1 F9.out
                    have HSJ := Lib.hid hSJ
                    have HSI := Lib.hid hSI
                    have hb1 : (J : Int) < (m1 : Int) := by omega
                    have hb2 : (I : Int) < (m1 : Int) := by omega
                    clear hSJ hSI
                    have hil : I < ls.length := by rw [HLEN.out]; exact hIn
                    by_cases hne : SJ = SI
                    · as_aux_lemma =>
                      have hbq : ((SJ : Int) != (SI : Int)) = false := by simp [hne]
                      obtain ⟨x, y, hty⟩ := tells_in_yes ls I J hil (by rw [HLEN.out]; exact hJi) HFT.out (by rw [HSJ.out, HSI.out, hne])
                      have hbl : bl = ls.take J ++ ls[I] :: x := by
                        rw [← HBL.out, ← HLL.out, hty]
                      have HBLE := Lib.hid hbl
                      clear hne hty hbl
                      go_quiet (fail)
                      have G1 := Lib.hid ((Fr.refl (fun _ => False) wg).drewN nq)
                      generalize wg.drewN nq = wh at *
                      clear y1 y2 hb1 hb2
                      have FH := Lib.hid (FG.out.trans G1.out (fun _ _ h => h))
                      have RBH := Lib.hid (RB9.out.far G1.out)
                      have hlj : (ls.take J).length = J := by rw [List.length_take, HLEN.out]; omega
                      have hNB : NB = J + 1 + x.length := by rw [← HNB.out, HBLE.out, List.length_append, List.length_cons, hlj]; omega
                      have hge : J + 1 ≤ NB := by omega
                      have hJb : J < bl.length := by rw [HNB.out]; omega
                      have hbt : bl.take J = ls.take J := by
                        rw [HBLE.out, List.take_append_of_le_length (by omega), List.take_of_length_le (by omega)]
                      have hbg : bl[J] = ls[I] := by
                        have h1 : bl[J]? = some ls[I] := by
                          rw [HBLE.out, List.getElem?_append_right (by omega), hlj, Nat.sub_self]
                          rfl
                        rw [List.getElem?_eq_getElem hJb] at h1
                        exact Option.some.inj h1
                      obtain ⟨bb, boff, rfl, hcb⟩ := RBH.out.2 (by omega)
                      obtain ⟨QB, qb, z1, rz1, -, -⟩ := hcb J hJb
                      obtain ⟨ab, aoff, rfl, hca⟩ := (HR.out.far FH.out).2 hnpos
                      obtain ⟨QA, qa, z2, rz2, -, -⟩ := hca I hil
                      rw [hbg] at z1 rz1
                      obtain ⟨pI, hpI⟩ : ∃ pI, ls[I] = pI := ⟨_, rfl⟩
                      rw [hpI] at z1 rz1 z2 rz2
                      obtain ⟨MI, hMI⟩ : ∃ MI, pI.length = MI := ⟨_, rfl⟩
                      rw [hMI] at z1 rz1 z2 rz2
                      have RZ1 := Lib.hid rz1
                      have RZ2 := Lib.hid rz2
                      have s1 := conv_str wh QB MI qb pI rz1
                      have s2 := conv_str wh QA MI qa pI rz2
                      have heq : ((strOf pI).toList == (strOf pI).toList) = true := by rw [beq_str]; simp
                      have hw1' : IntKind.i64.wrap ((J : Int) + 1) = (J : Int) + 1 := wrapi _ (by omega) (by omega)
                      have hge2 : decide ((J : Int) + 1 ≤ (NB : Int)) = true := decide_eq_true (by omega)
                      have hjn : (J : Int) < (NB : Int) := by omega
                      have hjk : (J : Int) ≤ (k9 : Int) := by omega
                      have hjc : (J : Int) ≤ (c : Int) := by omega
                      have hii : (I : Int) < (i : Int) := by omega
                      have hmc : J ≤ c := by omega
                      unfold maxLen at hk9m
                      have hsame : ∀ W, Fr (fun _ => False) wh W → Calls Tryd.prog 15 #[.slice (some ⟨bb, boff, none⟩) J k9, .slice (some ⟨ab, aoff, none⟩) J c] W fun e w' => e = .returned (.bool true) ∧ Fr (fun _ => False) W w' := fun W hW => by
                        have h := same_c W (some ⟨bb, boff, none⟩) J k9 (ls.take J) (by rw [← hbt]; exact (RBH.out.far hW).take (by omega)) (by omega) (some ⟨ab, aoff, none⟩) J c _ (((HR.out.far (FH.out.trans hW (fun _ _ h => h))).take (k := J) (by omega))) (by omega)
                        rw [decide_eq_true (rfl : ls.take J = ls.take J)] at h
                        exact h
                      have HSM := Lib.hid hsame
                      clear hsame hcb hca rz1 rz2 hbt hbg hNB hlj hpI hMI
                      go_wp2_with fail
                      go_region_held3 (fun w' => w'.cell? ⟨bb, boff + J, none⟩ = some (.slice QB MI qb) ∧ w'.cell? ⟨ab, aoff + I, none⟩ = some (.slice QA MI qa) ∧ (convert 25 9 (.slice QB MI qb)).run Tryd.prog w' = .ok (.string (strOf pI)) w' ∧ (convert 25 9 (.slice QA MI qa)).run Tryd.prog w' = .ok (.string (strOf pI)) w')
                        (first
                          | exact ⟨held1 z1 (by with_reducible repeat (first | exact FA2.out | exact FA1.out | exact Fr.refl _ _ | refine Fr.drew ?_ | refine Fr.alloc ?_ _)), held1 z2 (by with_reducible repeat (first | exact FA2.out | exact FA1.out | exact Fr.refl _ _ | refine Fr.drew ?_ | refine Fr.alloc ?_ _)), conv_str _ QB MI qb pI (RZ1.out.far (by with_reducible repeat (first | exact FA2.out | exact FA1.out | exact Fr.refl _ _ | refine Fr.drew ?_ | refine Fr.alloc ?_ _))), conv_str _ QA MI qa pI (RZ2.out.far (by with_reducible repeat (first | exact FA2.out | exact FA1.out | exact Fr.refl _ _ | refine Fr.drew ?_ | refine Fr.alloc ?_ _)))⟩)
                        (first
                          | (go_at_call 15; refine (HSM.out _ (by with_reducible repeat (first | exact FA2.out | exact FA1.out | exact Fr.refl _ _ | refine Fr.drew ?_ | refine Fr.alloc ?_ _))).mono ?_; rintro e w2 ⟨rfl, f2⟩
                             have FA1 := Lib.hid (Fr.trans (a := wh) (fp := fun _ => False) (by with_reducible repeat (first | exact FA2.out | exact FA1.out | exact Fr.refl _ _ | refine Fr.drew ?_ | refine Fr.alloc ?_ _)) f2 (fun _ _ h => h))
                             clear f2)
                          | (go_at_call 10; refine (awake_c _ (HN.out.far (FH.out.trans (by with_reducible repeat (first | exact FA2.out | exact FA1.out | exact Fr.refl _ _ | refine Fr.drew ?_ | refine Fr.alloc ?_ _)) (fun _ _ h => h)))).mono ?_; rintro e w3 ⟨rfl, f3⟩
                             have FA2 := Lib.hid (Fr.trans (a := wh) (fp := fun _ => False) (by with_reducible repeat (first | exact FA2.out | exact FA1.out | exact Fr.refl _ _ | refine Fr.drew ?_ | refine Fr.alloc ?_ _)) f3 (fun _ _ h => h))
                             clear f3))
                      all_goals
                        go_wp2_with fail
                        go_ret
                        exact ⟨rfl, FH.out.trans FA2.out (fun _ _ h => h)⟩
                    · as_aux_lemma =>
                      have hbq : ((SJ : Int) != (SI : Int)) = true := by simp; omega
                      have hto := tells_in_no ls I J hil (by rw [HLEN.out]; exact hJi) HFT.out (by rw [HSJ.out, HSI.out]; exact hne)
                      have hbl : bl = ls.take J := by
                        rw [← HBL.out, ← HLL.out, hto]
                      have HBLE := Lib.hid hbl
                      clear hne hto hbl
                      go_quiet (fail)
                      have G1 := Lib.hid ((Fr.refl (fun _ => False) wg).drewN nq)
                      generalize wg.drewN nq = wh at *
                      clear y1 y2 hb1 hb2
                      have FH := Lib.hid (FG.out.trans G1.out (fun _ _ h => h))
                      unfold maxLen at hk9m
                      have hmc : J ≤ c := by omega
                      have hsame := same_c wh A9 NB k9 bl (RB9.out.far G1.out) (by omega) A J c _ (((HR.out.far FH.out).take (k := J) (by omega))) (by omega)
                      rw [decide_eq_true HBLE.out] at hsame
                      have HSM := Lib.hid hsame
                      clear hsame
                      go_wp2_with fail
                      refine HSM.out.mono ?_
                      rintro e w6 ⟨rfl, f6⟩
                      have F6 := Lib.hid (FH.out.trans f6 (fun _ _ h => h))
                      clear f6
                      go_wp2_with fail
                      refine (HA.out _ F6.out).mono ?_
                      rintro e w12 ⟨rfl, f12⟩
                      have F12 := Lib.hid f12
                      clear f12
                      go_wp2_with fail
                      go_ret
                      exact ⟨rfl, F12.out⟩
end Go.Proofs.YtmaajihpkollcaaDoor
