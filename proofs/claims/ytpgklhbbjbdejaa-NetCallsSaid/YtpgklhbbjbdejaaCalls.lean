/-
  THE WALK of 'tidewracklaw22.NetCalls'.
-/
import Derived.Test.YtpgklhbbjbdejaaShw
namespace Go.Proofs.Ytpgklhbbjbdejaa
set_option linter.unusedSimpArgs false
set_option linter.unusedVariables false
open Go Go.RowKit Go.Maps

theorem Bo.gh3 {w0 W W' : World} {g mb h r i : Nat} {T : List Ms} {g2 mb2 h2 r2 i2 : Nat} {T2 : List Ms} (b : Bo w0 W g mb h r T i) (o : Bo w0 W g2 mb2 h2 r2 T2 i2) (f : Fr (Gh3 g2 mb2 h2) W W') (n1 : g ≠ g2) (n2 : mb ≠ mb2) (n3 : h ≠ h2) : Bo w0 W' g mb h r T i := by
  obtain ⟨lk, D, n, hB, hO, _⟩ := o.net.ex
  obtain ⟨A, c, E, hR, _⟩ := o.rf.ex
  obtain ⟨C3, hg⟩ := b.net.blk
  obtain ⟨A4, c4, E4, hr, _⟩ := b.rf.ex
  refine ⟨b.net.fr f (fun k e => ?_), b.rf.fr f (fun k e => ?_), b.fr.trans f (fun q hq e => by have := o.lo; rcases e with e | e | e <;> omega), b.lo⟩
  · rcases e with e | e | e
    · subst e; exact .inl ⟨_, _, hB, by decide, fun e => n1 e.symm⟩
    · subst e; exact .inr ⟨_, _, hO, fun e => n2 e.symm⟩
    · subst e; exact .inl ⟨_, _, hR, by decide, Blk.ne_ hR hg (by decide)⟩
  · rcases e with e | e | e
    · subst e; exact .inl ⟨_, _, hB, by decide, by decide, Blk.ne_ hB hr (by decide)⟩
    · subst e; exact .inr ⟨_, _, hO⟩
    · subst e; exact .inl ⟨_, _, hR, by decide, by decide, fun e => n3 e.symm⟩
set_option maxRecDepth 100000 in
set_option maxHeartbeats 40000000 in
theorem netCalls_c (w : World) (r : Int) (A : Option Addr) (n c : Nat) (xs : List Cx) (A' : Option Addr) (n' c' : Nat) (ys : List Cx) (hr : RdC w A n xs) (hok : ∀ x ∈ xs, x.Ok w) (hn : n ≤ 140737488355328) (hr' : RdC w A' n' ys) (hok' : ∀ x ∈ ys, x.Ok w) (hn' : n' ≤ 140737488355328) :
    Calls Try.prog 3 #[.int .i64 r, .slice A n c, .slice A' n' c'] w fun e w' => e = .returned (.bool true) ∧ Fr (fun _ => False) w w' := by
  have HM : Hid (∀ W, Fr (fun _ => False) w W → Calls Try.prog 10 #[.slice A n c] W fun e w' => (e = .returned (.bool true) ∨ (e = .returned (.bool false) ∧ n ≤ 400)) ∧ w' = W) := fun W hW => many_c W A n c xs (rdc_far hr hW) (fun x hx => (hok x hx).m1) hn
  have HM' : Hid (∀ W, Fr (fun _ => False) w W → Calls Try.prog 10 #[.slice A' n' c'] W fun e w' => (e = .returned (.bool true) ∨ (e = .returned (.bool false) ∧ n' ≤ 400)) ∧ w' = W) := fun W hW => many_c W A' n' c' ys (rdc_far hr' hW) (fun x hx => (hok' x hx).m1) hn'
  have HR := Lib.hid hr
  have HOK := Lib.hid hok
  have HR' := Lib.hid hr'
  have HOK' := Lib.hid hok'
  clear hr hok hr' hok'
  by_cases hr4 : 1 ≤ r ∧ r ≤ 4
  · obtain ⟨R, rfl⟩ := Int.eq_ofNat_of_zero_le (show 0 ≤ r by omega)
    have HN := Lib.hid (new_v w R (by omega) (by omega))
    have HR4 : Hid (1 ≤ R ∧ R ≤ 4) := by constructor <;> omega
    clear hr4
    go_enter Try.func3, Try.ntmps3
    go_wp2_with fail
    refine HN.out.mono ?_
    rintro e w1 ⟨mb, g, rfl, net, f1, h3, h4⟩
    have HRN := Lib.hid (rnew_c w1 R HR4.out.1 HR4.out.2)
    have NT := Lib.hid net
    have F1 := Lib.hid f1
    have LO := Lib.hid (And.intro h3 h4)
    clear net f1 h3 h4 HN
    go_wp2_with fail
    refine HRN.out.mono ?_
    rintro e w2 ⟨h, rfl, rf, f2, h5⟩
    have B2 : Hid (Bo w w2 g mb h R [] 0) := ⟨NT.out.far f2, rf, F1.out.trans f2 (fun _ _ e => e), LO.out.1, LO.out.2, by have := F1.out.size; omega⟩
    clear rf f2 h5 HRN NT F1 LO
    go_wp2_with fail
    refine (HM.out w2 B2.out.fr).mono ?_
    rintro e w3 ⟨rfl | ⟨rfl, hn4⟩, hw⟩
    · rw [hw]
      clear hw w3
      go_wp2_with fail
      refine (awake_c w2).mono ?_
      rintro e w4 ⟨rfl, f4⟩
      have F4 : Hid (Fr (fun _ => False) w w4) := B2.out.fr.trans f4 (fun _ _ h => h)
      clear f4
      go_wp2_with fail
      go_ret
      exact ⟨rfl, F4.out⟩
    · rw [hw]
      clear hw w3
      go_wp2_with fail
      refine (HM'.out w2 B2.out.fr).mono ?_
      rintro e w3 ⟨rfl | ⟨rfl, hn4'⟩, hw⟩
      · rw [hw]
        clear hw w3
        go_wp2_with fail
        refine (awake_c w2).mono ?_
        rintro e w4 ⟨rfl, f4⟩
        have F4 : Hid (Fr (fun _ => False) w w4) := B2.out.fr.trans f4 (fun _ _ h => h)
        clear f4
        go_wp2_with fail
        go_ret
        exact ⟨rfl, F4.out⟩
      · rw [hw]
        clear hw w3
        go_wp2_with fail
        go_loopw [10] (fun iv wr => ∃ k : Nat, iv = .int .i64 k ∧ k ≤ n ∧ Hid (∃ T, Bo w wr g mb h R T k)) (fun iv _ => n - (intOf iv).toNat)
        case atStart => exact ⟨0, rfl, Nat.zero_le _, _, B2.out⟩
        case round =>
          obtain ⟨k, rfl, hk, hst⟩ := hrel
          obtain ⟨T, st⟩ := hst.out
          have B := Lib.hid st
          clear hst st B2
          by_cases hlt : k < n
          · obtain ⟨b, off, x, rfl, hxm, c0, c1, c2, c3, c4⟩ := xcells (rdc_far HR.out B.out.fr) hlt
            have HC := Lib.hid (call_c B.out (by omega) HR4.out.2 x (HOK.out x hxm))
            clear hxm
            go_wp2_with fail
            refine HC.out.mono ?_
            rintro e w4 ⟨rfl, T2, b4, f4⟩
            have B4 := Lib.hid b4
            clear b4 f4 c0 c1 c2 c3 c4 HC
            by_cases h8 : ((k : Int) % 8) = 0
            · have e8 : (((k : Int) % 8) == 0) = true := beq_iff_eq.2 h8
              go_wp2_with fail
              refine (shows_c B4.out (by omega)).mono ?_
              rintro e w5 ⟨rfl, f5⟩
              have B5 := Lib.hid (B4.out.far f5)
              clear f5
              go_wp2_with fail
              go_roundw
              case rel => exact ⟨k + 1, by go_num, hlt, T2, B5.out⟩
              case measure => simp [intOf]; omega
            · have e8 : (((k : Int) % 8) == 0) = false := beq_eq_false_iff_ne.2 h8
              go_wp2_with fail
              go_roundw
              case rel => exact ⟨k + 1, by go_num, hlt, T2, B4.out⟩
              case measure => simp [intOf]; omega
          · obtain rfl : k = n := by omega
            clear hlt hk
            go_wp2_with fail
            refine (copy_c B.out.net).mono ?_
            rintro e w4 ⟨gc, mbc, rfl, nc, f4, l1, l2⟩
            have HNE : Hid (g ≠ gc ∧ mb ≠ mbc) := by have := B.out.net.lt; constructor <;> omega
            have B4 := Lib.hid (B.out.far f4)
            have HL2 : Hid (w.heap.size ≤ gc ∧ w.heap.size ≤ mbc ∧ w.heap.size ≤ w4.heap.size) := by have h1 := B.out.fr.size; have h2 := f4.size; refine ⟨?_, ?_, ?_⟩ <;> omega
            have NC := Lib.hid nc
            clear nc f4 l1 l2 B
            obtain ⟨Aa, ca, E, hB, hE, hO, hA⟩ := B4.out.rf.ex
            have HHO : Hid (h ≠ w4.heap.size) := by have := hB.lt; show _ ≠ _; omega
            have p0 : w4.cell? ⟨h, 0, none⟩ = some (.int .i64 (R : Nat)) := hB.cell 0
            have p1 : w4.cell? ⟨h, 1, none⟩ = some (.slice Aa T.length ca) := hB.cell 1
            have HX : Hid (∀ W, Fr (fun _ => False) w4 W → Blk W w4.heap.size 40 #[.int .i64 (R : Nat), .slice Aa T.length ca] → RefN W w4.heap.size R T) := fun W f b => ⟨Aa, ca, E, b, hE, own_fa hO f, fun e he => ⟨(hA e he).1, own_fa (hA e he).2 f⟩⟩
            clear hB hE hO hA
            go_wp2_with fail
            refine abs_wp (fun W => Hid (Bo w W g mb h R T k) ∧ Hid (Bo w W gc mbc w4.heap.size R T k)) ⟨B4.out.far ((Fr.refl _ _).alloc _), NC.out.far ((Fr.refl _ _).alloc _), HX.out _ ((Fr.refl _ _).alloc _) (Blk.new _ _ _), B4.out.fr.alloc _, HL2.out⟩ ?_
            rintro w5 ⟨B5, D5⟩
            obtain ⟨ho, hho⟩ : ∃ z, w4.heap.size = z := ⟨_, rfl⟩
            rw [hho] at D5 HHO ⊢
            clear B4 HL2 NC p0 p1 HX hho
            go_loopw [13] (fun iv wr => ∃ j : Nat, iv = .int .i64 j ∧ j ≤ n' ∧ Hid (∃ T2, Bo w wr g mb h R T k ∧ Bo w wr gc mbc ho R T2 (k + j))) (fun iv _ => n' - (intOf iv).toNat)
            case atStart => exact ⟨0, rfl, Nat.zero_le _, _, B5.out, D5.out⟩
            case round =>
              obtain ⟨j, rfl, hj, hst⟩ := hrel
              obtain ⟨T2, st1, st2⟩ := hst.out
              have B := Lib.hid st1
              have D := Lib.hid st2
              clear hst st1 st2 B5 D5
              by_cases hlt : j < n'
              · obtain ⟨b, off, x, rfl, hxm, c0, c1, c2, c3, c4⟩ := xcells (rdc_far HR'.out B.out.fr) hlt
                have HC := Lib.hid (call_c D.out (by omega) HR4.out.2 x (HOK'.out x hxm))
                clear hxm
                go_wp2_with fail
                refine HC.out.mono ?_
                rintro e w6 ⟨rfl, T3, b6, f6⟩
                have D6 := Lib.hid b6
                have B6 := Lib.hid (B.out.gh3 D.out f6 HNE.out.1 HNE.out.2 HHO.out)
                clear b6 f6 c0 c1 c2 c3 c4 HC
                go_wp2_with fail
                go_roundw
                case rel => exact ⟨j + 1, by go_num, hlt, T3, B6.out, D6.out⟩
                case measure => simp [intOf]; omega
              · go_wp2_with fail
                refine (shows_c B.out (by omega)).mono ?_
                rintro e w6 ⟨rfl, f6⟩
                have D6 := Lib.hid (D.out.far f6)
                clear f6
                go_wp2_with fail
                refine (shows_c D6.out (by omega)).mono ?_
                rintro e w7 ⟨rfl, f7⟩
                have D7 := Lib.hid (D6.out.far f7)
                clear f7
                go_wp2_with fail
                refine (awake_c w7).mono ?_
                rintro e w8 ⟨rfl, f8⟩
                have F8 : Hid (Fr (fun _ => False) w w8) := D7.out.fr.trans f8 (fun _ _ h => h)
                clear f8
                go_wp2_with fail
                go_ret
                exact ⟨rfl, F8.out⟩
  · have HN := Lib.hid (new_bad w r hr4)
    have HRB := Lib.hid (rnew_bad w r hr4)
    clear hr4
    go_enter Try.func3, Try.ntmps3
    go_wp2_with fail
    refine HN.out.mono ?_
    rintro e w1 ⟨rfl, hw⟩
    rw [hw]
    clear hw w1
    go_wp2_with fail
    refine HRB.out.mono ?_
    rintro e w1 ⟨rfl, hw⟩
    rw [hw]
    clear hw w1
    go_wp2_with fail
    refine (awake_c w).mono ?_
    rintro e w2 ⟨rfl, f2⟩
    have F2 := Lib.hid f2
    clear f2
    go_wp2_with fail
    go_ret
    exact ⟨rfl, F2.out⟩
end Go.Proofs.Ytpgklhbbjbdejaa
