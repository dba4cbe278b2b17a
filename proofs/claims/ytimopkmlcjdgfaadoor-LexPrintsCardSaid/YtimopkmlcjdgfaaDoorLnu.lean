/-
  CONTRACT of the reader number. Written by gen_lnu.py.
-/
import Derived.Test.YtimopkmlcjdgfaaDoorLsh
namespace Go.Proofs.YtimopkmlcjdgfaaDoor
set_option linter.unusedSimpArgs false
set_option linter.unusedVariables false
open Go Go.RowKit Go.Shelf

theorem takeW_step {b : UInt8} {r : List UInt8} (h : dgt b = true) : (b :: r).takeWhile dgt = b :: r.takeWhile dgt := by rw [List.takeWhile_cons, if_pos h]
theorem takeW_stop {b : UInt8} {r : List UInt8} (h : dgt b = false) : (b :: r).takeWhile dgt = [] := by rw [List.takeWhile_cons, if_neg (by rw [h]; decide)]
/-- The number's answer: v, and whether it is one. -/
def numOk (t rest : List UInt8) : Option Int := match Lib.parseIntB 64 t with
  | .ok v => if Lib.itoa v == t && endOk rest then some v else none
  | _ => none
def NumQ (s : List UInt8) (at_ n : Nat) (w : World) (e : Ending) (w' : World) : Prop := ∃ v : Int, -9223372036854775808 ≤ v ∧ v ≤ 9223372036854775807 ∧ RdQ 3 [] v n (numOk ((s.drop at_).take n) (s.drop (at_ + n))).isSome w e w' ∧ ∀ x, numOk ((s.drop at_).take n) (s.drop (at_ + n)) = some x → v = x
set_option maxRecDepth 100000 in
set_option maxHeartbeats 8000000 in
theorem number_c (w : World) (p at_ : Nat) (s : List UInt8) (hs : s.length ≤ 1000000) (hp : Blk w p 45 (xcs s at_)) (h : at_ < s.length) (hL : LaidOk w) :
    Calls Tryd.prog 38 #[.pointer (some ⟨p, 0, none⟩)] w (NumQ s at_ (1 + ((s.drop (at_ + 1)).takeWhile dgt).length) w) := by
  have hres := results_tii (P := Tryd.prog) (fn := Tryd.f38) (p := 2) (q := 3) (r := 4) (ty := 32) Tryd.results38
  have hsz := strOf_size s
  obtain ⟨g, hg⟩ : ∃ g, w.heap.size = g := ⟨_, rfl⟩
  have HG := Lib.hid hg
  have HPG : Hid (¬ p = g) := Lib.hid (by have := hp.lt; omega)
  have HGL : Hid (∀ k, k < 11 → ¬ k = g) := Lib.hid (fun k hk e => by have := hL.size; omega)
  have HP := Lib.hid hp
  have HL := Lib.hid hL
  clear hp hg hL
  obtain ⟨z, hz⟩ : ∃ z, 1 + ((s.drop (at_ + 1)).takeWhile dgt).length = z := ⟨_, rfl⟩
  rw [hz]
  have HZ := Lib.hid hz
  clear hz
  go_enter Tryd.func38, Tryd.ntmps38
  go_upto_region 1 with fail
  refine abs_world (fun W => Hid (Blk W w.heap.size 32 (tcs 0 [] 0 0)) ∧ Hid (Blk W p 45 (xcs s at_)) ∧ Hid (Fr (fun _ => False) w W)) ⟨Blk.new w _ _, HP.out.alloc _, (Fr.refl _ w).alloc _⟩ ?_
  rintro W1 ⟨Z0, P1, F1⟩
  rw [HG.out] at Z0 ⊢
  go_wp2_with fail
  go_loopw [5] (fun nv W => ∃ n : Nat, 1 ≤ n ∧ at_ + n ≤ s.length ∧ nv = .int .i64 (n : Int) ∧ Hid (z = n + ((s.drop (at_ + n)).takeWhile dgt).length) ∧ Hid (Blk W g 32 (tcs 0 [] 0 0)) ∧ Hid (Blk W p 45 (xcs s at_)) ∧ Hid (Fr (fun _ => False) w W)) (fun nv _ => s.length - (intOf nv).toNat)
  case atStart => exact ⟨1, Nat.le_refl _, h, rfl, HZ.out.symm, Z0.out, P1.out, F1.out⟩
  case round =>
    clear Z0 P1 F1
    clear W1
    obtain ⟨n, hn1, hn, rfl, hzn, Z0, P1, F1⟩ := hrel
    have c0 : wr.cell? ⟨p, 0, none⟩ = some (.string (strOf s)) := P1.out.cell 0
    have c1 : wr.cell? ⟨p, 1, none⟩ = some (.int .i64 (at_ : Nat)) := P1.out.cell 1
    have hwr : IntKind.i64.wrap ((at_ : Int) + (n : Int)) = (at_ : Int) + (n : Int) := IntWalk.i64_in _ (by omega)
    by_cases hmore : ∃ hlt : at_ + n < s.length, dgt s[at_ + n] = true
    case pos =>
      obtain ⟨hlt, hdg⟩ := hmore
      have HZ2 : Hid (z = n + 1 + ((s.drop (at_ + (n + 1))).takeWhile dgt).length) := Lib.hid (by
        rw [hzn.out, List.drop_eq_getElem_cons hlt, takeW_step hdg, List.length_cons]
        show _ = n + 1 + ((s.drop (at_ + n + 1)).takeWhile dgt).length
        omega)
      have d1 : decide ((at_ : Int) + (n : Int) < (s.length : Int)) = true := decide_eq_true (by omega)
      have d1' : decide (at_ + n < s.length) = true := decide_eq_true hlt
      have q1 : (0 : Int) ≤ (at_ : Int) + (n : Int) := by omega
      have q2 : (at_ : Int) + (n : Int) < (s.length : Int) := by omega
      have hix : ∀ W, (Instr.index 9 (.string (strOf s)) (.int .i64 ((at_ : Int) + (n : Int)))).run Tryd.prog W = .ok (.int .u8 ((s[at_ + n]).toNat : Nat)) W := fun W => run_index_str W s (at_ + n) hlt
      have hcl := u8_lt s[at_ + n]
      have DG := Lib.hid (fun W => digit_c W (s[at_ + n]).toNat hcl)
      rw [← dgt_n, hdg] at DG
      obtain ⟨x, hx⟩ : ∃ x, (s[at_ + n]).toNat = x := ⟨_, rfl⟩
      rw [hx] at hix DG hcl
      clear hdg hx
      go_upto_region 2 with fail
      go_quiet (first | (go_at_call 37; refine Calls.quiet_of_same ((DG.out _).mono fun e w' h => ⟨h.1, h.2.symm⟩)))
      go_wp2_with fail
      go_roundw
      case rel => exact ⟨n + 1, by omega, by omega, by go_num, HZ2.out, Z0.out.drewN _, P1.out.drewN _, F1.out.drewN _⟩
      case measure => simp [intOf]; omega
    case neg =>
      have HZ2 : Hid (z = n) := Lib.hid (by
        rw [hzn.out]
        by_cases hlt : at_ + n < s.length
        · rw [List.drop_eq_getElem_cons hlt, takeW_stop (by cases hd : dgt s[at_ + n] with | false => rfl | true => exact absurd ⟨hlt, hd⟩ hmore)]; rfl
        · rw [List.drop_eq_nil_of_le (by omega)]; rfl)
      have stop : ∀ W5, Blk W5 g 32 (tcs 0 [] 0 0) → Blk W5 p 45 (xcs s at_) → Fr (fun _ => False) w W5 → True := fun _ _ _ _ => trivial
      clear stop
      go_upto_region 2 with fail
      go_cut [34] from 9 to 36 (fun v W => v = .bool false ∧ Hid (Blk W g 32 (tcs 0 [] 0 0)) ∧ Hid (Blk W p 45 (xcs s at_)) ∧ Hid (Fr (fun _ => False) w W))
      case first =>
        by_cases hlt : at_ + n < s.length
        case pos =>
          have hdg : dgt s[at_ + n] = false := by cases hd : dgt s[at_ + n] with | false => rfl | true => exact absurd ⟨hlt, hd⟩ hmore
          have d1 : decide ((at_ : Int) + (n : Int) < (s.length : Int)) = true := decide_eq_true (by omega)
          have d1' : decide (at_ + n < s.length) = true := decide_eq_true hlt
          have q1 : (0 : Int) ≤ (at_ : Int) + (n : Int) := by omega
          have q2 : (at_ : Int) + (n : Int) < (s.length : Int) := by omega
          have hix : ∀ W, (Instr.index 9 (.string (strOf s)) (.int .i64 ((at_ : Int) + (n : Int)))).run Tryd.prog W = .ok (.int .u8 ((s[at_ + n]).toNat : Nat)) W := fun W => run_index_str W s (at_ + n) hlt
          have hcl := u8_lt s[at_ + n]
          have DG := Lib.hid (fun W => digit_c W (s[at_ + n]).toNat hcl)
          rw [← dgt_n, hdg] at DG
          obtain ⟨x, hx⟩ : ∃ x, (s[at_ + n]).toNat = x := ⟨_, rfl⟩
          rw [hx] at hix DG hcl
          clear hdg hx hmore
          go_quiet (first | (go_at_call 37; refine Calls.quiet_of_same ((DG.out _).mono fun e w' h => ⟨h.1, h.2.symm⟩)))
          go_wp2_with fail
          go_meet
          exact ⟨rfl, Z0.out.drewN _, P1.out.drewN _, F1.out.drewN _⟩
        case neg =>
          have d1 : decide ((at_ : Int) + (n : Int) < (s.length : Int)) = false := decide_eq_false (by omega)
          have d1' : decide (at_ + n < s.length) = false := decide_eq_false hlt
          clear hmore
          go_quiet (fail)
          go_wp2_with fail
          go_meet
          exact ⟨rfl, Z0.out.drewN _, P1.out.drewN _, F1.out.drewN _⟩
      case rest =>
        clear c0 c1 Z0 P1 F1 hmore
        obtain ⟨rfl, Z0, P1, F1⟩ := hcut
        obtain ⟨W1, hwe⟩ : ∃ q : World, q = wc := ⟨_, rfl⟩
        subst hwe
        have c0 : W1.cell? ⟨p, 0, none⟩ = some (.string (strOf s)) := P1.out.cell 0
        have c1 : W1.cell? ⟨p, 1, none⟩ = some (.int .i64 (at_ : Nat)) := P1.out.cell 1
        have hsl : ∀ W, (Instr.slice 9 (.string (strOf s)) (some (.int .i64 (at_ : Nat))) (some (.int .i64 ((at_ : Int) + (n : Int)))) none).run Tryd.prog W = .ok (.string (strOf ((s.drop at_).take n))) W := fun W => by
          have h1 := run_sub W s at_ (at_ + n) (by omega) (by omega)
          rw [show at_ + n - at_ = n by omega] at h1
          exact h1
        have q1 : (0 : Int) ≤ (at_ : Int) + (n : Int) := by omega
        have q2 : (at_ : Int) + (n : Int) ≤ (s.length : Int) := by omega
        have q3 : (at_ : Int) ≤ (at_ : Int) + (n : Int) := by omega
        have htl : ((s.drop at_).take n).length ≤ 1000000 ∨ True := .inr trivial
        clear htl
        have hxt : ((s.drop at_).take n).length = n := by rw [List.length_take, List.length_drop]; omega
        have HXT := Lib.hid hxt
        obtain ⟨tx, htx⟩ : ∃ tx, (s.drop at_).take n = tx := ⟨_, rfl⟩
        rw [htx] at hsl HXT
        have HTX := Lib.hid htx
        have hex : (strOf s).extract at_ ((at_ : Int) + (n : Int)).toNat = strOf tx := by
          rw [show ((at_ : Int) + (n : Int)).toNat = at_ + n by omega, strOf_sub s at_ (at_ + n) (by omega) (by omega), show at_ + n - at_ = n by omega, htx]
        clear hxt htx
        go_upto_region 4 with fail
        go_quiet (fail)
        refine abs_exit (fun W => Hid (Blk W g 32 (tcs 0 [] 0 0)) ∧ Hid (Blk W p 45 (xcs s at_)) ∧ Hid (Fr (fun _ => False) w W)) ⟨Z0.out.drewN _, P1.out.drewN _, F1.out.drewN _⟩ ?_
        clear c0 c1 Z0 P1 F1 hsl q1 q2 q3 hex
        clear W1
        rintro W1 ⟨Z0, P1, F1⟩
        have PI := Lib.hid (parseInt_c W1 tx (by rw [HXT.out]; omega) (HL.out.far F1.out))
        go_wp2_with fail
        refine PI.out.mono ?_
        rintro e W2 ⟨f2, hr⟩
        replace Z0 := Lib.hid (keepB Z0.out f2)
        replace P1 := Lib.hid (keepB P1.out f2)
        replace F1 : Hid (Fr (fun _ => False) w W2) := Lib.hid (F1.out.trans f2 (fun _ _ h => h))
        clear f2 PI
        clear W1
        obtain ⟨W1, hwe⟩ : ∃ q : World, q = W2 := ⟨_, rfl⟩
        subst hwe
        obtain ⟨ok, hok⟩ : ∃ q, endOk (s.drop (at_ + n)) = q := ⟨_, rfl⟩
        have HOK := Lib.hid hok
        clear hok
        rcases hr with ⟨v, hpv, hv0, hv1, rfl⟩ | ⟨hno, v, et, ep, hv0, hv1, rfl⟩
        · have EN := Lib.hid (fun W h => ends_c W p at_ n s (by omega) h hn)
          rw [HOK.out] at EN
          have HL1 := Lib.hid (HL.out.far F1.out)
          have G0 : Hid (Fr (fun q => q = g) W1 W1.drew) := Lib.hid ((Fr.refl _ W1).drew)
          have FM := Lib.hid (fun W h => format_c W v hv0 hv1 h)
          have hst : ((strOf (Lib.itoa v)).toList == (strOf tx).toList) = (Lib.itoa v == tx) := by rw [strOf_toList, strOf_toList]
          cases hb : (Lib.itoa v == tx) with
          | false =>
            have HNO : Hid (numOk tx (s.drop (at_ + n)) = none) := Lib.hid (by unfold numOk; rw [hpv]; simp [hb])
            have HST := Lib.hid (hst.trans hb)
            clear hst hb hpv
            go_upto_region 6 with fail
            have S1 := Lib.hid (show (Tryd.prog.info? 32).map (·.size) = some (tcs 3 [] v 0).size from tsize)
            have HO1 := Lib.hid (show (tcs 3 [] v 0).all (·.oneCell') = true by simp [tcs, Value.oneCell'])
            have hst' := HST.out
            go_wp2_with fail
            refine (FM.out W1 HL1.out).mono ?_
            rintro e W3 ⟨rfl, f3⟩
            replace Z0 := Lib.hid (keepB Z0.out f3)
            replace P1 := Lib.hid (keepB P1.out f3)
            replace F1 : Hid (Fr (fun _ => False) w W3) := Lib.hid (F1.out.trans f3 (fun _ _ h => h))
            clear f3
            go_wp2_with (refine wpList_store_blk rfl 32 _ _ rfl g (tcs 3 [] v 0) rfl rfl Z0.out rfl S1.out HO1.out ?_
                         intro W9 q9 f9
                         have F9 := Lib.hid f9
                         have Q9 := Lib.hid q9
                         clear q9 f9)
            refine bodyPost_ret (v := .tuple #[.agg (tcs 3 [] v 0), .int .i64 (n : Nat), .bool false]) (hres _ W9 g 32 _ _ _ _ rfl rfl rfl Q9.out Tryd.underlying32 rfl S1.out) rfl ?_
            have hg := HG.out
            unfold NumQ
            rw [HZ2.out, HTX.out, HNO.out]
            refine ⟨v, hv0, hv1, ⟨rfl, F1.out.trans F9.out (fun q hq e => by omega)⟩, fun x hx => nomatch hx⟩
          | true =>
            have HNO : Hid (numOk tx (s.drop (at_ + n)) = if ok then some v else none) := Lib.hid (by unfold numOk; rw [hpv]; simp [hb, HOK.out])
            have HST := Lib.hid (hst.trans hb)
            clear hst hb hpv
            go_upto_region 6 with fail
            have S1 := Lib.hid (show (Tryd.prog.info? 32).map (·.size) = some (tcs 3 [] v 0).size from tsize)
            have HO1 := Lib.hid (show (tcs 3 [] v 0).all (·.oneCell') = true by simp [tcs, Value.oneCell'])
            have hst' := HST.out
            go_wp2_with fail
            refine (FM.out W1 HL1.out).mono ?_
            rintro e W3 ⟨rfl, f3⟩
            replace Z0 := Lib.hid (keepB Z0.out f3)
            replace P1 := Lib.hid (keepB P1.out f3)
            replace F1 : Hid (Fr (fun _ => False) w W3) := Lib.hid (F1.out.trans f3 (fun _ _ h => h))
            clear f3
            go_wp2_with fail
            refine (EN.out _ P1.out).mono ?_
            rintro e W4 ⟨rfl, rfl⟩
            go_wp2_with (refine wpList_store_blk rfl 32 _ _ rfl g (tcs 3 [] v 0) rfl rfl Z0.out rfl S1.out HO1.out ?_
                         intro W9 q9 f9
                         have F9 := Lib.hid f9
                         have Q9 := Lib.hid q9
                         clear q9 f9)
            refine bodyPost_ret (v := .tuple #[.agg (tcs 3 [] v 0), .int .i64 (n : Nat), .bool ok]) (hres _ W9 g 32 _ _ _ _ rfl rfl rfl Q9.out Tryd.underlying32 rfl S1.out) rfl ?_
            have hg := HG.out
            unfold NumQ
            rw [HZ2.out, HTX.out, HNO.out]
            refine ⟨v, hv0, hv1, ⟨by cases ok <;> rfl, F1.out.trans F9.out (fun q hq e => by omega)⟩, fun x hx => by cases ok with | false => cases hx | true => injection hx⟩
        · have HNO : Hid (numOk tx (s.drop (at_ + n)) = none) := Lib.hid (by
            unfold numOk
            cases hq : Lib.parseIntB 64 tx with
            | ok x => exact absurd hq (hno x)
            | _ => rfl)
          clear hno
          go_upto_region 6 with fail
          have S1 := Lib.hid (show (Tryd.prog.info? 32).map (·.size) = some (tcs 3 [] v 0).size from tsize)
          have HO1 := Lib.hid (show (tcs 3 [] v 0).all (·.oneCell') = true by simp [tcs, Value.oneCell'])
          go_wp2_with (refine wpList_store_blk rfl 32 _ _ rfl g (tcs 3 [] v 0) rfl rfl Z0.out rfl S1.out HO1.out ?_
                       intro W9 q9 f9
                       have F9 := Lib.hid f9
                       have Q9 := Lib.hid q9
                       clear q9 f9)
          refine bodyPost_ret (v := .tuple #[.agg (tcs 3 [] v 0), .int .i64 (n : Nat), .bool false]) (hres _ W9 g 32 _ _ _ _ rfl rfl rfl Q9.out Tryd.underlying32 rfl S1.out) rfl ?_
          have hg := HG.out
          unfold NumQ
          rw [HZ2.out, HTX.out, HNO.out]
          refine ⟨v, hv0, hv1, ⟨rfl, F1.out.trans F9.out (fun q hq e => by omega)⟩, fun x hx => nomatch hx⟩

end Go.Proofs.YtimopkmlcjdgfaaDoor
