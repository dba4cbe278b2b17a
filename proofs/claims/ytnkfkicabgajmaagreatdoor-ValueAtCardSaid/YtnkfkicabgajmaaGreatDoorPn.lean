/-
  CONTRACT of the parser's number.
-/
import Derived.Test.YtnkfkicabgajmaaGreatDoorPb
namespace Go.Proofs.YtnkfkicabgajmaaGreatDoor
set_option linter.unusedSimpArgs false
set_option linter.unusedVariables false
open Go Go.RowKit

/-- What a parser's call leaves: a value of its own, and where it stands. -/
def PvQ (o : Option (V × List UInt8)) (p : Nat) (s : List UInt8) (w : World) (e : Ending) (w' : World) : Prop :=
  ∃ C v r b, e = .returned (.agg C) ∧ OwnV w' (fun q => w.heap.size ≤ q ∧ q < w'.heap.size) C v ∧ Sm v ∧ Blk w' p 66 (pcs r b) ∧ Fr (fun k => k = p) w w' ∧ r.length ≤ s.length ∧ ((o = some (v, r) ∧ b = false) ∨ (o = none ∧ b = true))
/-- The value of a number's text. -/
def pNum (s : List UInt8) : Option (V × List UInt8) := match Lib.parseIntB 64 (s.takeWhile isNum) with
  | .ok n => some (.mk 3 n [] [] [], s.dropWhile isNum)
  | _ => none
theorem OwnV.flat_ (F : Nat → Prop) (w : World) {k n : Int} {t : List UInt8} (hb : VB k n t 0 []) : OwnV w F (vcs k n t none 0 0 none 0 0) (.mk k n t [] []) :=
  OwnV.of (l := []) (ks := []) (css := []) (Fs := fun _ _ => False) hb
    ⟨World.ownsRow_nil w _ _ _, fun g h => by simp [Value.ownBlock] at h⟩
    ⟨World.ownsRow_nil w _ _ _, fun g h => by simp [Value.ownBlock] at h, rfl, fun _ h => by (cases h), fun i b h => by (simp at h), fun i j b h => by (simp at h), fun i C x h => by simp at h⟩ (fun i b h => by simp at h)
theorem Sm.flat_ {k n : Int} {t : List UInt8} (h : t.length ≤ 1000000) : Sm (.mk k n t [] []) := .mk h (Nat.zero_le _) (Nat.zero_le _) (fun _ h => by cases h) (fun _ h => by cases h)
theorem while_at {s : List UInt8} {n : Nat} (hn : n ≤ s.length) (h1 : ∀ j (h : j < s.length), j < n → isNum s[j] = true) (h2 : ∀ h : n < s.length, isNum s[n] = false) : s.takeWhile isNum = s.take n ∧ s.dropWhile isNum = s.drop n := by
  have h := takeWhile_app (p := isNum) (s.take n) (s.drop n) (fun c hc => by
    obtain ⟨j, hj, rfl⟩ := List.mem_iff_getElem.1 hc
    rw [List.length_take] at hj
    rw [List.getElem_take]
    exact h1 j (by omega) (by omega)) (fun c m hcm => by
    by_cases hl : n < s.length
    · rw [List.drop_eq_getElem_cons hl] at hcm
      injection hcm with hcm
      rw [← hcm]
      exact h2 hl
    · rw [List.drop_eq_nil_of_le (by omega)] at hcm
      cases hcm)
  rwa [List.take_append_drop] at h
theorem strOf_take (s : List UInt8) (i : Nat) (h : i ≤ s.length) : (strOf s).extract 0 i = strOf (s.take i) := by
  apply ByteArray.ext
  simp [strOf, ByteArray.data_extract]
theorem run_take (W : World) (s : List UInt8) (i : Nat) (h : i ≤ s.length) : (Instr.slice 9 (.string (strOf s)) none (some (.int .i64 (i : Nat))) none).run Tryz.prog W = .ok (.string (strOf (s.take i))) W := by
  rw [run_slice_string_to_if W 9 (strOf s) .i64 (i : Nat) Tryz.underlying9]
  rw [if_pos ⟨by omega, by rw [strOf_size]; omega⟩]
  congr 2
  rw [← strOf_take s i h]
  congr 1
set_option maxRecDepth 100000 in
set_option maxHeartbeats 4000000 in
theorem pnumber_c (w : World) (p : Nat) (s : List UInt8) (hs : s.length ≤ 1000) (hp : Blk w p 66 (pcs s false)) (hL : LaidOk w) (h8 : 8 ≤ p) :
    Calls Tryz.prog 72 #[.pointer (some ⟨p, 0, none⟩)] w (PvQ (pNum s) p s w) := by
  have hplt := hp.lt
  have hsz := strOf_size s
  have HP := Lib.hid hp
  have HL := Lib.hid hL
  clear hp hL
  go_enter Tryz.func72, Tryz.ntmps72
  go_upto_region 1 with fail
  refine abs_world (fun W => Hid (Blk W w.heap.size 25 (vcs 0 0 [] none 0 0 none 0 0)) ∧ Hid (Blk W p 66 (pcs s false)) ∧ Hid (Fr (fun _ => False) w W)) ⟨Blk.new w _ _, HP.out.alloc _, (Fr.refl _ w).alloc _⟩ ?_
  rintro W1 ⟨B1, P1, F1⟩
  have c0 : W1.cell? ⟨p, 0, none⟩ = some (.string (strOf s)) := P1.out.cell 0
  go_wp2_with fail
  go_loop [3] (fun nv => ∃ n : Nat, n ≤ s.length ∧ nv = .int .i64 (n : Int) ∧ Hid (∀ j (h : j < s.length), j < n → isNum s[j] = true)) (fun nv => s.length - (intOf nv).toNat)
  case atStart => exact ⟨0, Nat.zero_le _, rfl, fun j h h' => by omega⟩
  case round =>
    obtain ⟨n, hn, rfl, hall⟩ := hrel
    by_cases hgo : ∃ h : n < s.length, isNum s[n] = true
    case pos =>
      obtain ⟨hlt, hnum⟩ := hgo
      have hd1 : decide ((n : Int) < (s.length : Int)) = true := decide_eq_true (by omega)
      have hd1' : decide (n < s.length) = true := decide_eq_true hlt
      have hix := fun W => run_index_str W s n hlt
      have HN := Lib.hid hnum
      have hcase : (s[n]).toNat = 45 ∨ ((s[n]).toNat ≠ 45 ∧ 48 ≤ (s[n]).toNat ∧ (s[n]).toNat ≤ 57) := by
        unfold isNum at hnum
        simp only [Bool.or_eq_true, Bool.and_eq_true, beq_iff_eq, decide_eq_true_eq] at hnum
        rcases hnum with h | h
        · left; rw [h]; rfl
        · by_cases h45 : (s[n]).toNat = 45
          · exact .inl h45
          · exact .inr ⟨h45, h⟩
      have HALL : Hid (∀ j (h : j < s.length), j < n + 1 → isNum s[j] = true) := Lib.hid fun j h hj => by
        rcases Nat.lt_or_ge j n with h' | h'
        · exact hall.out j h h'
        · obtain rfl : j = n := by omega
          exact HN.out
      clear hnum
      obtain ⟨y, hy⟩ : ∃ y, (s[n]).toNat = y := ⟨_, rfl⟩
      rw [hy] at hcase
      simp only [hy] at hix
      clear hy
      rcases hcase with rfl | ⟨h45, h48, h57⟩
      · go_wp2_with fail
        go_round
        case rel => exact ⟨n + 1, by omega, by go_num, HALL.out⟩
        case measure => simp [intOf]; omega
      · have e1 : ((y : Int) == 45) = false := by simp; omega
        have e1' : (y == 45) = false := by simp; omega
        have e2 : decide (48 ≤ (y : Int)) = true := decide_eq_true (by omega)
        have e2' : decide (48 ≤ y) = true := decide_eq_true h48
        have e3 : decide ((y : Int) ≤ 57) = true := decide_eq_true (by omega)
        have e3' : decide (y ≤ 57) = true := decide_eq_true h57
        clear h45
        go_wp2_with fail
        go_round
        case rel => exact ⟨n + 1, by omega, by go_num, HALL.out⟩
        case measure => simp [intOf]; omega
    case neg =>
      have hw := while_at hn hall.out (fun h => by
        cases hq : isNum s[n] with
        | true => exact absurd ⟨h, hq⟩ hgo
        | false => rfl)
      have HTK := Lib.hid hw.1
      have HDW := Lib.hid hw.2
      have htake : ∀ W, (Instr.slice 9 (.string (strOf s)) none (some (.int .i64 (n : Int))) none).run Tryz.prog W = .ok (.string (strOf (s.take n))) W := fun W => run_take W s n hn
      have hdropr : ∀ W, (Instr.slice 9 (.string (strOf s)) (some (.int .i64 (n : Int))) none none).run Tryz.prog W = .ok (.string (strOf (s.drop n))) W := fun W => run_drop W s n hn
      have PI := Lib.hid (parseInt_c W1 (s.take n) (by rw [List.length_take]; omega) (HL.out.far F1.out))
      clear hw
      -- out of the loop, whichever test failed
      have hways : (n = s.length) ∨ (∃ h : n < s.length, (s[n]).toNat ≠ 45 ∧ ((s[n]).toNat < 48 ∨ 57 < (s[n]).toNat)) := by
        by_cases hl : n < s.length
        · right
          refine ⟨hl, ?_⟩
          have hq : isNum s[n] = false := by
            cases hq : isNum s[n] with
            | true => exact absurd ⟨hl, hq⟩ hgo
            | false => rfl
          unfold isNum at hq
          simp only [Bool.or_eq_false_iff, beq_eq_false_iff_ne, Bool.and_eq_false_iff, decide_eq_false_iff_not] at hq
          refine ⟨fun h => hq.1 (UInt8.toNat_inj.1 (by rw [h]; rfl)), ?_⟩
          omega
        · left; omega
      clear hgo
      rcases hways with hnl | ⟨hl, hne, hlo | hhi⟩
      · have d1 : decide ((n : Int) < (s.length : Int)) = false := decide_eq_false (by omega)
        have d1' : decide (n < s.length) = false := decide_eq_false (by omega)
        clear hnl
        go_upto_region 4 with fail
        go_wp2_with fail
        refine PI.out.mono ?_
        rintro e W2 ⟨f2, hx2⟩
        have F2 := Lib.hid f2
        have P2 := Lib.hid (keepB P1.out f2)
        have B2 := Lib.hid (keepB B1.out f2)
        clear f2 c0 PI
        have c0 : W2.cell? ⟨p, 0, none⟩ = some (.string (strOf s)) := P2.out.cell 0
        have c1 : W2.cell? ⟨p, 1, none⟩ = some (.bool false) := P2.out.cell 1
        have z0 : W2.frozen? ⟨p, 0, none⟩ = false := P2.out.frozen 0
        have z1 : W2.frozen? ⟨p, 1, none⟩ = false := P2.out.frozen 1
        have H2 := Lib.hid hx2
        clear hx2
        rcases H2.out with ⟨v, hv, hv0, hv1, rfl⟩ | ⟨hv, v, tt, pp, hv0, hv1, rfl⟩
        · have HV : Hid (pNum s = some (.mk 3 v [] [] [], s.drop n)) := Lib.hid (by unfold pNum; rw [HTK.out, hv, HDW.out])
          clear hv H2
          go_upto_region 7 with fail
          refine abs_world (fun W => Hid (Blk W p 66 (pcs (s.drop n) false)) ∧ Hid (Blk W w.heap.size 25 (vcs 0 0 [] none 0 0 none 0 0)) ∧ Hid (Fr (fun k => k = p) W2 W)) ⟨(P2.out.set_ 1 _).set_ 0 _, (B2.out.far (by show w.heap.size ≠ p; omega) _).far (by show w.heap.size ≠ p; omega) _, ((Fr.refl (fun k => k = p) W2).setCell (p := ⟨p, 1, none⟩) (fun _ => rfl) _).setCell (p := ⟨p, 0, none⟩) (fun _ => rfl) _⟩ ?_
          rintro W3 ⟨P3, B3, F3⟩
          go_wp2_with fail
          refine (number_val W3 v).mono ?_
          rintro e W4 ⟨rfl, f4⟩
          have F4 := Lib.hid f4
          have B4 := Lib.hid (keepB B3.out f4)
          have P4 := Lib.hid (keepB P3.out f4)
          have S1 := Lib.hid (show (Tryz.prog.info? 25).map (·.size) = some (vcs 3 v [] none 0 0 none 0 0).size from lw5)
          have HO1 := Lib.hid (show (vcs 3 v [] none 0 0 none 0 0).all (·.oneCell') = true by simp [vcs, Value.oneCell'])
          clear f4 c0 c1 z0 z1 htake hdropr
          go_wp2_with (refine wpList_store_blk rfl 25 _ _ rfl w.heap.size (vcs 3 v [] none 0 0 none 0 0) rfl rfl B4.out rfl S1.out HO1.out ?_
                       intro W6 q6 f6
                       have F6 := Lib.hid f6
                       have Q6 := Lib.hid q6
                       clear q6 f6)
          refine bodyPost_ret (v := .agg (vcs 3 v [] none 0 0 none 0 0)) (results_one (P := Tryz.prog) (fn := Tryz.f72) (p := 2) (ty := 25) Tryz.results72 _ W6 w.heap.size 25 _ _ rfl Q6.out Tryz.underlying25 rfl S1.out) rfl ?_
          have FA : Fr (fun k => k = p) w W4 := (F1.out.trans F2.out (fun _ _ h => h)).false_.trans (F3.out.trans F4.out.false_ (fun _ _ h => h)) (fun _ _ h => h)
          refine ⟨_, _, s.drop n, false, rfl, OwnV.flat_ _ _ ⟨by decide, by decide, hv0, hv1, Nat.zero_le _, Nat.zero_le _, Nat.zero_le _, fun _ h => by cases h⟩, Sm.flat_ (Nat.zero_le _), P4.out.fr F6.out (fun h => by have : p = w.heap.size := h; omega), FA.trans F6.out (fun i hi hq => by have : i = w.heap.size := hq; omega), by simp, .inl ⟨HV.out, rfl⟩⟩
        · have HV : Hid (pNum s = none) := Lib.hid (by
            unfold pNum
            rw [HTK.out]
            cases hq : Lib.parseIntB 64 (s.take n) with
            | ok u => exact absurd hq (hv u)
            | _ => rfl)
          clear hv H2
          go_upto_region 7 with fail
          refine abs_world (fun W => Hid (Blk W p 66 (pcs (s.drop n) true)) ∧ Hid (Blk W w.heap.size 25 (vcs 0 0 [] none 0 0 none 0 0)) ∧ Hid (Fr (fun k => k = p) W2 W)) ⟨(P2.out.set_ 1 _).set_ 0 _, (B2.out.far (by show w.heap.size ≠ p; omega) _).far (by show w.heap.size ≠ p; omega) _, ((Fr.refl (fun k => k = p) W2).setCell (p := ⟨p, 1, none⟩) (fun _ => rfl) _).setCell (p := ⟨p, 0, none⟩) (fun _ => rfl) _⟩ ?_
          rintro W3 ⟨P3, B3, F3⟩
          go_wp2_with fail
          refine (number_val W3 v).mono ?_
          rintro e W4 ⟨rfl, f4⟩
          have F4 := Lib.hid f4
          have B4 := Lib.hid (keepB B3.out f4)
          have P4 := Lib.hid (keepB P3.out f4)
          have S1 := Lib.hid (show (Tryz.prog.info? 25).map (·.size) = some (vcs 3 v [] none 0 0 none 0 0).size from lw5)
          have HO1 := Lib.hid (show (vcs 3 v [] none 0 0 none 0 0).all (·.oneCell') = true by simp [vcs, Value.oneCell'])
          clear f4 c0 c1 z0 z1 htake hdropr
          go_wp2_with (refine wpList_store_blk rfl 25 _ _ rfl w.heap.size (vcs 3 v [] none 0 0 none 0 0) rfl rfl B4.out rfl S1.out HO1.out ?_
                       intro W6 q6 f6
                       have F6 := Lib.hid f6
                       have Q6 := Lib.hid q6
                       clear q6 f6)
          refine bodyPost_ret (v := .agg (vcs 3 v [] none 0 0 none 0 0)) (results_one (P := Tryz.prog) (fn := Tryz.f72) (p := 2) (ty := 25) Tryz.results72 _ W6 w.heap.size 25 _ _ rfl Q6.out Tryz.underlying25 rfl S1.out) rfl ?_
          have FA : Fr (fun k => k = p) w W4 := (F1.out.trans F2.out (fun _ _ h => h)).false_.trans (F3.out.trans F4.out.false_ (fun _ _ h => h)) (fun _ _ h => h)
          refine ⟨_, _, s.drop n, true, rfl, OwnV.flat_ _ _ ⟨by decide, by decide, hv0, hv1, Nat.zero_le _, Nat.zero_le _, Nat.zero_le _, fun _ h => by cases h⟩, Sm.flat_ (Nat.zero_le _), P4.out.fr F6.out (fun h => by have : p = w.heap.size := h; omega), FA.trans F6.out (fun i hi hq => by have : i = w.heap.size := hq; omega), by simp, .inr ⟨HV.out, rfl⟩⟩
      · have d1 : decide ((n : Int) < (s.length : Int)) = true := decide_eq_true (by omega)
        have d1' : decide (n < s.length) = true := decide_eq_true hl
        have hix := fun W => run_index_str W s n hl
        obtain ⟨y, hy⟩ : ∃ y, (s[n]).toNat = y := ⟨_, rfl⟩
        rw [hy] at hne hlo
        simp only [hy] at hix
        have e1 : ((y : Int) == 45) = false := by simp; omega
        have e1' : (y == 45) = false := by simp; omega
        have e2 : decide (48 ≤ (y : Int)) = false := decide_eq_false (by omega)
        have e2' : decide (48 ≤ y) = false := decide_eq_false (by omega)
        clear hy hne hlo
        go_upto_region 4 with fail
        go_wp2_with fail
        refine PI.out.mono ?_
        rintro e W2 ⟨f2, hx2⟩
        have F2 := Lib.hid f2
        have P2 := Lib.hid (keepB P1.out f2)
        have B2 := Lib.hid (keepB B1.out f2)
        clear f2 c0 PI
        have c0 : W2.cell? ⟨p, 0, none⟩ = some (.string (strOf s)) := P2.out.cell 0
        have c1 : W2.cell? ⟨p, 1, none⟩ = some (.bool false) := P2.out.cell 1
        have z0 : W2.frozen? ⟨p, 0, none⟩ = false := P2.out.frozen 0
        have z1 : W2.frozen? ⟨p, 1, none⟩ = false := P2.out.frozen 1
        have H2 := Lib.hid hx2
        clear hx2
        rcases H2.out with ⟨v, hv, hv0, hv1, rfl⟩ | ⟨hv, v, tt, pp, hv0, hv1, rfl⟩
        · have HV : Hid (pNum s = some (.mk 3 v [] [] [], s.drop n)) := Lib.hid (by unfold pNum; rw [HTK.out, hv, HDW.out])
          clear hv H2
          go_upto_region 7 with fail
          refine abs_world (fun W => Hid (Blk W p 66 (pcs (s.drop n) false)) ∧ Hid (Blk W w.heap.size 25 (vcs 0 0 [] none 0 0 none 0 0)) ∧ Hid (Fr (fun k => k = p) W2 W)) ⟨(P2.out.set_ 1 _).set_ 0 _, (B2.out.far (by show w.heap.size ≠ p; omega) _).far (by show w.heap.size ≠ p; omega) _, ((Fr.refl (fun k => k = p) W2).setCell (p := ⟨p, 1, none⟩) (fun _ => rfl) _).setCell (p := ⟨p, 0, none⟩) (fun _ => rfl) _⟩ ?_
          rintro W3 ⟨P3, B3, F3⟩
          go_wp2_with fail
          refine (number_val W3 v).mono ?_
          rintro e W4 ⟨rfl, f4⟩
          have F4 := Lib.hid f4
          have B4 := Lib.hid (keepB B3.out f4)
          have P4 := Lib.hid (keepB P3.out f4)
          have S1 := Lib.hid (show (Tryz.prog.info? 25).map (·.size) = some (vcs 3 v [] none 0 0 none 0 0).size from lw5)
          have HO1 := Lib.hid (show (vcs 3 v [] none 0 0 none 0 0).all (·.oneCell') = true by simp [vcs, Value.oneCell'])
          clear f4 c0 c1 z0 z1 htake hdropr
          go_wp2_with (refine wpList_store_blk rfl 25 _ _ rfl w.heap.size (vcs 3 v [] none 0 0 none 0 0) rfl rfl B4.out rfl S1.out HO1.out ?_
                       intro W6 q6 f6
                       have F6 := Lib.hid f6
                       have Q6 := Lib.hid q6
                       clear q6 f6)
          refine bodyPost_ret (v := .agg (vcs 3 v [] none 0 0 none 0 0)) (results_one (P := Tryz.prog) (fn := Tryz.f72) (p := 2) (ty := 25) Tryz.results72 _ W6 w.heap.size 25 _ _ rfl Q6.out Tryz.underlying25 rfl S1.out) rfl ?_
          have FA : Fr (fun k => k = p) w W4 := (F1.out.trans F2.out (fun _ _ h => h)).false_.trans (F3.out.trans F4.out.false_ (fun _ _ h => h)) (fun _ _ h => h)
          refine ⟨_, _, s.drop n, false, rfl, OwnV.flat_ _ _ ⟨by decide, by decide, hv0, hv1, Nat.zero_le _, Nat.zero_le _, Nat.zero_le _, fun _ h => by cases h⟩, Sm.flat_ (Nat.zero_le _), P4.out.fr F6.out (fun h => by have : p = w.heap.size := h; omega), FA.trans F6.out (fun i hi hq => by have : i = w.heap.size := hq; omega), by simp, .inl ⟨HV.out, rfl⟩⟩
        · have HV : Hid (pNum s = none) := Lib.hid (by
            unfold pNum
            rw [HTK.out]
            cases hq : Lib.parseIntB 64 (s.take n) with
            | ok u => exact absurd hq (hv u)
            | _ => rfl)
          clear hv H2
          go_upto_region 7 with fail
          refine abs_world (fun W => Hid (Blk W p 66 (pcs (s.drop n) true)) ∧ Hid (Blk W w.heap.size 25 (vcs 0 0 [] none 0 0 none 0 0)) ∧ Hid (Fr (fun k => k = p) W2 W)) ⟨(P2.out.set_ 1 _).set_ 0 _, (B2.out.far (by show w.heap.size ≠ p; omega) _).far (by show w.heap.size ≠ p; omega) _, ((Fr.refl (fun k => k = p) W2).setCell (p := ⟨p, 1, none⟩) (fun _ => rfl) _).setCell (p := ⟨p, 0, none⟩) (fun _ => rfl) _⟩ ?_
          rintro W3 ⟨P3, B3, F3⟩
          go_wp2_with fail
          refine (number_val W3 v).mono ?_
          rintro e W4 ⟨rfl, f4⟩
          have F4 := Lib.hid f4
          have B4 := Lib.hid (keepB B3.out f4)
          have P4 := Lib.hid (keepB P3.out f4)
          have S1 := Lib.hid (show (Tryz.prog.info? 25).map (·.size) = some (vcs 3 v [] none 0 0 none 0 0).size from lw5)
          have HO1 := Lib.hid (show (vcs 3 v [] none 0 0 none 0 0).all (·.oneCell') = true by simp [vcs, Value.oneCell'])
          clear f4 c0 c1 z0 z1 htake hdropr
          go_wp2_with (refine wpList_store_blk rfl 25 _ _ rfl w.heap.size (vcs 3 v [] none 0 0 none 0 0) rfl rfl B4.out rfl S1.out HO1.out ?_
                       intro W6 q6 f6
                       have F6 := Lib.hid f6
                       have Q6 := Lib.hid q6
                       clear q6 f6)
          refine bodyPost_ret (v := .agg (vcs 3 v [] none 0 0 none 0 0)) (results_one (P := Tryz.prog) (fn := Tryz.f72) (p := 2) (ty := 25) Tryz.results72 _ W6 w.heap.size 25 _ _ rfl Q6.out Tryz.underlying25 rfl S1.out) rfl ?_
          have FA : Fr (fun k => k = p) w W4 := (F1.out.trans F2.out (fun _ _ h => h)).false_.trans (F3.out.trans F4.out.false_ (fun _ _ h => h)) (fun _ _ h => h)
          refine ⟨_, _, s.drop n, true, rfl, OwnV.flat_ _ _ ⟨by decide, by decide, hv0, hv1, Nat.zero_le _, Nat.zero_le _, Nat.zero_le _, fun _ h => by cases h⟩, Sm.flat_ (Nat.zero_le _), P4.out.fr F6.out (fun h => by have : p = w.heap.size := h; omega), FA.trans F6.out (fun i hi hq => by have : i = w.heap.size := hq; omega), by simp, .inr ⟨HV.out, rfl⟩⟩
      · have d1 : decide ((n : Int) < (s.length : Int)) = true := decide_eq_true (by omega)
        have d1' : decide (n < s.length) = true := decide_eq_true hl
        have hix := fun W => run_index_str W s n hl
        obtain ⟨y, hy⟩ : ∃ y, (s[n]).toNat = y := ⟨_, rfl⟩
        rw [hy] at hne hhi
        simp only [hy] at hix
        have e1 : ((y : Int) == 45) = false := by simp; omega
        have e1' : (y == 45) = false := by simp; omega
        have e2 : decide (48 ≤ (y : Int)) = true := decide_eq_true (by omega)
        have e2' : decide (48 ≤ y) = true := decide_eq_true (by omega)
        have e3 : decide ((y : Int) ≤ 57) = false := decide_eq_false (by omega)
        have e3' : decide (y ≤ 57) = false := decide_eq_false (by omega)
        clear hy hne hhi
        go_upto_region 4 with fail
        go_wp2_with fail
        refine PI.out.mono ?_
        rintro e W2 ⟨f2, hx2⟩
        have F2 := Lib.hid f2
        have P2 := Lib.hid (keepB P1.out f2)
        have B2 := Lib.hid (keepB B1.out f2)
        clear f2 c0 PI
        have c0 : W2.cell? ⟨p, 0, none⟩ = some (.string (strOf s)) := P2.out.cell 0
        have c1 : W2.cell? ⟨p, 1, none⟩ = some (.bool false) := P2.out.cell 1
        have z0 : W2.frozen? ⟨p, 0, none⟩ = false := P2.out.frozen 0
        have z1 : W2.frozen? ⟨p, 1, none⟩ = false := P2.out.frozen 1
        have H2 := Lib.hid hx2
        clear hx2
        rcases H2.out with ⟨v, hv, hv0, hv1, rfl⟩ | ⟨hv, v, tt, pp, hv0, hv1, rfl⟩
        · have HV : Hid (pNum s = some (.mk 3 v [] [] [], s.drop n)) := Lib.hid (by unfold pNum; rw [HTK.out, hv, HDW.out])
          clear hv H2
          go_upto_region 7 with fail
          refine abs_world (fun W => Hid (Blk W p 66 (pcs (s.drop n) false)) ∧ Hid (Blk W w.heap.size 25 (vcs 0 0 [] none 0 0 none 0 0)) ∧ Hid (Fr (fun k => k = p) W2 W)) ⟨(P2.out.set_ 1 _).set_ 0 _, (B2.out.far (by show w.heap.size ≠ p; omega) _).far (by show w.heap.size ≠ p; omega) _, ((Fr.refl (fun k => k = p) W2).setCell (p := ⟨p, 1, none⟩) (fun _ => rfl) _).setCell (p := ⟨p, 0, none⟩) (fun _ => rfl) _⟩ ?_
          rintro W3 ⟨P3, B3, F3⟩
          go_wp2_with fail
          refine (number_val W3 v).mono ?_
          rintro e W4 ⟨rfl, f4⟩
          have F4 := Lib.hid f4
          have B4 := Lib.hid (keepB B3.out f4)
          have P4 := Lib.hid (keepB P3.out f4)
          have S1 := Lib.hid (show (Tryz.prog.info? 25).map (·.size) = some (vcs 3 v [] none 0 0 none 0 0).size from lw5)
          have HO1 := Lib.hid (show (vcs 3 v [] none 0 0 none 0 0).all (·.oneCell') = true by simp [vcs, Value.oneCell'])
          clear f4 c0 c1 z0 z1 htake hdropr
          go_wp2_with (refine wpList_store_blk rfl 25 _ _ rfl w.heap.size (vcs 3 v [] none 0 0 none 0 0) rfl rfl B4.out rfl S1.out HO1.out ?_
                       intro W6 q6 f6
                       have F6 := Lib.hid f6
                       have Q6 := Lib.hid q6
                       clear q6 f6)
          refine bodyPost_ret (v := .agg (vcs 3 v [] none 0 0 none 0 0)) (results_one (P := Tryz.prog) (fn := Tryz.f72) (p := 2) (ty := 25) Tryz.results72 _ W6 w.heap.size 25 _ _ rfl Q6.out Tryz.underlying25 rfl S1.out) rfl ?_
          have FA : Fr (fun k => k = p) w W4 := (F1.out.trans F2.out (fun _ _ h => h)).false_.trans (F3.out.trans F4.out.false_ (fun _ _ h => h)) (fun _ _ h => h)
          refine ⟨_, _, s.drop n, false, rfl, OwnV.flat_ _ _ ⟨by decide, by decide, hv0, hv1, Nat.zero_le _, Nat.zero_le _, Nat.zero_le _, fun _ h => by cases h⟩, Sm.flat_ (Nat.zero_le _), P4.out.fr F6.out (fun h => by have : p = w.heap.size := h; omega), FA.trans F6.out (fun i hi hq => by have : i = w.heap.size := hq; omega), by simp, .inl ⟨HV.out, rfl⟩⟩
        · have HV : Hid (pNum s = none) := Lib.hid (by
            unfold pNum
            rw [HTK.out]
            cases hq : Lib.parseIntB 64 (s.take n) with
            | ok u => exact absurd hq (hv u)
            | _ => rfl)
          clear hv H2
          go_upto_region 7 with fail
          refine abs_world (fun W => Hid (Blk W p 66 (pcs (s.drop n) true)) ∧ Hid (Blk W w.heap.size 25 (vcs 0 0 [] none 0 0 none 0 0)) ∧ Hid (Fr (fun k => k = p) W2 W)) ⟨(P2.out.set_ 1 _).set_ 0 _, (B2.out.far (by show w.heap.size ≠ p; omega) _).far (by show w.heap.size ≠ p; omega) _, ((Fr.refl (fun k => k = p) W2).setCell (p := ⟨p, 1, none⟩) (fun _ => rfl) _).setCell (p := ⟨p, 0, none⟩) (fun _ => rfl) _⟩ ?_
          rintro W3 ⟨P3, B3, F3⟩
          go_wp2_with fail
          refine (number_val W3 v).mono ?_
          rintro e W4 ⟨rfl, f4⟩
          have F4 := Lib.hid f4
          have B4 := Lib.hid (keepB B3.out f4)
          have P4 := Lib.hid (keepB P3.out f4)
          have S1 := Lib.hid (show (Tryz.prog.info? 25).map (·.size) = some (vcs 3 v [] none 0 0 none 0 0).size from lw5)
          have HO1 := Lib.hid (show (vcs 3 v [] none 0 0 none 0 0).all (·.oneCell') = true by simp [vcs, Value.oneCell'])
          clear f4 c0 c1 z0 z1 htake hdropr
          go_wp2_with (refine wpList_store_blk rfl 25 _ _ rfl w.heap.size (vcs 3 v [] none 0 0 none 0 0) rfl rfl B4.out rfl S1.out HO1.out ?_
                       intro W6 q6 f6
                       have F6 := Lib.hid f6
                       have Q6 := Lib.hid q6
                       clear q6 f6)
          refine bodyPost_ret (v := .agg (vcs 3 v [] none 0 0 none 0 0)) (results_one (P := Tryz.prog) (fn := Tryz.f72) (p := 2) (ty := 25) Tryz.results72 _ W6 w.heap.size 25 _ _ rfl Q6.out Tryz.underlying25 rfl S1.out) rfl ?_
          have FA : Fr (fun k => k = p) w W4 := (F1.out.trans F2.out (fun _ _ h => h)).false_.trans (F3.out.trans F4.out.false_ (fun _ _ h => h)) (fun _ _ h => h)
          refine ⟨_, _, s.drop n, true, rfl, OwnV.flat_ _ _ ⟨by decide, by decide, hv0, hv1, Nat.zero_le _, Nat.zero_le _, Nat.zero_le _, fun _ h => by cases h⟩, Sm.flat_ (Nat.zero_le _), P4.out.fr F6.out (fun h => by have : p = w.heap.size := h; omega), FA.trans F6.out (fun i hi hq => by have : i = w.heap.size := hq; omega), by simp, .inr ⟨HV.out, rfl⟩⟩
end Go.Proofs.YtnkfkicabgajmaaGreatDoor
