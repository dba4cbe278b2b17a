/-
  CONTRACT of skip.
-/
import Derived.Test.YtimopkmlcjdgfaaDoorLwe
import Derived.Shelf.Small.Strs
import Derived.Test.YtimopkmlcjdgfaaDoorChecked
namespace Go.Proofs
set_option linter.unusedSimpArgs false
set_option linter.unusedVariables false
open Go.Shelf
def Tryd.lays137_ren : Go.Shelf.Ren := ⟨fun | 137 => 41 | 217 => 58 | 266 => 67 | n => n, fun | 9 => 9 | 5 => 5 | 3 => 3 | n => n, fun | n => n⟩
theorem Tryd.lays137 : Go.Proofs.Lays.n137 Tryd.prog Tryd.lays137_ren := {
  mixed := by kernel_rfl
  f137 := Tryd.func41.trans (congrArg some (by kernel_rfl))
  f217 := Tryd.func58.trans (congrArg some (by kernel_rfl))
  f266 := Tryd.func67.trans (congrArg some (by kernel_rfl))
  t3 := Tryd.underlying3
  a3 := Tryd.isAgg3
  z3 := Tryd.sizeOf3
  v3 := Tryd.zeroValue3
  t5 := Tryd.underlying5
  a5 := Tryd.isAgg5
  z5 := Tryd.sizeOf5
  v5 := Tryd.zeroValue5
  t9 := Tryd.underlying9
  a9 := Tryd.isAgg9
  z9 := Tryd.sizeOf9
  v9 := Tryd.zeroValue9 }
end Go.Proofs
namespace Go.Proofs.YtimopkmlcjdgfaaDoor
set_option linter.unusedSimpArgs false
set_option linter.unusedVariables false
open Go Go.RowKit Go.Shelf

theorem indexB_c (w : World) (s : List UInt8) : Calls Tryd.prog 41 #[.string (strOf s), .int .u8 10] w fun e w' => e = .returned (.int .i64 (Lib.indexByte s 10)) ∧ w = w' := by
  refine (Any.strings_IndexByte Tryd.lays137 (strOf s) 10 w).mono ?_
  rintro e w' ⟨rfl, h⟩
  exact ⟨rfl, h.symm⟩
theorem skp_com : ∀ r : List UInt8, (Lib.indexByte r 10 = -1 → skp true r = []) ∧ ∀ n : Nat, Lib.indexByte r 10 = (n : Int) → n < r.length ∧ skp true r = skp false (r.drop n)
  | [] => ⟨fun _ => rfl, fun n h => by simp [Lib.indexByte] at h⟩
  | b :: r => by
    obtain ⟨h1, h2⟩ := skp_com r
    have hge := Lib.indexByte_ge r 10
    rw [show skp true (b :: r) = if b == 10 then skp false r else skp true r from by conv => lhs; unfold skp]
    unfold Lib.indexByte
    by_cases hb : b = 10
    · subst hb
      refine ⟨fun h => by simp at h, fun n h => ?_⟩
      simp at h
      have : n = 0 := by omega
      subst this
      refine ⟨by simp, ?_⟩
      rw [List.drop_zero, if_pos (by decide), show skp false (10 :: r) = if gapB 10 then skp false r else if (10 : UInt8) == 35 then skp true r else 10 :: r from by conv => lhs; unfold skp]
      rfl
    · have hb' : (b == 10) = false := by simpa using hb
      rw [hb']
      simp only [Bool.false_eq_true, if_false]
      by_cases hi : Lib.indexByte r 10 = -1
      · refine ⟨fun _ => h1 hi, fun n h => ?_⟩
        simp [hi] at h
      · have hne : (Lib.indexByte r 10 == -1) = false := by simpa using hi
        rw [hne]
        simp only [Bool.false_eq_true, if_false]
        refine ⟨fun h => by omega, fun n h => ?_⟩
        obtain ⟨m, hm⟩ : ∃ m : Nat, Lib.indexByte r 10 = (m : Int) := ⟨(Lib.indexByte r 10).toNat, by omega⟩
        obtain ⟨h3, h4⟩ := h2 m hm
        have : n = m + 1 := by omega
        subst this
        exact ⟨by simp only [List.length_cons]; omega, by rw [List.drop_succ_cons]; exact h4⟩
def atX (p : Nat) (W : World) : Nat := match W.cell? ⟨p, 1, none⟩ with
  | some (.int _ n) => n.toNat
  | _ => 0
theorem atX_of {p at_ : Nat} {W : World} {s : List UInt8} (h : Blk W p 45 (xcs s at_)) : atX p W = at_ := by
  have : W.cell? ⟨p, 1, none⟩ = some (.int .i64 (at_ : Nat)) := h.cell 1
  unfold atX
  rw [this]
  simp
theorem skp_gap {c : UInt8} {r : List UInt8} (h : gapB c = true) : skp false (c :: r) = skp false r := by
  rw [show skp false (c :: r) = if gapB c then skp false r else if c == 35 then skp true r else c :: r from by conv => lhs; unfold skp]
  rw [if_pos h]
theorem skp_hash {r : List UInt8} : skp false (35 :: r) = skp true r := by
  rw [show skp false (35 :: r) = if gapB 35 then skp false r else if (35 : UInt8) == 35 then skp true r else 35 :: r from by conv => lhs; unfold skp]
  rfl
theorem skp_stop {c : UInt8} {r : List UInt8} (h : gapB c = false) (h2 : (c == 35) = false) : skp false (c :: r) = c :: r := by
  rw [show skp false (c :: r) = if gapB c then skp false r else if c == 35 then skp true r else c :: r from by conv => lhs; unfold skp]
  rw [h, h2]
  rfl
theorem ix_hash (r : List UInt8) : Lib.indexByte (35 :: r) 10 ≠ ((0 : Nat) : Int) := by
  have hge := Lib.indexByte_ge r 10
  unfold Lib.indexByte
  rw [show ((35 : UInt8) == 10) = false from rfl]
  simp only [Bool.false_eq_true, if_false]
  split
  · decide
  · rename_i h
    have : Lib.indexByte r 10 ≠ -1 := fun e => h (by simp [e])
    omega
def SkipQ (p at_ : Nat) (s : List UInt8) (w : World) (e : Ending) (w' : World) : Prop := ∃ j, e = .returned (.tuple #[]) ∧ at_ ≤ j ∧ j ≤ s.length ∧ s.drop j = skp false (s.drop at_) ∧ Blk w' p 45 (xcs s j) ∧ Fr (fun q => q = p) w w'
theorem gap_n (c : UInt8) : gapB c = (decide (c.toNat = 32) || decide (c.toNat = 9) || decide (c.toNat = 10) || decide (c.toNat = 13)) := by
  unfold gapB
  rw [show (32 : UInt8) = Nat.toUInt8 32 from rfl, show (9 : UInt8) = Nat.toUInt8 9 from rfl, show (10 : UInt8) = Nat.toUInt8 10 from rfl, show (13 : UInt8) = Nat.toUInt8 13 from rfl, eq_n c 32 (by decide), eq_n c 9 (by decide), eq_n c 10 (by decide), eq_n c 13 (by decide)]
set_option maxRecDepth 100000 in
set_option maxHeartbeats 8000000 in
theorem skip_c (w : World) (p at_ : Nat) (s : List UInt8) (hs : s.length ≤ 1000000000) (hp : Blk w p 45 (xcs s at_)) (h : at_ ≤ s.length) : Calls Tryd.prog 20 #[.pointer (some ⟨p, 0, none⟩)] w (SkipQ p at_ s w) := by
  have hsz := strOf_size s
  have HP := Lib.hid hp
  clear hp
  go_enter Tryd.func20, Tryd.ntmps20
  go_step3
  go_wp2_with fail
  go_step3
  go_wp2_with fail
  go_loopw [2] (fun _ W => ∃ j : Nat, at_ ≤ j ∧ j ≤ s.length ∧ Hid (skp false (s.drop at_) = skp false (s.drop j)) ∧ Hid (Blk W p 45 (xcs s j)) ∧ Hid (Fr (fun q => q = p) w W)) (fun _ W => s.length - atX p W)
  case atStart => exact ⟨at_, Nat.le_refl _, h, rfl, HP.out, Fr.refl _ _⟩
  case round =>
    obtain ⟨j, hj1, hj, hsk, hb, hf⟩ := hrel
    have HAT : Hid (atX p wr = j) := Lib.hid (atX_of hb.out)
    have c0 : wr.cell? ⟨p, 0, none⟩ = some (.string (strOf s)) := hb.out.cell 0
    have c1 : wr.cell? ⟨p, 1, none⟩ = some (.int .i64 (j : Nat)) := hb.out.cell 1
    by_cases hlt : j < s.length
    case neg =>
      have d1 : decide ((j : Int) < (s.length : Int)) = false := decide_eq_false (by omega)
      have d1' : decide (j < s.length) = false := decide_eq_false hlt
      have HR : Hid (s.drop j = skp false (s.drop at_)) := Lib.hid (by rw [hsk.out, List.drop_eq_nil_of_le (by omega)]; rfl)
      go_upto_region 0 with fail
      go_quiet (fail)
      go_wp2_with fail
      refine bodyPost_end (v := .tuple #[]) ?_ rfl ?_
      · simp [results, Tryd.results20]
      exact ⟨j, rfl, hj1, hj, HR.out, hb.out.drewN _, hf.out.drewN _⟩
    have d1 : decide ((j : Int) < (s.length : Int)) = true := decide_eq_true (by omega)
    have d1' : decide (j < s.length) = true := decide_eq_true hlt
    have hix := fun W => run_index_str W s j hlt
    have hdr := List.drop_eq_getElem_cons hlt
    have hcl := u8_lt s[j]
    obtain ⟨c, hc⟩ : ∃ c, s[j] = c := ⟨_, rfl⟩
    rw [hc] at hix hdr hcl
    have hgn := gap_n c
    have h35 := eq_n c 35 (by decide)
    obtain ⟨x, hx⟩ : ∃ x, c.toNat = x := ⟨_, rfl⟩
    rw [hx] at hix hgn hcl h35
    have HDR := Lib.hid hdr
    have HX := Lib.hid hx
    have H35 := Lib.hid h35
    have HGN := Lib.hid hgn
    clear hc hdr h35 hgn hx
    go_upto_region 0 with fail
    go_quiet (fail)
    go_upto_region 1 with fail
    go_quiet (fail)
    refine abs_exit (fun W => Hid (Blk W p 45 (xcs s j)) ∧ Hid (Fr (fun q => q = p) w W)) ⟨(hb.out.drewN _).drewN _, (hf.out.drewN _).drewN _⟩ ?_
    rintro W2 ⟨B2, F2⟩
    clear c0 c1
    have c0 : W2.cell? ⟨p, 0, none⟩ = some (.string (strOf s)) := B2.out.cell 0
    have c1 : W2.cell? ⟨p, 1, none⟩ = some (.int .i64 (j : Nat)) := B2.out.cell 1
    have z1 : W2.frozen? ⟨p, 1, none⟩ = false := B2.out.frozen 1
    by_cases hg : x = 32 ∨ x = 9 ∨ x = 10 ∨ x = 13
    · rcases hg with rfl | rfl | rfl | rfl
      · have HS : Hid (skp false (s.drop at_) = skp false (s.drop (j + 1))) := Lib.hid (by rw [hsk.out, HDR.out, skp_gap (by rw [HGN.out]; simp)])
        go_wp2_with fail
        go_roundw
        case rel => exact ⟨j + 1, by omega, by omega, HS.out, B2.out.set_ 1 _, F2.out.setCell (p := ⟨p, 1, none⟩) (fun _ => rfl) _⟩
        case measure =>
          have hm : atX p (W2.setCell ⟨p, 1, none⟩ (.int .i64 ((j : Int) + 1))) = j + 1 := atX_of (s := s) (at_ := j + 1) (B2.out.set_ 1 _)
          rw [hm, HAT.out]; omega
      · have HS : Hid (skp false (s.drop at_) = skp false (s.drop (j + 1))) := Lib.hid (by rw [hsk.out, HDR.out, skp_gap (by rw [HGN.out]; simp)])
        go_wp2_with fail
        go_roundw
        case rel => exact ⟨j + 1, by omega, by omega, HS.out, B2.out.set_ 1 _, F2.out.setCell (p := ⟨p, 1, none⟩) (fun _ => rfl) _⟩
        case measure =>
          have hm : atX p (W2.setCell ⟨p, 1, none⟩ (.int .i64 ((j : Int) + 1))) = j + 1 := atX_of (s := s) (at_ := j + 1) (B2.out.set_ 1 _)
          rw [hm, HAT.out]; omega
      · have HS : Hid (skp false (s.drop at_) = skp false (s.drop (j + 1))) := Lib.hid (by rw [hsk.out, HDR.out, skp_gap (by rw [HGN.out]; simp)])
        go_wp2_with fail
        go_roundw
        case rel => exact ⟨j + 1, by omega, by omega, HS.out, B2.out.set_ 1 _, F2.out.setCell (p := ⟨p, 1, none⟩) (fun _ => rfl) _⟩
        case measure =>
          have hm : atX p (W2.setCell ⟨p, 1, none⟩ (.int .i64 ((j : Int) + 1))) = j + 1 := atX_of (s := s) (at_ := j + 1) (B2.out.set_ 1 _)
          rw [hm, HAT.out]; omega
      · have HS : Hid (skp false (s.drop at_) = skp false (s.drop (j + 1))) := Lib.hid (by rw [hsk.out, HDR.out, skp_gap (by rw [HGN.out]; simp)])
        go_wp2_with fail
        go_roundw
        case rel => exact ⟨j + 1, by omega, by omega, HS.out, B2.out.set_ 1 _, F2.out.setCell (p := ⟨p, 1, none⟩) (fun _ => rfl) _⟩
        case measure =>
          have hm : atX p (W2.setCell ⟨p, 1, none⟩ (.int .i64 ((j : Int) + 1))) = j + 1 := atX_of (s := s) (at_ := j + 1) (B2.out.set_ 1 _)
          rw [hm, HAT.out]; omega
    obtain ⟨n1, n2, n3, n4⟩ : ¬ x = 32 ∧ ¬ x = 9 ∧ ¬ x = 10 ∧ ¬ x = 13 := ⟨fun e => hg (.inl e), fun e => hg (.inr (.inl e)), fun e => hg (.inr (.inr (.inl e))), fun e => hg (.inr (.inr (.inr e)))⟩
    have m1 : ((x : Int) == 32) = false := beq_eq_false_iff_ne.2 (by omega)
    have m2 : ((x : Int) == 9) = false := beq_eq_false_iff_ne.2 (by omega)
    have m3 : ((x : Int) == 10) = false := beq_eq_false_iff_ne.2 (by omega)
    have m4 : ((x : Int) == 13) = false := beq_eq_false_iff_ne.2 (by omega)
    have HNG : Hid (gapB c = false) := Lib.hid (by rw [HGN.out, decide_eq_false n1, decide_eq_false n2, decide_eq_false n3, decide_eq_false n4]; rfl)
    clear hg
    by_cases h35 : x = 35
    case neg =>
      have m5 : ((x : Int) == 35) = false := beq_eq_false_iff_ne.2 (by omega)
      have HR : Hid (s.drop j = skp false (s.drop at_)) := Lib.hid (by rw [hsk.out, HDR.out, skp_stop HNG.out (by rw [show (35 : UInt8) = Nat.toUInt8 35 from rfl, H35.out]; exact decide_eq_false h35)])
      go_wp2_with fail
      refine bodyPost_end (v := .tuple #[]) ?_ rfl ?_
      · simp [results, Tryd.results20]
      exact ⟨j, rfl, hj1, hj, HR.out, B2.out, F2.out⟩
    case pos =>
      subst h35
      have HC : Hid (c = 35) := Lib.hid (UInt8.toNat_inj.1 (by rw [HX.out]; rfl))
      have HSK : Hid (skp false (s.drop at_) = skp true (s.drop j)) := Lib.hid (by
        rw [hsk.out, HDR.out, HC.out, skp_hash, show ∀ r, skp true (35 :: r) = if (35 : UInt8) == 10 then skp false r else skp true r from fun r => by conv => lhs; unfold skp]
        rfl)
      have COM := Lib.hid (skp_com (s.drop j))
      have hge := Lib.indexByte_ge (s.drop j) 10
      have IX := Lib.hid (fun W => indexB_c W (s.drop j))
      obtain ⟨ix, hix2⟩ : ∃ ix, Lib.indexByte (s.drop j) 10 = ix := ⟨_, rfl⟩
      rw [hix2] at COM hge IX
      have HIX := Lib.hid hix2
      clear hix2
      have hdp := fun W => run_drop W s j hj
      go_upto_region 8 with fail
      go_quiet (first | (go_at_call 41; refine Calls.quiet_of_same ((IX.out _).mono fun e w' h => ⟨h.1, h.2.symm⟩)))
      refine abs_exit (fun W => Hid (Blk W p 45 (xcs s j)) ∧ Hid (Fr (fun q => q = p) w W)) ⟨B2.out.drewN _, F2.out.drewN _⟩ ?_
      clear c0 c1 z1 B2 F2
      clear W2
      rintro W3 ⟨B3, F3⟩
      have c0 : W3.cell? ⟨p, 0, none⟩ = some (.string (strOf s)) := B3.out.cell 0
      have c1 : W3.cell? ⟨p, 1, none⟩ = some (.int .i64 (j : Nat)) := B3.out.cell 1
      by_cases hneg : ix = -1
      case pos =>
        have HS : Hid (skp false (s.drop at_) = skp false (s.drop s.length)) := Lib.hid (by rw [HSK.out, COM.out.1 hneg, List.drop_length]; rfl)
        subst hneg
        go_upto_region 10 with fail
        go_quiet (fail)
        refine abs_exit (fun W => Hid (Blk W p 45 (xcs s j)) ∧ Hid (Fr (fun q => q = p) w W)) ⟨B3.out.drewN _, F3.out.drewN _⟩ ?_
        clear c0 c1 B3 F3
        clear W3
        rintro W4 ⟨B4, F4⟩
        have c1 : W4.cell? ⟨p, 1, none⟩ = some (.int .i64 (j : Nat)) := B4.out.cell 1
        have z1 : W4.frozen? ⟨p, 1, none⟩ = false := B4.out.frozen 1
        go_wp2_with fail
        have he : (j : Int) + ((s.length : Int) - (j : Int)) = (s.length : Int) := by omega
        rw [he]
        go_roundw
        case rel => exact ⟨s.length, by omega, Nat.le_refl _, HS.out, B4.out.set_ 1 _, F4.out.setCell (p := ⟨p, 1, none⟩) (fun _ => rfl) _⟩
        case measure =>
          have hm : atX p (W4.setCell ⟨p, 1, none⟩ (.int .i64 (s.length : Int))) = s.length := atX_of (s := s) (at_ := s.length) (B4.out.set_ 1 _)
          rw [hm, HAT.out]; omega
      case neg =>
        obtain ⟨n, hn⟩ : ∃ n : Nat, ix = (n : Int) := ⟨ix.toNat, by omega⟩
        subst hn
        have hcom := COM.out.2 n rfl
        have hnl : j + n < s.length := by have := hcom.1; rw [List.length_drop] at this; omega
        have HS : Hid (skp false (s.drop at_) = skp false (s.drop (j + n))) := Lib.hid (by rw [HSK.out, hcom.2, List.drop_drop])
        have hn0 : decide ((n : Int) < 0) = false := decide_eq_false (by omega)
        have z1 : W3.frozen? ⟨p, 1, none⟩ = false := B3.out.frozen 1
        have hnp : 0 < n := by
          have h1 := HDR.out
          have h2 := HC.out
          rcases Nat.eq_zero_or_pos n with h0 | h0
          · subst h0
            have h3 := HIX.out
            rw [h1, h2] at h3
            exact absurd h3 (ix_hash _)
          · exact h0
        clear hcom hneg
        go_wp2_with fail
        go_roundw
        case rel => exact ⟨j + n, by omega, by omega, HS.out, B3.out.set_ 1 _, F3.out.setCell (p := ⟨p, 1, none⟩) (fun _ => rfl) _⟩
        case measure =>
          have hm : atX p (W3.setCell ⟨p, 1, none⟩ (.int .i64 ((j : Int) + (n : Int)))) = j + n := atX_of (s := s) (at_ := j + n) (B3.out.set_ 1 _)
          rw [hm, HAT.out]; omega
end Go.Proofs.YtimopkmlcjdgfaaDoor
