/-
  CONTRACT of value.Parse.
-/
import Derived.Test.YtnkfkicabgajmaaGreatDoorPval
namespace Go.Proofs.YtnkfkicabgajmaaGreatDoor
set_option linter.unusedSimpArgs false
set_option linter.unusedVariables false
open Go Go.RowKit

theorem results_vi {P : Program} {fn : Func} {p q : Tmp} {ty : TypeId} (h : fn.results = #[.cell p ty, .tmp q]) (tmps : Array Value) (w : World) (g : Nat) (t : TypeId) (cs : Array Value) (d : TypeDesc) (x : Value)
    (hp : tmps.getD p undef = .pointer (some ⟨g, 0, none⟩)) (hx : tmps.getD q undef = x) (hg : Blk w g t cs)
    (hu : P.underlying ty = some d) (hd : (match d with | .struct _ | .array _ _ => true | _ => false) = true) (hi : (P.info? ty).map (·.size) = some cs.size) :
    (results fn tmps).run P w = .ok (.tuple #[.agg cs, x]) w := by
  have hp' : tmps[p]?.getD undef = .pointer (some ⟨g, 0, none⟩) := by simpa using hp
  have hx' : tmps[q]?.getD undef = x := by simpa using hx
  simp [results, h, hp', hx', asAddr, run_loadVar_row w g t ty cs (0, 0) d hg hu hd hi]
/-- What Parse returns. -/
def ParseQ (s : List UInt8) (w : World) (e : Ending) (w' : World) : Prop :=
  ∃ C v n, e = .returned (.tuple #[.agg C, .int .i64 n]) ∧ OwnV w' (fun q => w.heap.size ≤ q ∧ q < w'.heap.size) C v ∧ Sm v ∧ Fr (fun _ => False) w w' ∧ ((parseV s = some v ∧ n = 0) ∨ (parseV s = none ∧ v = V.zero ∧ n = 2))
theorem strOf_dec (a b : List UInt8) : decide (strOf a = strOf b) = decide (a = b) := by
  by_cases h : a = b
  · subst h
    simp
  · rw [decide_eq_false h]
    exact decide_eq_false (fun e => h (by have := congrArg (fun x => x.data.toList) e; simpa [strOf] using this))
set_option maxRecDepth 100000 in
set_option maxHeartbeats 8000000 in
theorem parse_c (w : World) (s : List UInt8) (hL : LaidOk w) (hs63 : s.length ≤ 140737488355328) : Calls Tryz.prog 26 #[.string (strOf s)] w (ParseQ s w) := by
  have hsz := strOf_size s
  have h8 := hL.size
  have HL := Lib.hid hL
  clear hL
  have hres := results_vi (P := Tryz.prog) (fn := Tryz.f26) (p := 2) (q := 3) (ty := 25) Tryz.results26
  obtain ⟨rb, hrb⟩ : ∃ rb, w.heap.size = rb := ⟨_, rfl⟩
  have HRB := Lib.hid hrb
  by_cases h5 : 512 < s.length
  case pos =>
    have HN : Hid (parseV s = none) := Lib.hid (by unfold parseV; rw [if_pos h5])
    have d1 : decide (512 < (s.length : Int)) = true := decide_eq_true (by omega)
    have d1' : decide (512 < s.length) = true := decide_eq_true h5
    go_enter Tryz.func26, Tryz.ntmps26
    go_upto_region 1 with fail
    refine abs_world (fun W => Hid (Blk W rb 25 (vcs 0 0 [] none 0 0 none 0 0)) ∧ Hid (Fr (fun _ => False) w W)) ⟨hrb ▸ Blk.new w _ _, (Fr.refl _ w).alloc _⟩ ?_
    rintro W1 ⟨R1, F1⟩
    clear hrb
    have S1 := Lib.hid (show (Tryz.prog.info? 25).map (·.size) = some (vcs 0 0 [] none 0 0 none 0 0).size from lw5)
    have HO1 := Lib.hid (show (vcs 0 0 [] none 0 0 none 0 0).all (·.oneCell') = true by simp [vcs, Value.oneCell'])
    have BR := Lib.hid (R1.out)
    go_wp2_with (refine wpList_store_blk rfl 25 _ _ rfl rb (vcs 0 0 [] none 0 0 none 0 0) rfl rfl BR.out (rfl) S1.out HO1.out ?_
                 intro W9 q9 f9
                 have F9 := Lib.hid f9
                 have Q9 := Lib.hid q9
                 clear q9 f9)
    refine bodyPost_ret (v := .tuple #[.agg (vcs 0 0 [] none 0 0 none 0 0), .int .i64 2]) (hres _ W9 rb 25 _ _ _ rfl rfl Q9.out Tryz.underlying25 rfl S1.out) rfl ?_
    exact ⟨_, V.zero, 2, rfl, OwnV.zero _ _, Sm.flat_ (Nat.zero_le _), F1.out.trans F9.out (fun q hq he => by have := HRB.out; omega), .inr ⟨HN.out, rfl, rfl⟩⟩
  case neg =>
    have d1 : decide (512 < (s.length : Int)) = false := decide_eq_false (by omega)
    have d1' : decide (512 < s.length) = false := decide_eq_false h5
    have HPV : Hid (parseV s = match pval (3 * s.length + 3) s with | none => none | some x => if mayV x.1 && prV x.1 == s then some x.1 else none) := Lib.hid (by unfold parseV; rw [if_neg h5]; cases pval (3 * s.length + 3) s <;> rfl)
    go_enter Tryz.func26, Tryz.ntmps26
    go_upto_region 1 with fail
    refine abs_world (fun W => Hid (Blk W rb 25 (vcs 0 0 [] none 0 0 none 0 0)) ∧ Hid (Fr (fun _ => False) w W) ∧ W.heap.size = rb + 1) ⟨hrb ▸ Blk.new w _ _, (Fr.refl _ w).alloc _, by rw [← hrb]; simp⟩ ?_
    rintro W1 ⟨R1, F1, S1⟩
    clear hrb
    go_upto_region 4 with fail
    have BN := Lib.hid (S1 ▸ Blk.new W1 66 (pcs s false))
    refine abs_world (fun W => Hid (Blk W rb 25 (vcs 0 0 [] none 0 0 none 0 0)) ∧ Hid (Blk W (rb + 1) 66 (pcs s false)) ∧ Hid (Fr (fun _ => False) w W)) ⟨R1.out.alloc _, BN.out, F1.out.alloc _⟩ ?_
    clear BN R1 F1
    rintro W2 ⟨R2, P2, F2⟩
    have s2 := P2.out.lt
    clear S1
    have PV := Lib.hid (pvalue_c 1000 s (by omega) (by omega) W2 (rb + 1) (3 * s.length + 3) P2.out (HL.out.far F2.out) (by have := HRB.out; omega) (by omega))
    clear P2
    go_wp2_with fail
    refine PV.out.mono ?_
    rintro e W3 ⟨C2, v2, r2, b2, rfl, o2, sm2, p3, f3, -, ht⟩
    have R3 := Lib.hid (R2.out.fr f3 (by omega))
    have F3 : Hid (Fr (fun _ => False) w W3) := Lib.hid (F2.out.trans f3 (fun q hq he => by have := HRB.out; omega))
    have P3 := Lib.hid p3
    have O3 := Lib.hid o2
    have SM := Lib.hid sm2
    have HT := Lib.hid ht
    have s3 := f3.size
    have HSC := Lib.hid (szV o2.rd)
    have HO := Lib.hid (oneV o2.rd)
    have H5 := Lib.hid o2.rd.size
    clear R2 F2 PV o2 sm2 p3 f3 ht
    go_upto_region 5 with (
      refine wpList_store_blk rfl 25 _ _ rfl W3.heap.size C2 rfl rfl (Blk.new W3 25 _) H5.out HSC.out HO.out ?_
      intro W4 q4 f4
      have F4 := Lib.hid (((Fr.refl (fun _ => False) W3).alloc _).trans f4 (fun i hi h => by have : i = W3.heap.size := h; omega))
      have Q4 := Lib.hid q4
      clear q4 f4)
    obtain ⟨vb, hvb⟩ : ∃ vb, W3.heap.size = vb := ⟨_, rfl⟩
    have HVB := Lib.hid hvb
    rw [hvb] at Q4 ⊢
    rw [hvb] at s3
    clear hvb
    have R4 := Lib.hid (keepB R3.out F4.out)
    have P4 := Lib.hid (keepB P3.out F4.out)
    have O4 := Lib.hid (O3.out.far F4.out)
    have G4 : Hid (Fr (fun _ => False) w W4) := Lib.hid (F3.out.trans F4.out (fun _ _ h => h))
    clear R3 P3
    have PR := Lib.hid (print_c v2 W4 _ C2 O4.out.rd SM.out (HL.out.far G4.out))
    have A4 := Lib.hid (blk_all Q4.out)
    go_wp2_with (refine wpList_load_val rfl 25 _ rfl vb _ rfl C2 A4.out _ Tryz.underlying25 rfl HSC.out ?_)
    refine PR.out.mono ?_
    rintro e W5 ⟨rfl, f5⟩
    have R5 := Lib.hid (keepB R4.out f5)
    have P5 := Lib.hid (keepB P4.out f5)
    have Q5 := Lib.hid (keepB Q4.out f5)
    have O5 := Lib.hid (O4.out.far f5)
    have G5 : Hid (Fr (fun _ => False) w W5) := Lib.hid (G4.out.trans f5 (fun _ _ h => h))
    have s5 : Hid (W3.heap.size ≤ W5.heap.size) := Lib.hid (Nat.le_trans F4.out.size f5.size)
    clear f5 R4 P4 Q4 O4 G4 A4 PR
    have c1 : W5.cell? ⟨rb + 1, 1, none⟩ = some (.bool b2) := P5.out.cell 1
    rcases HT.out with ⟨h1, h2⟩ | ⟨h1, h2⟩
    case inr =>
      subst h2
      have HN : Hid (parseV s = none) := Lib.hid (by rw [HPV.out, h1])
      generalize (if mayV v2 = true then strOf (prV v2) else ⟨#[]⟩) = ps
      generalize (if mayV v2 = true then (0 : Int) else 1) = pe
      clear HT
      clear h1
      have S1 := Lib.hid (show (Tryz.prog.info? 25).map (·.size) = some (vcs 0 0 [] none 0 0 none 0 0).size from lw5)
      have HO1 := Lib.hid (show (vcs 0 0 [] none 0 0 none 0 0).all (·.oneCell') = true by simp [vcs, Value.oneCell'])
      have BR := Lib.hid (R5.out)
      go_wp2_with (refine wpList_store_blk rfl 25 _ _ rfl rb (vcs 0 0 [] none 0 0 none 0 0) rfl rfl BR.out (rfl) S1.out HO1.out ?_
                   intro W9 q9 f9
                   have F9 := Lib.hid f9
                   have Q9 := Lib.hid q9
                   clear q9 f9)
      refine bodyPost_ret (v := .tuple #[.agg (vcs 0 0 [] none 0 0 none 0 0), .int .i64 2]) (hres _ W9 rb 25 _ _ _ rfl rfl Q9.out Tryz.underlying25 rfl S1.out) rfl ?_
      exact ⟨_, V.zero, 2, rfl, OwnV.zero _ _, Sm.flat_ (Nat.zero_le _), G5.out.trans F9.out (fun q hq he => by have := HRB.out; omega), .inr ⟨HN.out, rfl, rfl⟩⟩
    case inl =>
      subst h2
      cases hm : mayV v2 with
      | false =>
        have HN : Hid (parseV s = none) := Lib.hid (by rw [HPV.out, h1]; dsimp only; rw [hm]; rfl)
        clear h1
        simp only [hm, Bool.false_eq_true, if_false]
        have S1 := Lib.hid (show (Tryz.prog.info? 25).map (·.size) = some (vcs 0 0 [] none 0 0 none 0 0).size from lw5)
        have HO1 := Lib.hid (show (vcs 0 0 [] none 0 0 none 0 0).all (·.oneCell') = true by simp [vcs, Value.oneCell'])
        have BR := Lib.hid (R5.out)
        go_wp2_with (refine wpList_store_blk rfl 25 _ _ rfl rb (vcs 0 0 [] none 0 0 none 0 0) rfl rfl BR.out (rfl) S1.out HO1.out ?_
                     intro W9 q9 f9
                     have F9 := Lib.hid f9
                     have Q9 := Lib.hid q9
                     clear q9 f9)
        refine bodyPost_ret (v := .tuple #[.agg (vcs 0 0 [] none 0 0 none 0 0), .int .i64 2]) (hres _ W9 rb 25 _ _ _ rfl rfl Q9.out Tryz.underlying25 rfl S1.out) rfl ?_
        exact ⟨_, V.zero, 2, rfl, OwnV.zero _ _, Sm.flat_ (Nat.zero_le _), G5.out.trans F9.out (fun q hq he => by have := HRB.out; omega), .inr ⟨HN.out, rfl, rfl⟩⟩
      | true =>
        simp only [hm, if_true]
        have hsn : ((strOf (prV v2)).toList == (strOf s).toList) = decide (prV v2 = s) := by rw [strOf_toList, strOf_toList, Bool.eq_iff_iff]; simp
        by_cases he : prV v2 = s
        case neg =>
          have HN : Hid (parseV s = none) := Lib.hid (by rw [HPV.out, h1]; dsimp only; rw [if_neg]; simp [he])
          rw [decide_eq_false he] at hsn
          clear h1
          have S1 := Lib.hid (show (Tryz.prog.info? 25).map (·.size) = some (vcs 0 0 [] none 0 0 none 0 0).size from lw5)
          have HO1 := Lib.hid (show (vcs 0 0 [] none 0 0 none 0 0).all (·.oneCell') = true by simp [vcs, Value.oneCell'])
          have BR := Lib.hid (R5.out)
          go_wp2_with (refine wpList_store_blk rfl 25 _ _ rfl rb (vcs 0 0 [] none 0 0 none 0 0) rfl rfl BR.out (rfl) S1.out HO1.out ?_
                       intro W9 q9 f9
                       have F9 := Lib.hid f9
                       have Q9 := Lib.hid q9
                       clear q9 f9)
          refine bodyPost_ret (v := .tuple #[.agg (vcs 0 0 [] none 0 0 none 0 0), .int .i64 2]) (hres _ W9 rb 25 _ _ _ rfl rfl Q9.out Tryz.underlying25 rfl S1.out) rfl ?_
          exact ⟨_, V.zero, 2, rfl, OwnV.zero _ _, Sm.flat_ (Nat.zero_le _), G5.out.trans F9.out (fun q hq he => by have := HRB.out; omega), .inr ⟨HN.out, rfl, rfl⟩⟩
        case pos =>
          have HN : Hid (parseV s = some v2) := Lib.hid (by rw [HPV.out, h1]; dsimp only; rw [if_pos]; simp [he, hm])
          rw [decide_eq_true he] at hsn
          clear h1
          rw [he] at hsn ⊢
          clear he
          have A5 := Lib.hid (blk_all Q5.out)
          have BR := Lib.hid R5.out
          go_wp2_with (first
            | (refine wpList_load_val rfl 25 _ rfl vb _ rfl C2 A5.out _ Tryz.underlying25 rfl HSC.out ?_)
            | (refine wpList_store_blk rfl 25 _ _ rfl rb C2 rfl rfl BR.out H5.out HSC.out HO.out ?_
               intro W9 q9 f9
               have F9 := Lib.hid f9
               have Q9 := Lib.hid q9
               clear q9 f9))
          refine bodyPost_ret (v := .tuple #[.agg C2, .int .i64 0]) (hres _ W9 rb 25 _ _ _ rfl rfl Q9.out Tryz.underlying25 rfl HSC.out) rfl ?_
          have hz := F9.out.size
          have hy := s5.out
          exact ⟨_, v2, 0, rfl, (O5.out.fr F9.out (fun q hq he => by omega)).mono (fun q hq => ⟨by have := HRB.out; omega, by omega⟩), SM.out, G5.out.trans F9.out (fun q hq he => by have := HRB.out; omega), .inl ⟨HN.out, rfl⟩⟩
end Go.Proofs.YtnkfkicabgajmaaGreatDoor
