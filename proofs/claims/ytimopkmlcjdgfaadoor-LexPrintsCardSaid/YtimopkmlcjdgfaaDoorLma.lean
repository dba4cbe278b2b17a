/-
  CONTRACTS of plain, May. Written by gen_lma.py.
-/
import Derived.Test.YtimopkmlcjdgfaaDoorLsh
namespace Go.Proofs.YtimopkmlcjdgfaaDoor
set_option linter.unusedSimpArgs false
set_option linter.unusedVariables false
open Go Go.RowKit Go.Shelf

theorem pl_n (c : UInt8) : plB c = (decide (32 ≤ c.toNat) && decide (c.toNat ≤ 126)) := rfl
theorem conv_rd (w : World) (l : List UInt8) : Rd (Lib.bytesWorld w 5 (strOf l)) (some ⟨w.heap.size, 0, none⟩) l.length (bv l) := by
  refine ⟨by rw [bv_length], fun _ => ⟨_, rfl, fun j u hu => ?_⟩⟩
  have hj : j < l.length := by
    rcases Nat.lt_or_ge j l.length with h | h
    · exact h
    · rw [List.getElem?_eq_none (by rw [bv_length]; exact h)] at hu; cases hu
  rw [Addr.add_lit, Nat.zero_add, Lib.bytesWorld_cell w 5 (strOf l) j (by simpa [strOf, ByteArray.size] using hj)]
  rw [bv_get _ _ hj] at hu
  rw [← hu]
  simp [strOf, List.getD_eq_getElem?_getD, List.getElem?_eq_getElem hj]
theorem conv_fr (w : World) (s : ByteArray) : Fr (fun _ => False) w (Lib.bytesWorld w 5 s) :=
  ⟨rfl, rfl, rfl, by rw [Lib.bytesWorld_size]; omega, fun k hk _ => Lib.bytesWorld_at_old w _ s k hk⟩
theorem conv_run (W : World) (l : List UInt8) : ∃ cap, l.length ≤ cap ∧ (l.length ≤ maxLen → cap ≤ maxLen) ∧ (convert 9 56 (.string (strOf l))).run Tryd.prog W = .ok (.slice (some ⟨W.heap.size, 0, none⟩) l.length cap) (Lib.bytesWorld W 5 (strOf l)) := by
  have h := Lib.run_convert_string_bytes (P := Tryd.prog) W 9 56 5 (strOf l) Tryd.underlying9 Tryd.underlying56 Tryd.underlying5
  have e : (strOf l).size = l.length := by simp [strOf, ByteArray.size]
  rw [e] at h
  exact ⟨_, grownCap_ge _ _ _ _, grownCap_le_maxLen _ _ _ _, h⟩


set_option maxRecDepth 100000 in
set_option maxHeartbeats 4000000 in
theorem plain_c (w : World) (s : List UInt8) (hs : s.length ≤ 1000000) : Calls Tryd.prog 25 #[.string (strOf s)] w fun e w' => e = .returned (.bool (s.all plB)) ∧ Fr (fun _ => False) w w' := by
  have hsz := strOf_size s
  have CV := Lib.hid (fun W => conv_run W s)
  obtain ⟨z, hz⟩ : ∃ z, s.all plB = z := ⟨_, rfl⟩
  rw [hz]
  have HZ := Lib.hid hz
  clear hz
  obtain ⟨cap, hc1, hc2, hcv⟩ := CV.out w
  have HRD := Lib.hid (conv_rd w s)
  have FB : Hid (Fr (fun _ => False) w (Lib.bytesWorld w 5 (strOf s))) := Lib.hid (fr_below (Lib.bytesWorld_below _ _ _))
  clear CV
  go_enter Tryd.func25, Tryd.ntmps25
  go_wp2_with fail
  go_loopw [8] (fun iv W => ∃ i : Nat, i ≤ s.length ∧ iv = .int .i64 (i : Int) ∧ Hid (z = (s.drop i).all plB) ∧ Hid (Rd W (some ⟨w.heap.size, 0, none⟩) s.length (bv s)) ∧ Hid (Fr (fun _ => False) w W)) (fun iv _ => s.length - (intOf iv).toNat)
  case atStart => exact ⟨0, Nat.zero_le _, rfl, by rw [List.drop_zero]; exact HZ.out.symm, HRD.out, FB.out⟩
  case round =>
    obtain ⟨i, hi, rfl, hall, hrd, hf⟩ := hrel
    by_cases hlt : i < s.length
    case neg =>
      obtain rfl : i = s.length := by omega
      have d1 : decide ((s.length : Int) < (s.length : Int)) = false := decide_eq_false (by omega)
      have d1' : decide (s.length < s.length) = false := decide_eq_false (by omega)
      have HT : Hid (z = true) := Lib.hid (by rw [hall.out, List.drop_length]; rfl)
      go_wp2_with fail
      go_ret
      exact ⟨ret_bool HT.out.symm, hf.out⟩
    have d1 : decide ((i : Int) < (s.length : Int)) = true := decide_eq_true (by omega)
    have d1' : decide (i < s.length) = true := decide_eq_true hlt
    have hc := hrd.out.cell hlt
    rw [bv_get s i hlt, Nat.zero_add] at hc
    have hdr := List.drop_eq_getElem_cons hlt
    have hcl := u8_lt s[i]
    obtain ⟨b, hb⟩ : ∃ b, s[i] = b := ⟨_, rfl⟩
    rw [hb] at hc hdr hcl
    have hpl := pl_n b
    obtain ⟨x, hx⟩ : ∃ x, b.toNat = x := ⟨_, rfl⟩
    rw [hx] at hc hcl hpl
    have HA : Hid (z = (decide (32 ≤ x) && decide (x ≤ 126) && (s.drop (i + 1)).all plB)) := Lib.hid (by rw [hall.out, hdr, List.all_cons, hpl])
    clear hb hdr hpl hx
    by_cases h1 : x < 32
    · have e1 : decide ((x : Int) < 32) = true := decide_eq_true (by omega)
      have e1' : decide (x < 32) = true := decide_eq_true h1
      have HF : Hid (z = false) := Lib.hid (by rw [HA.out, decide_eq_false (show ¬ 32 ≤ x by omega)]; rfl)
      go_wp2_with fail
      go_ret
      exact ⟨ret_bool HF.out.symm, hf.out⟩
    · have e1 : decide ((x : Int) < 32) = false := decide_eq_false (by omega)
      have e1' : decide (x < 32) = false := decide_eq_false h1
      by_cases h2 : 126 < x
      · have e2 : decide (126 < (x : Int)) = true := decide_eq_true (by omega)
        have e2' : decide (126 < x) = true := decide_eq_true h2
        have HF : Hid (z = false) := Lib.hid (by rw [HA.out, decide_eq_false (show ¬ x ≤ 126 by omega)]; simp)
        go_wp2_with fail
        go_ret
        exact ⟨ret_bool HF.out.symm, hf.out⟩
      · have e2 : decide (126 < (x : Int)) = false := decide_eq_false (by omega)
        have e2' : decide (126 < x) = false := decide_eq_false h2
        have HS : Hid (z = (s.drop (i + 1)).all plB) := Lib.hid (by rw [HA.out, decide_eq_true (show 32 ≤ x by omega), decide_eq_true (show x ≤ 126 by omega)]; simp)
        go_wp2_with fail
        go_roundw
        case rel => exact ⟨i + 1, by omega, by go_num, HS.out, hrd.out, hf.out⟩
        case measure => simp [intOf]; omega
def wordT : List UInt8 → Bool
  | [] => false
  | c :: r => ltr c && decide (r.length + 1 ≤ 64) && decide (1 + wEnd r = r.length + 1)
/-- Whether a token may be. -/
def mayT (k : Int) (t : List UInt8) (n a : Int) : Bool :=
  if a < 0 then false else if k ≠ 3 ∧ n ≠ 0 then false else
  if k = 1 then wordT t
  else if k = 2 then decide (t.length ≤ 64) && t.all plB
  else if k = 3 then t.isEmpty
  else if k = 4 then marksL.contains t else false
def maX (g : Nat) (t : List UInt8) (i : Nat) (v : Value) (W : World) : Prop := match i with
  | 0 => ∃ q, v = .slice (some ⟨q, 0, none⟩) 8 8 ∧ Blk W q 9 (marksL.map fun l => Value.string (strOf l)).toArray
  | 1 => v = .pointer (some ⟨g, 1, none⟩)
  | 2 => v = .string (strOf t)
  | 3 => v = .bool (marksL.contains t)
  | _ => True
theorem maX_far {g : Nat} {t : List UInt8} {i : Nat} {v : Value} {W W' : World} (hg : Fr (fun _ => False) W W') (hx : maX g t i v W) : maX g t i v W' := by
  match i with
  | 0 => (obtain ⟨q, e, b⟩ := hx; exact ⟨q, e, keepB b hg⟩)
  | 1 => exact hx
  | 2 => exact hx
  | 3 => exact hx
  | (n + 4) => exact hx
set_option maxRecDepth 100000 in
set_option maxHeartbeats 8000000 in
theorem may_c (w : World) (k : Int) (t : List UInt8) (n a : Int) (ht : t.length ≤ 1000000) (hL : LaidOk w) : Calls Tryd.prog 13 #[.agg (tcs k t n a)] w fun e w' => e = .returned (.bool (mayT k t n a)) ∧ Fr (fun _ => False) w w' := by
  have hsz := strOf_size t
  have HL := Lib.hid hL
  obtain ⟨z, hz⟩ : ∃ z, mayT k t n a = z := ⟨_, rfl⟩
  rw [hz]
  unfold mayT at hz
  have HZ := Lib.hid hz
  obtain ⟨g, hg⟩ : ∃ g, w.heap.size = g := ⟨_, rfl⟩
  have HG := Lib.hid hg
  clear hz hL hg
  go_enter Tryd.func13, Tryd.ntmps13
  go_upto_region 1 with fail
  refine abs_world (fun W => Hid (Blk W w.heap.size 32 (tcs k t n a)) ∧ Hid (Fr (fun _ => False) w W)) ⟨Blk.new w _ _, (Fr.refl _ w).alloc _⟩ ?_
  rintro W1 ⟨B1, F1⟩
  rw [HG.out] at B1 ⊢
  have c0 : W1.cell? ⟨g, 0, none⟩ = some (.int .i64 k) := B1.out.cell 0
  have c1 : W1.cell? ⟨g, 1, none⟩ = some (.string (strOf t)) := B1.out.cell 1
  have c2 : W1.cell? ⟨g, 2, none⟩ = some (.int .i64 n) := B1.out.cell 2
  have c3 : W1.cell? ⟨g, 3, none⟩ = some (.int .i64 a) := B1.out.cell 3
  by_cases ha : a < 0
  · have d1 : decide (a < 0) = true := decide_eq_true ha
    have HR : Hid (z = false) := Lib.hid (by rw [← HZ.out, if_pos ha])
    go_wp2_with fail
    go_ret
    exact ⟨ret_bool HR.out.symm, F1.out⟩
  have d1 : decide (a < 0) = false := decide_eq_false ha
  by_cases h3 : k = 3
  case pos =>
    have HR0 : Hid (z = t.isEmpty) := Lib.hid (by rw [← HZ.out, if_neg ha, if_neg (fun h => h.1 h3), if_neg (by omega), if_neg (by omega), if_pos h3])
    subst h3
    cases t with
    | nil =>
      have HR : Hid (z = true) := Lib.hid HR0.out
      have hst : (strOf ([] : List UInt8)).toList.isEmpty = true := by rw [strOf_toList]; rfl
      go_wp2_with fail
      go_ret
      exact ⟨ret_bool HR.out.symm, F1.out⟩
    | cons c r =>
      have HR : Hid (z = false) := Lib.hid HR0.out
      have hst : (strOf (c :: r)).toList.isEmpty = false := by rw [strOf_toList]; rfl
      go_wp2_with fail
      go_ret
      exact ⟨ret_bool HR.out.symm, F1.out⟩
  have m3 : (k == 3) = false := by simpa using h3
  have m3' : (k != 3) = true := by simpa using h3
  by_cases hn : n = 0
  case neg =>
    have e1 : (n != 0) = true := by simpa using hn
    have HR : Hid (z = false) := Lib.hid (by rw [← HZ.out, if_neg ha, if_pos ⟨h3, hn⟩])
    go_wp2_with fail
    go_ret
    exact ⟨ret_bool HR.out.symm, F1.out⟩
  subst hn
  have HZ2 := Lib.hid (show (if k = 1 then wordT t else if k = 2 then decide (t.length ≤ 64) && t.all plB else if k = 4 then marksL.contains t else false) = z from by
    rw [← HZ.out, if_neg ha, if_neg (show ¬ (k ≠ 3 ∧ (0 : Int) ≠ 0) from fun h => h.2 rfl), if_neg h3])
  clear HZ
  by_cases h1 : k = 1
  case pos =>
    subst h1
    cases t with
    | nil =>
      have HR : Hid (z = false) := Lib.hid (by rw [← HZ2.out]; rfl)
      have hst : (strOf ([] : List UInt8)).toList.isEmpty = true := by rw [strOf_toList]; rfl
      go_upto_region 5 with fail
      go_quiet (fail)
      go_wp2_with fail
      go_ret
      exact ⟨ret_bool HR.out.symm, F1.out.drewN _⟩
    | cons c r =>
      have HV : Hid (z = (ltr c && decide ((c :: r).length ≤ 64) && decide (1 + wEnd r = (c :: r).length))) := Lib.hid (by rw [← HZ2.out]; rfl)
      have hst : (strOf (c :: r)).toList.isEmpty = false := by rw [strOf_toList]; rfl
      have hix : ∀ W, (Instr.index 9 (.string (strOf (c :: r))) (.int .i64 0)).run Tryd.prog W = .ok (.int .u8 (c.toNat : Nat)) W := fun W => run_index_str W (c :: r) 0 (by simp)
      have hcl := u8_lt c
      have BG := Lib.hid (fun W => begins_c W c.toNat hcl)
      rw [← ltr_n] at BG
      have WE := Lib.hid (fun W => wordEnd_c W (c :: r) (by omega) (by simp))
      rw [show (c :: r).drop 1 = r from rfl] at WE
      obtain ⟨x, hx⟩ : ∃ x, c.toNat = x := ⟨_, rfl⟩
      rw [hx] at hix BG hcl
      clear hx HZ2
      have q1 : (0 : Int) < ((c :: r).length : Int) := by simp only [List.length_cons]; omega
      obtain ⟨L, hLn⟩ : ∃ L, (c :: r).length = L := ⟨_, rfl⟩
      rw [hLn] at HV hsz q1 ht
      clear hLn
      obtain ⟨T, hT⟩ : ∃ T, strOf (c :: r) = T := ⟨_, rfl⟩
      rw [hT] at hst hix hsz c1 WE
      have HT := Lib.hid hT
      clear hT
      go_upto_region 5 with fail
      go_cut [2] from 3 to 65 (fun v W => v = .bool z ∧ Hid (Fr (fun _ => False) w W))
      case first =>
        cases hlc : ltr c with
        | false =>
          have HR : Hid (z = false) := Lib.hid (by rw [HV.out, hlc]; rfl)
          rw [hlc] at BG
          go_quiet (first | (go_at_call 23; refine Calls.quiet_of_same ((BG.out _).mono fun e w' h => ⟨h.1, h.2.symm⟩)))
          go_wp2_with fail
          go_meet
          exact ⟨by rw [HR.out], F1.out.drewN _⟩
        | true =>
          rw [hlc] at BG
          by_cases hL64 : L ≤ 64
          case neg =>
            have HR : Hid (z = false) := Lib.hid (by rw [HV.out, decide_eq_false hL64]; simp)
            have e1 : decide ((L : Int) ≤ 64) = false := decide_eq_false (by omega)
            have e1' : decide (L ≤ 64) = false := decide_eq_false hL64
            go_quiet (first | (go_at_call 23; refine Calls.quiet_of_same ((BG.out _).mono fun e w' h => ⟨h.1, h.2.symm⟩)))
            go_wp2_with fail
            go_meet
            exact ⟨by rw [HR.out], F1.out.drewN _⟩
          have e1 : decide ((L : Int) ≤ 64) = true := decide_eq_true (by omega)
          have e1' : decide (L ≤ 64) = true := decide_eq_true hL64
          have HW : Hid (z = decide (1 + wEnd r = L)) := Lib.hid (by rw [HV.out, hlc, e1']; rfl)
          obtain ⟨E, hE⟩ : ∃ E, 1 + wEnd r = E := ⟨_, rfl⟩
          rw [hE] at HW WE
          clear hE
          by_cases hEL : E = L
          · have HR : Hid (z = true) := Lib.hid (by rw [HW.out]; exact decide_eq_true hEL)
            have e2 : ((E : Int) == (L : Int)) = true := beq_iff_eq.2 (by omega)
            have e2' : decide (E = L) = true := decide_eq_true hEL
            have e2'' : (E : Int) = (L : Int) := by omega
            go_quiet (first | (go_at_call 23; refine Calls.quiet_of_same ((BG.out _).mono fun e w' h => ⟨h.1, h.2.symm⟩)) | (go_at_call 24; refine Calls.quiet_of_same ((WE.out _).mono fun e w' h => ⟨h.1, h.2.symm⟩)))
            go_wp2_with fail
            go_meet
            exact ⟨by rw [HR.out], F1.out.drewN _⟩
          · have HR : Hid (z = false) := Lib.hid (by rw [HW.out]; exact decide_eq_false hEL)
            have e2 : ((E : Int) == (L : Int)) = false := beq_eq_false_iff_ne.2 (by omega)
            have e2' : decide (E = L) = false := decide_eq_false hEL
            have e2'' : ¬ ((E : Int) = (L : Int)) := by omega
            go_quiet (first | (go_at_call 23; refine Calls.quiet_of_same ((BG.out _).mono fun e w' h => ⟨h.1, h.2.symm⟩)) | (go_at_call 24; refine Calls.quiet_of_same ((WE.out _).mono fun e w' h => ⟨h.1, h.2.symm⟩)))
            go_wp2_with fail
            go_meet
            exact ⟨by rw [HR.out], F1.out.drewN _⟩
      case rest =>
        obtain ⟨rfl, F2⟩ := hcut
        go_wp2_with fail
        go_ret
        exact ⟨rfl, F2.out⟩
  have n1 : (k == 1) = false := by simpa using h1
  by_cases h2 : k = 2
  case pos =>
    have HV : Hid (z = (decide (t.length ≤ 64) && t.all plB)) := Lib.hid (by rw [← HZ2.out, if_neg h1, if_pos h2])
    subst h2
    by_cases hL64 : t.length ≤ 64
    case neg =>
      have HR : Hid (z = false) := Lib.hid (by rw [HV.out, decide_eq_false hL64]; rfl)
      have e1 : decide ((t.length : Int) ≤ 64) = false := decide_eq_false (by omega)
      have e1' : decide (t.length ≤ 64) = false := decide_eq_false hL64
      go_wp2_with fail
      go_ret
      exact ⟨ret_bool HR.out.symm, F1.out⟩
    have e1 : decide ((t.length : Int) ≤ 64) = true := decide_eq_true (by omega)
    have e1' : decide (t.length ≤ 64) = true := decide_eq_true hL64
    have HR : Hid (z = t.all plB) := Lib.hid (by rw [HV.out, e1']; rfl)
    have PL := Lib.hid (plain_c W1 t ht)
    rw [← HR.out] at PL
    go_wp2_with fail
    refine PL.out.mono ?_
    rintro e W2 ⟨rfl, f2⟩
    have F2 : Hid (Fr (fun _ => False) w W2) := Lib.hid (F1.out.trans f2 (fun _ _ h => h))
    clear f2
    go_wp2_with fail
    go_ret
    exact ⟨rfl, F2.out⟩
  have n2 : (k == 2) = false := by simpa using h2
  by_cases h4 : k = 4
  case neg =>
    have n4 : (k == 4) = false := by simpa using h4
    have HR : Hid (z = false) := Lib.hid (by rw [← HZ2.out, if_neg h1, if_neg h2, if_neg h4])
    go_wp2_with fail
    go_ret
    exact ⟨ret_bool HR.out.symm, F1.out⟩
  have HV : Hid (z = marksL.contains t) := Lib.hid (by rw [← HZ2.out, if_neg h1, if_neg h2, if_pos h4])
  subst h4
  have HLW := Lib.hid (HL.out.far F1.out)
  have FI := Lib.hid (fun W (h : LaidOk W) => fields_c W h)
  clear HL HZ2
  have HL := HLW
  go_upto_region 11 with fail
  refine (wpIn_wide (n := 9)).1 ?_
  refine wpIn_region_factsG (ms := [0, 0, 2, 7, 15]) (k := 4) (Fr (fun _ => False)) (maX g t) (fun i v W => True) (by kernel_rfl) (by kernel_rfl) (Fr.refl _ _) (fun a b c h1 h2 => h1.trans h2 (fun _ _ h => h)) (fun i v w w' hg hx => maX_far hg hx) ?walk11
  case walk11 =>
  have hdr : ∀ W, Fr (fun _ => False) W1.drew W → Fr (fun _ => False) W1 W := fun W h => ((Fr.refl (fun _ => False) W1).drew).trans h (fun _ _ h => h)
  have HDR := Lib.hid hdr
  clear hdr
  refine factWalkG_cons (fun W hW hf K hK => ?_) (fun x0 => ?_)
  · skip
    refine ⟨by kernel_rfl, ?_⟩
    gi_step
    refine ⟨trivial, ?_⟩
    refine (callsIn_wide.2 (FI.out W (HL.out.far (HDR.out W hW)))).mono ?_
    rintro e W' ⟨rfl, rfl⟩
    dsimp only
    exact hK _ _ ((Fr.refl _ W).alloc _) ⟨_, rfl, Blk.new W _ _⟩ trivial
  simp only [Act.put, List.setIfInBounds_toArray, List.set_cons_succ, List.set_cons_zero]
  refine factWalkG_cons (fun W hW hf K hK => ?_) (fun x1 => ?_)
  · skip
    refine ⟨by kernel_rfl, ?_⟩
    gi_step
    exact hK _ _ (Fr.refl _ _) rfl trivial
  simp only [Act.put, List.setIfInBounds_toArray, List.set_cons_succ, List.set_cons_zero]
  refine factWalkG_cons (fun W hW hf K hK => ?_) (fun x2 => ?_)
  · skip
    have e1 : x1 = .pointer (some ⟨g, 1, none⟩) := hf 1 (by omega) (by kernel_rfl)
    subst e1
    have q1 : W.cell? ⟨g, 1, none⟩ = some (.string (strOf t)) := (keepB B1.out (HDR.out W hW)).cell 1
    refine ⟨by kernel_rfl, ?_⟩
    gi_step
    exact hK _ _ (Fr.refl _ _) rfl trivial
  simp only [Act.put, List.setIfInBounds_toArray, List.set_cons_succ, List.set_cons_zero]
  refine factWalkG_cons (fun W hW hf K hK => ?_) (fun x3 => ?_)
  · skip
    obtain ⟨q0, e0, b0⟩ : ∃ q, x0 = .slice (some ⟨q, 0, none⟩) 8 8 ∧ Blk W q 9 (marksL.map fun l => Value.string (strOf l)).toArray := hf 0 (by omega) (by kernel_rfl)
    have e2 : x2 = .string (strOf t) := hf 2 (by omega) (by kernel_rfl)
    subst e0 e2
    refine ⟨by kernel_rfl, ?_⟩
    gi_step
    refine ⟨trivial, ?_⟩
    refine (callsIn_wide.2 (contains_c W q0 t b0)).mono ?_
    rintro e W' ⟨rfl, rfl⟩
    dsimp only
    exact hK _ _ (Fr.refl _ _) rfl trivial
  simp only [Act.put, List.setIfInBounds_toArray, List.set_cons_succ, List.set_cons_zero]
  refine factWalkG_nil (fun W hW hf5 hmet => ?_)
  have e3 : x3 = .bool (marksL.contains t) := hf5 3 (by omega)
  subst e3
  have F9 : Hid (Fr (fun _ => False) w W) := Lib.hid (F1.out.trans (HDR.out W hW) (fun _ _ h => h))
  clear hf5 hmet hW HDR
  change wpAnyIn _ _ _ _ _ _ 1 _ _ _
  refine wpAnyIn_ready (rs := [4]) (by kernel_rfl) (by simp) ?_
  refine AllReadyIn.cons rfl (fun K hK => ?_) AllReadyIn.nil
  go_simp
  refine hK _ _ ?_
  refine wpAnyIn_done (by kernel_rfl) ?_ _
  clear hK K
  go_wp2_with fail
  go_ret
  exact ⟨ret_bool (by rw [HV.out]; simp), F9.out⟩
end Go.Proofs.YtimopkmlcjdgfaaDoor
