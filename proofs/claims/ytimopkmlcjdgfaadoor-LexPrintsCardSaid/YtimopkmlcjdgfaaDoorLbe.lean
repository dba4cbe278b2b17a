/-
  CONTRACT of the law LexBetween.
-/
import Derived.Test.YtimopkmlcjdgfaaDoorLbp
namespace Go.Proofs.YtimopkmlcjdgfaaDoor
set_option linter.unusedSimpArgs false
set_option linter.unusedVariables false
open Go Go.RowKit Go.Shelf

section
variable {P : Program} {w : World} {F : Fence} {n : Nat} {K : Act → World → Prop} {Q : Exit → Act → World → Prop} {o : Oper} {a : Act}
theorem operIn_slh {ty : TypeId} (d hi : Operand) (hop : o.op = Op.slice ty d none (some hi) none)
    (v h : Value) (hd : a.eval d = v) (hh : a.eval hi = h) {z : Value} (hr : (Instr.sliceAt ty v none (some h) none).run P w = .ok z w) (hK : K (a.put o.dst z) w) : Oper.wpIn F n P o a w K Q := by
  refine ⟨fun f hf => ?_, ?_⟩
  · simp [Oper.about, hop] at hf
  · simp [Oper.semAt, execOp, hop, hd, hh, hr, Result.andThen, Oper.uponIn]
    exact hK
theorem operIn_sll {ty : TypeId} (d lo : Operand) (hop : o.op = Op.slice ty d (some lo) none none)
    (v l : Value) (hd : a.eval d = v) (hl : a.eval lo = l) {z : Value} (hr : (Instr.sliceAt ty v (some l) none none).run P w = .ok z w) (hK : K (a.put o.dst z) w) : Oper.wpIn F n P o a w K Q := by
  refine ⟨fun f hf => ?_, ?_⟩
  · simp [Oper.about, hop] at hf
  · simp [Oper.semAt, execOp, hop, hd, hl, hr, Result.andThen, Oper.uponIn]
    exact hK
end
theorem run_take (W : World) (s : List UInt8) (i : Nat) (h : i ≤ s.length) : (Instr.slice 9 (.string (strOf s)) none (some (.int .i64 (i : Nat))) none).run Tryd.prog W = .ok (.string (strOf (s.take i))) W := by
  rw [run_slice_string_h W 9 (strOf s) Tryd.underlying9 .i64 (i : Nat) (by omega) (by rw [strOf_size]; omega)]
  congr 2
  have := strOf_sub s 0 i (Nat.zero_le _) h
  rw [Nat.sub_zero, List.drop_zero] at this
  rw [← this]
  congr 1
def beX (S0 T1 T2 SG : ByteArray) (n N : Nat) (L2 : List Tk) (i : Nat) (v : Value) (W : World) : Prop := match i with
  | 0 => v = .string S0
  | 1 => v = .int .i64 (n : Int)
  | 2 => v = .string T1
  | 3 => v = .string SG
  | 4 => v = .string (T1 ++ SG)
  | 5 => v = .string S0
  | 6 => v = .int .i64 (n : Int)
  | 7 => v = .string T2
  | 8 => v = .string (T1 ++ SG ++ T2)
  | 9 => ∃ (A : Option Addr) (c : Nat), v = .tuple #[.slice A N c, .int .i64 0, .int .i64 0] ∧ W.ownsRow 0 32 4 (.slice A N c) N (flatT L2)
  | 10 => ∃ (A : Option Addr) (c : Nat), v = .tuple #[.slice A N c, .int .i64 0, .int .i64 0] ∧ W.ownsRow 0 32 4 (.slice A N c) N (flatT L2)
  | 11 => ∃ (A : Option Addr) (c : Nat), v = .slice A N c ∧ W.ownsRow 0 32 4 (.slice A N c) N (flatT L2)
  | 12 => v = .int .i64 0
  | 13 => v = .int .i64 0
  | 14 => ∃ (A : Option Addr) (c : Nat), v = .slice A N c ∧ W.ownsRow 0 32 4 (.slice A N c) N (flatT L2)
  | 15 => v = .int .i64 0
  | 16 => v = .int .i64 0
  | _ => True
theorem beX_far {S0 T1 T2 SG : ByteArray} {n N : Nat} {L2 : List Tk} {i : Nat} {v : Value} {W W' : World} (hg : Fr (fun _ => False) W W') (hx : beX S0 T1 T2 SG n N L2 i v W) : beX S0 T1 T2 SG n N L2 i v W' := by
  match i with
  | 0 => exact hx
  | 1 => exact hx
  | 2 => exact hx
  | 3 => exact hx
  | 4 => exact hx
  | 5 => exact hx
  | 6 => exact hx
  | 7 => exact hx
  | 8 => exact hx
  | 9 => let ⟨A, c, h1, h2⟩ := hx; exact ⟨A, c, h1, own_fr h2 hg (fun _ _ h => h)⟩
  | 10 => let ⟨A, c, h1, h2⟩ := hx; exact ⟨A, c, h1, own_fr h2 hg (fun _ _ h => h)⟩
  | 11 => let ⟨A, c, h1, h2⟩ := hx; exact ⟨A, c, h1, own_fr h2 hg (fun _ _ h => h)⟩
  | 12 => exact hx
  | 13 => exact hx
  | 14 => let ⟨A, c, h1, h2⟩ := hx; exact ⟨A, c, h1, own_fr h2 hg (fun _ _ h => h)⟩
  | 15 => exact hx
  | 16 => exact hx
  | (n + 17) => exact hx
theorem all_long {s : List UInt8} (hs : 4096 < s.length) {w w' : World} {e : Ending} (hq : AllQ s w e w') : e = .returned (.tuple #[.slice none 0 0, .int .i64 0, .int .i64 6]) ∧ Fr (fun _ => False) w w' := by
  obtain ⟨hf, hr⟩ := hq
  rw [if_pos hs] at hr
  exact ⟨hr, hf⟩
set_option maxRecDepth 100000 in
set_option maxHeartbeats 2000000 in
theorem lexBetween_c (w : World) (s cm : List UInt8) (which gap : Int) (hs : s.length ≤ 140737488355328) (hcm : cm.length ≤ 140737488355328) (hL : LaidOk w) : Calls Tryd.prog 6 #[.string (strOf s), .string (strOf cm), .int .i64 which, .int .i64 gap] w fun e w' => e = .returned (.bool true) ∧ Fr (fun _ => False) w w' := by
  have HL := Lib.hid hL
  have hsz := strOf_size s
  have hsz2 := strOf_size cm
  clear hL
  by_cases hbig : 20000 < s.length
  case pos =>
    have d1 : decide ((20000 : Int) < (s.length : Int)) = true := decide_eq_true (by omega)
    have d1' : decide ((s.length : Int) > 20000) = true := decide_eq_true (by omega)
    go_enter Tryd.func6, Tryd.ntmps6
    go_wp2_with (
      go_at_call 8
      refine (awake_c w HL.out).mono ?_
      rintro e W1 ⟨rfl, f1⟩
      have F1 := Lib.hid f1
      clear f1)
    go_ret
    exact ⟨rfl, F1.out⟩
  case neg =>
  have d1 : decide ((20000 : Int) < (s.length : Int)) = false := decide_eq_false (by omega)
  have d1' : decide ((s.length : Int) > 20000) = false := decide_eq_false (by omega)
  by_cases hbig2 : 300 < cm.length
  case pos =>
    have d2 : decide ((300 : Int) < (cm.length : Int)) = true := decide_eq_true (by omega)
    have d2' : decide ((cm.length : Int) > 300) = true := decide_eq_true (by omega)
    go_enter Tryd.func6, Tryd.ntmps6
    go_wp2_with (
      go_at_call 8
      refine (awake_c w HL.out).mono ?_
      rintro e W1 ⟨rfl, f1⟩
      have F1 := Lib.hid f1
      clear f1)
    go_ret
    exact ⟨rfl, F1.out⟩
  case neg =>
  have d2 : decide ((300 : Int) < (cm.length : Int)) = false := decide_eq_false (by omega)
  have d2' : decide ((cm.length : Int) > 300) = false := decide_eq_false (by omega)
  go_enter Tryd.func6, Tryd.ntmps6
  go_upto_region 3 with fail
  go_wp2_with fail
  go_loopw [9] (fun iv W => ∃ i : Nat, i ≤ cm.length ∧ iv = .int .i64 (i : Int) ∧ Hid (10 ∉ cm.take i) ∧ w = W) (fun iv _ => cm.length - (intOf iv).toNat)
  case atStart => exact ⟨0, Nat.zero_le _, rfl, Lib.hid (by simp), rfl⟩
  case round =>
    obtain ⟨i, hi, rfl, HN, rfl⟩ := hrel
    by_cases hlt : i < cm.length
    case pos =>
      have hdl : decide ((i : Int) < (cm.length : Int)) = true := decide_eq_true (by omega)
      have hdl' : decide (i < cm.length) = true := decide_eq_true hlt
      have hix := fun W => run_index_str W cm i hlt
      have q1 : (0 : Int) ≤ (i : Int) := by omega
      have q2 : (i : Int) < (cm.length : Int) := by omega
      obtain ⟨b, hb⟩ : ∃ b, cm[i] = b := ⟨_, rfl⟩
      rw [hb] at hix
      have h10 := eq_n b 10 (by decide)
      have H10 := Lib.hid h10
      have HB := Lib.hid hb
      obtain ⟨x, hx⟩ : ∃ x, b.toNat = x := ⟨_, rfl⟩
      have HX := Lib.hid hx
      rw [hx] at hix
      clear h10 hb hx
      by_cases hten : x = 10
      case pos =>
        subst hten
        go_wp2_with (
          go_at_call 8
          refine (awake_c w HL.out).mono ?_
          rintro e W1 ⟨rfl, f1⟩
          have F1 := Lib.hid f1
          clear f1)
        go_ret
        exact ⟨rfl, F1.out⟩
      case neg =>
        have hne : ((x : Int) == 10) = false := beq_eq_false_iff_ne.2 (by omega)
        go_wp2_with fail
        go_roundw
        case rel =>
          refine ⟨i + 1, by omega, by go_num, Lib.hid ?_, trivial⟩
          rw [List.take_add_one, List.getElem?_eq_getElem hlt, HB.out]
          intro h
          rcases List.mem_append.1 h with h | h
          · exact HN.out h
          · have hb10 : (10 : UInt8) = b := by simpa using h
            have := HX.out
            rw [← hb10] at this
            exact hten this.symm
        case measure => simp [intOf]; omega
    case neg =>
      obtain rfl : i = cm.length := by omega
      have hdl : decide ((cm.length : Int) < (cm.length : Int)) = false := decide_eq_false (by omega)
      have hdl' : decide (cm.length < cm.length) = false := decide_eq_false (by omega)
      have hno : 10 ∉ cm := by have := HN.out; rwa [List.take_length] at this
      have HNO := Lib.hid hno
      clear hno HN
      cases hA : allS s with
      | inr i =>
        have HA := Lib.hid hA
        clear hA
        by_cases hlong : 4096 < s.length
        case pos =>
          go_upto_region 9 with (
            go_at_call 9
            refine (all_c w s (by omega) HL.out).mono ?_
            intro e W1 hq
            obtain ⟨rfl, f1⟩ := all_long hlong hq
            have F1 := Lib.hid f1
            clear hq f1)
          have HL1 := Lib.hid (HL.out.far F1.out)
          go_wp2_with (
            go_at_call 8
            refine (awake_c W1 HL1.out).mono ?_
            rintro e W3 ⟨rfl, f3⟩
            have F3 := Lib.hid f3
            clear f3)
          go_ret
          exact ⟨rfl, F1.out.trans F3.out (fun _ _ h => h)⟩
        case neg =>
        go_upto_region 9 with (
          go_at_call 9
          refine (all_c w s (by omega) HL.out).mono ?_
          intro e W1 hq
          obtain ⟨rfl, f1⟩ := all_no (by omega) HA.out hq
          have F1 := Lib.hid f1
          clear hq f1)
        have HL1 := Lib.hid (HL.out.far F1.out)
        go_wp2_with (
          go_at_call 8
          refine (awake_c W1 HL1.out).mono ?_
          rintro e W3 ⟨rfl, f3⟩
          have F3 := Lib.hid f3
          clear f3)
        go_ret
        exact ⟨rfl, F1.out.trans F3.out (fun _ _ h => h)⟩
      | inl l => 
        have HA := Lib.hid hA
        have hll := allS_le hA
        clear hA
        by_cases hlong : 4096 < s.length
        case pos =>
          go_upto_region 9 with (
            go_at_call 9
            refine (all_c w s (by omega) HL.out).mono ?_
            intro e W1 hq
            obtain ⟨rfl, f1⟩ := all_long hlong hq
            have F1 := Lib.hid f1
            clear hq f1)
          have HL1 := Lib.hid (HL.out.far F1.out)
          go_wp2_with (
            go_at_call 8
            refine (awake_c W1 HL1.out).mono ?_
            rintro e W3 ⟨rfl, f3⟩
            have F3 := Lib.hid f3
            clear f3)
          go_ret
          exact ⟨rfl, F1.out.trans F3.out (fun _ _ h => h)⟩
        case neg =>
        go_upto_region 9 with (
          go_at_call 9
          refine (all_c w s (by omega) HL.out).mono ?_
          intro e W1 hq
          obtain ⟨A1, c1, rfl, o1, f1, -⟩ := all_is (n := l.length) (by omega) HA.out rfl hq
          have O1 := Lib.hid o1
          have F1 := Lib.hid f1
          clear hq f1 o1)
        cases l with
        | nil =>
          have HL1 := Lib.hid (HL.out.far F1.out)
          simp only [List.length_nil]
          go_wp2_with (
            go_at_call 8
            refine (awake_c W1 HL1.out).mono ?_
            rintro e W3 ⟨rfl, f3⟩
            have F3 := Lib.hid f3
            clear f3)
          go_ret
          exact ⟨rfl, F1.out.trans F3.out (fun _ _ h => h)⟩
        | cons x0 l0 =>
        have hl1 : 1 ≤ (x0 :: l0).length := by simp
        generalize x0 :: l0 = l at *
        have hl0 : ((l.length : Int) == 0) = false := beq_eq_false_iff_ne.2 (by omega)
        have hl0' : (l.length == 0) = false := beq_eq_false_iff_ne.2 (by omega)
        have hl0'' : ¬ l = [] := fun e => by rw [e] at hl1; simp at hl1
        have HL1 := Lib.hid (HL.out.far F1.out)
        go_upto_region 11 with fail
        have z1 : ¬ 9223372036854775807 < 1 + (strOf cm).size := by rw [strOf_size]; omega
        have z2 : ¬ 9223372036854775807 < 1 + (strOf cm).size + 1 := by rw [strOf_size]; omega
        have hcat : ((⟨#[35]⟩ : ByteArray) ++ strOf cm) ++ (⟨#[10]⟩ : ByteArray) = strOf (gapT cm 4) := by
          show (strOf [35] ++ strOf cm) ++ strOf [10] = _
          rw [strOf_app, strOf_app]
          rfl
        obtain ⟨gn, hgn, -⟩ := and_low gap
        obtain ⟨gi, hgi, hgi5⟩ := tmod_low gn 5 (by decide)
        have hgi' : (gn : Int).tmod 5 = (gi : Int) := hgi
        clear hgi
        have q5 : (gi : Int) < 5 := by omega
        have q0 : (0 : Int) ≤ (gi : Int) := by omega
        have hgc : (W1.alloc (.cells #[.string ⟨#[32]⟩, .string ⟨#[9]⟩, .string ⟨#[10]⟩, .string ⟨#[13, 10]⟩, .string (strOf (gapT cm 4))] 9)).cell? ⟨W1.heap.size, gi, none⟩ = some (.string (strOf (gapT cm gi))) := by
          rw [(Blk.new W1 9 _).cell gi]
          match gi, hgi5 with
          | 0, _ => rfl
          | 1, _ => rfl
          | 2, _ => rfl
          | 3, _ => rfl
          | 4, _ => rfl
          | n + 5, h => omega
        go_upto_region 12 with fail
        refine abs_world (fun W => Hid (Fr (fun _ => False) W1 W)) ((Fr.refl _ W1).alloc _) ?_
        intro W2 FG
        obtain ⟨wn, hwn, -⟩ := and_low which
        obtain ⟨wi, hwi, hwil⟩ := tmod_low wn l.length (by omega)
        have q6 : (wi : Int) < (l.length : Int) := by omega
        have q7 : (0 : Int) ≤ (wi : Int) := by omega
        have hwi' : wi < l.length := hwil
        have R2 : Hid (RdT W2 A1 l) := Lib.hid ((RdT.of_own O1.out).far FG.out)
        obtain ⟨b1, of1, hA1, hrg⟩ := R2.out.at_ hwi'
        subst hA1
        obtain ⟨n, hn, hnl, hins⟩ := all_ins HA.out HNO.out gi (List.getElem_mem hwi')
        have hca : W2.cell? ⟨b1, of1 + wi * 4 + 3, none⟩ = some (.int .i64 (n : Int)) := by
          have := hrg 3 (.int .i64 (l[wi]).a) rfl
          rw [hn] at this
          exact this
        obtain ⟨G, hG⟩ : ∃ G, gapT cm gi = G := ⟨_, rfl⟩
        have hGl : G.length ≤ 302 := by rw [← hG]; exact gapT_len (by omega) gi
        rw [hG] at hins ⊢
        have HINS := Lib.hid hins
        have hszG := strOf_size G
        clear hG hins hn hrg hgc hcat
        go_upto_region 13 with fail
        have hwr : IntKind.i64.wrap ((s.length : Int) + (G.length : Int)) = (s.length : Int) + (G.length : Int) := IntWalk.i64_in _ (by omega)
        by_cases hlen : 4096 < s.length + G.length
        case pos =>
          have d3 : decide ((4096 : Int) < (s.length : Int) + (G.length : Int)) = true := decide_eq_true (by omega)
          have d3' : decide ((s.length : Int) + (G.length : Int) > 4096) = true := decide_eq_true (by omega)
          go_wp2_with (
            go_at_call 8
            refine (awake_c W2 (HL1.out.far FG.out)).mono ?_
            rintro e W3 ⟨rfl, f3⟩
            have F3 := Lib.hid f3
            clear f3)
          go_ret
          exact ⟨rfl, (F1.out.trans FG.out (fun _ _ h => h)).trans F3.out (fun _ _ h => h)⟩
        case neg =>
        have d3 : decide ((4096 : Int) < (s.length : Int) + (G.length : Int)) = false := decide_eq_false (by omega)
        have d3' : decide ((s.length : Int) + (G.length : Int) > 4096) = false := decide_eq_false (by omega)
        go_upto_region 15 with fail
        obtain ⟨L2, hL2⟩ : ∃ q, l.map (insT (n : Int) G.length) = q := ⟨_, rfl⟩
        have hN2 : L2.length = l.length := by rw [← hL2, List.length_map]
        have hslen : (s.take n ++ (G ++ s.drop n)).length = s.length + G.length := by
          rw [List.length_append, List.length_append, List.length_take, List.length_drop]; omega
        have AC : Hid (∀ W, Fr (fun _ => False) W2 W → Calls Tryd.prog 9 #[.string (strOf (s.take n ++ (G ++ s.drop n)))] W fun e w' => ∃ A c, e = .returned (.tuple #[.slice A l.length c, .int .i64 0, .int .i64 0]) ∧ w'.ownsRow 0 32 4 (.slice A l.length c) l.length (flatT L2) ∧ Fr (fun _ => False) W w') := Lib.hid (fun W hW => (all_c W _ (by omega) ((HL1.out.far FG.out).far hW)).mono fun e w' hq => by
          obtain ⟨A, c, h1, h2, h3, -⟩ := all_is (n := l.length) (by omega) (by rw [HINS.out, hL2]) hN2 hq
          exact ⟨A, c, h1, h2, h3⟩)
        have hs1 := fun W => run_take W s n (by omega)
        have hs2 := fun W => run_drop W s n (by omega)
        have hsum : strOf (s.take n) ++ strOf G ++ strOf (s.drop n) = strOf (s.take n ++ (G ++ s.drop n)) := by
          rw [strOf_app, strOf_app, List.append_assoc]
        rw [← hsum] at AC
        have y1 : ¬ 9223372036854775807 < (strOf (s.take n)).size + (strOf G).size := by rw [strOf_size, strOf_size, List.length_take]; omega
        have y2 : ¬ 9223372036854775807 < (strOf (s.take n)).size + (strOf G).size + (strOf (s.drop n)).size := by rw [strOf_size, strOf_size, strOf_size, List.length_take, List.length_drop]; omega
        clear hsum hsz hsz2 hszG hslen
        have HS2' := Lib.hid hL2
        clear hL2
        obtain ⟨T1, hT1⟩ : ∃ q, strOf (s.take n) = q := ⟨_, rfl⟩
        obtain ⟨T2, hT2⟩ : ∃ q, strOf (s.drop n) = q := ⟨_, rfl⟩
        obtain ⟨SG, hSG⟩ : ∃ q, strOf G = q := ⟨_, rfl⟩
        obtain ⟨S0, hS0⟩ : ∃ q, strOf s = q := ⟨_, rfl⟩
        have hszG : SG.size = G.length := by rw [← hSG, strOf_size]
        rw [hT1, hT2, hSG] at AC y2
        rw [hT1, hSG] at y1
        rw [hT1, hS0] at hs1
        rw [hT2, hS0] at hs2
        rw [hSG, hS0]
        have HS1 := Lib.hid hs1
        have HS2 := Lib.hid hs2
        clear hs1 hs2 hT1 hT2 hSG hS0
        refine (wpIn_wide (n := 9)).1 ?_
        refine wpIn_region_factsG (ms := [0, 0, 3, 0, 15, 0, 0, 96, 255, 511, 1023, 2047, 2047, 2047, 4095, 24575, 65535]) (k := 17) (Fr (fun _ => False)) (beX S0 T1 T2 SG n l.length L2) (fun i v W => True) (by kernel_rfl) (by kernel_rfl) (Fr.refl _ _) (fun a b c h1 h2 => h1.trans h2 (fun _ _ h => h)) (fun i v w w' hg hx => beX_far hg hx) ?walk15
        case walk15 =>
        have hdr : ∀ W, Fr (fun _ => False) W2.drew W → Fr (fun _ => False) W2 W := fun W h => ((Fr.refl (fun _ => False) W2).drew).trans h (fun _ _ h => h)
        have HDR := Lib.hid hdr
        clear hdr
        refine factWalkG_cons (fun W hW hf K hK => ?_) (fun x0 => ?_)
        · skip
          refine ⟨by kernel_rfl, ?_⟩
          gi_step
          exact hK _ _ (Fr.refl _ _) rfl trivial
        simp only [Act.put, List.setIfInBounds_toArray, List.set_cons_succ, List.set_cons_zero]
        refine factWalkG_cons (fun W hW hf K hK => ?_) (fun x1 => ?_)
        · skip
          refine ⟨by kernel_rfl, ?_⟩
          gi_step
          exact hK _ _ (Fr.refl _ _) rfl trivial
        simp only [Act.put, List.setIfInBounds_toArray, List.set_cons_succ, List.set_cons_zero]
        refine factWalkG_cons (fun W hW hf K hK => ?_) (fun x2 => ?_)
        · skip
          have e0 : x0 = .string S0 := hf 0 (by omega) (by kernel_rfl)
          have e1 : x1 = .int .i64 (n : Int) := hf 1 (by omega) (by kernel_rfl)
          subst e0 e1
          refine ⟨by kernel_rfl, ?_⟩
          refine operIn_slh _ _ rfl _ _ rfl rfl (HS1.out W) ?_
          exact hK _ _ (Fr.refl _ _) rfl trivial
        simp only [Act.put, List.setIfInBounds_toArray, List.set_cons_succ, List.set_cons_zero]
        refine factWalkG_cons (fun W hW hf K hK => ?_) (fun x3 => ?_)
        · skip
          refine ⟨by kernel_rfl, ?_⟩
          gi_step
          exact hK _ _ (Fr.refl _ _) rfl trivial
        simp only [Act.put, List.setIfInBounds_toArray, List.set_cons_succ, List.set_cons_zero]
        refine factWalkG_cons (fun W hW hf K hK => ?_) (fun x4 => ?_)
        · skip
          have e2 : x2 = .string T1 := hf 2 (by omega) (by kernel_rfl)
          have e3 : x3 = .string SG := hf 3 (by omega) (by kernel_rfl)
          subst e2 e3
          refine ⟨by kernel_rfl, ?_⟩
          gi_step
          exact hK _ _ (Fr.refl _ _) rfl trivial
        simp only [Act.put, List.setIfInBounds_toArray, List.set_cons_succ, List.set_cons_zero]
        refine factWalkG_cons (fun W hW hf K hK => ?_) (fun x5 => ?_)
        · skip
          refine ⟨by kernel_rfl, ?_⟩
          gi_step
          exact hK _ _ (Fr.refl _ _) rfl trivial
        simp only [Act.put, List.setIfInBounds_toArray, List.set_cons_succ, List.set_cons_zero]
        refine factWalkG_cons (fun W hW hf K hK => ?_) (fun x6 => ?_)
        · skip
          refine ⟨by kernel_rfl, ?_⟩
          gi_step
          exact hK _ _ (Fr.refl _ _) rfl trivial
        simp only [Act.put, List.setIfInBounds_toArray, List.set_cons_succ, List.set_cons_zero]
        refine factWalkG_cons (fun W hW hf K hK => ?_) (fun x7 => ?_)
        · skip
          have e5 : x5 = .string S0 := hf 5 (by omega) (by kernel_rfl)
          have e6 : x6 = .int .i64 (n : Int) := hf 6 (by omega) (by kernel_rfl)
          subst e5 e6
          refine ⟨by kernel_rfl, ?_⟩
          refine operIn_sll _ _ rfl _ _ rfl rfl (HS2.out W) ?_
          exact hK _ _ (Fr.refl _ _) rfl trivial
        simp only [Act.put, List.setIfInBounds_toArray, List.set_cons_succ, List.set_cons_zero]
        refine factWalkG_cons (fun W hW hf K hK => ?_) (fun x8 => ?_)
        · skip
          have e4 : x4 = .string (T1 ++ SG) := hf 4 (by omega) (by kernel_rfl)
          have e7 : x7 = .string T2 := hf 7 (by omega) (by kernel_rfl)
          subst e4 e7
          refine ⟨by kernel_rfl, ?_⟩
          gi_step
          exact hK _ _ (Fr.refl _ _) rfl trivial
        simp only [Act.put, List.setIfInBounds_toArray, List.set_cons_succ, List.set_cons_zero]
        refine factWalkG_cons (fun W hW hf K hK => ?_) (fun x9 => ?_)
        · skip
          have e8 : x8 = .string (T1 ++ SG ++ T2) := hf 8 (by omega) (by kernel_rfl)
          subst e8
          refine ⟨by kernel_rfl, ?_⟩
          gi_step
          refine ⟨trivial, ?_⟩
          refine (callsIn_wide.2 (AC.out W (HDR.out W hW))).mono ?_
          rintro e W' ⟨A, c, rfl, ho, f2⟩
          dsimp only
          exact hK _ _ f2 ⟨A, c, rfl, ho⟩ trivial
        simp only [Act.put, List.setIfInBounds_toArray, List.set_cons_succ, List.set_cons_zero]
        refine factWalkG_cons (fun W hW hf K hK => ?_) (fun x10 => ?_)
        · skip
          obtain ⟨A9, c9, e9, o9⟩ : ∃ (A : Option Addr) (c : Nat), x9 = .tuple #[.slice A l.length c, .int .i64 0, .int .i64 0] ∧ W.ownsRow 0 32 4 (.slice A l.length c) l.length (flatT L2) := hf 9 (by omega) (by kernel_rfl)
          subst e9
          refine ⟨by kernel_rfl, ?_⟩
          gi_step
          exact hK _ _ (Fr.refl _ _) ⟨_, _, rfl, o9⟩ trivial
        simp only [Act.put, List.setIfInBounds_toArray, List.set_cons_succ, List.set_cons_zero]
        refine factWalkG_cons (fun W hW hf K hK => ?_) (fun x11 => ?_)
        · skip
          obtain ⟨A9, c9, e10, o9⟩ : ∃ (A : Option Addr) (c : Nat), x10 = .tuple #[.slice A l.length c, .int .i64 0, .int .i64 0] ∧ W.ownsRow 0 32 4 (.slice A l.length c) l.length (flatT L2) := hf 10 (by omega) (by kernel_rfl)
          subst e10
          refine ⟨by kernel_rfl, ?_⟩
          gi_step
          exact hK _ _ (Fr.refl _ _) ⟨_, _, rfl, o9⟩ trivial
        simp only [Act.put, List.setIfInBounds_toArray, List.set_cons_succ, List.set_cons_zero]
        refine factWalkG_cons (fun W hW hf K hK => ?_) (fun x12 => ?_)
        · skip
          obtain ⟨A9, c9, e10, o9⟩ : ∃ (A : Option Addr) (c : Nat), x10 = .tuple #[.slice A l.length c, .int .i64 0, .int .i64 0] ∧ W.ownsRow 0 32 4 (.slice A l.length c) l.length (flatT L2) := hf 10 (by omega) (by kernel_rfl)
          subst e10
          refine ⟨by kernel_rfl, ?_⟩
          gi_step
          exact hK _ _ (Fr.refl _ _) rfl trivial
        simp only [Act.put, List.setIfInBounds_toArray, List.set_cons_succ, List.set_cons_zero]
        refine factWalkG_cons (fun W hW hf K hK => ?_) (fun x13 => ?_)
        · skip
          obtain ⟨A9, c9, e10, o9⟩ : ∃ (A : Option Addr) (c : Nat), x10 = .tuple #[.slice A l.length c, .int .i64 0, .int .i64 0] ∧ W.ownsRow 0 32 4 (.slice A l.length c) l.length (flatT L2) := hf 10 (by omega) (by kernel_rfl)
          subst e10
          refine ⟨by kernel_rfl, ?_⟩
          gi_step
          exact hK _ _ (Fr.refl _ _) rfl trivial
        simp only [Act.put, List.setIfInBounds_toArray, List.set_cons_succ, List.set_cons_zero]
        refine factWalkG_cons (fun W hW hf K hK => ?_) (fun x14 => ?_)
        · skip
          obtain ⟨A9, c9, e11, o9⟩ : ∃ (A : Option Addr) (c : Nat), x11 = .slice A l.length c ∧ W.ownsRow 0 32 4 (.slice A l.length c) l.length (flatT L2) := hf 11 (by omega) (by kernel_rfl)
          subst e11
          refine ⟨by kernel_rfl, ?_⟩
          gi_step
          exact hK _ _ (Fr.refl _ _) ⟨_, _, rfl, o9⟩ trivial
        simp only [Act.put, List.setIfInBounds_toArray, List.set_cons_succ, List.set_cons_zero]
        refine factWalkG_cons (fun W hW hf K hK => ?_) (fun x15 => ?_)
        · skip
          have e12 : x12 = .int .i64 0 := hf 12 (by omega) (by kernel_rfl)
          subst e12
          refine ⟨by kernel_rfl, ?_⟩
          gi_step
          exact hK _ _ (Fr.refl _ _) rfl trivial
        simp only [Act.put, List.setIfInBounds_toArray, List.set_cons_succ, List.set_cons_zero]
        refine factWalkG_cons (fun W hW hf K hK => ?_) (fun x16 => ?_)
        · skip
          have e13 : x13 = .int .i64 0 := hf 13 (by omega) (by kernel_rfl)
          subst e13
          refine ⟨by kernel_rfl, ?_⟩
          gi_step
          exact hK _ _ (Fr.refl _ _) rfl trivial
        simp only [Act.put, List.setIfInBounds_toArray, List.set_cons_succ, List.set_cons_zero]
        refine factWalkG_nil (fun W hW hf5 hmet => ?_)
        obtain ⟨A3, c3, e14, o3⟩ : ∃ (A : Option Addr) (c : Nat), x14 = .slice A l.length c ∧ W.ownsRow 0 32 4 (.slice A l.length c) l.length (flatT L2) := hf5 14 (by omega)
        have e15 : x15 = .int .i64 0 := hf5 15 (by omega)
        have e16 : x16 = .int .i64 0 := hf5 16 (by omega)
        subst e14 e15 e16
        have O3 := Lib.hid o3
        have F3 : Hid (Fr (fun _ => False) W2 W) := Lib.hid (HDR.out W hW)
        clear hf5 hmet hW HDR o3
        change wpAnyIn _ _ _ _ _ _ 0 _ _ _
        refine wpAnyIn_done (by kernel_rfl) ?_ _
        try simp only [Act.put, List.setIfInBounds_toArray, List.set_cons_succ, List.set_cons_zero]
        have RA := Lib.hid (R2.out.far F3.out)
        have RB : Hid (RdT W A3 L2) := Lib.hid (RdT.of_own (c := c3) (by rw [hN2]; exact O3.out))
        have SM : Hid (Calls Tryd.prog 17 #[.slice (some ⟨b1, of1, none⟩) l.length c1, .slice A3 l.length c3] W fun e w' => e = .returned (.bool true) ∧ Fr (fun _ => False) W w') := Lib.hid (by
          have h := same_c (c := c1) (c' := c3) W RA.out RB.out (by omega) (by omega)
          rw [show sameT l L2 = true from by rw [← HS2'.out]; exact same_ins _ _ l, hN2] at h
          exact h)
        have HLW := Lib.hid ((HL1.out.far FG.out).far F3.out)
        have FW := Lib.hid ((F1.out.trans FG.out (fun _ _ h => h)).trans F3.out (fun _ _ h => h))
        have HMEM : Hid (∀ (i : Nat) (h : i < l.length), ∃ k : Nat, l[i].a = (k : Int) ∧ k < s.length) := Lib.hid (fun i h => by
          obtain ⟨k, h1, h2, -⟩ := all_ins HA.out HNO.out gi (List.getElem_mem h)
          exact ⟨k, h1, h2⟩)
        have hlpos : l.length ≤ 4096 := by omega
        clear AC HS1 HS2 O3 R2 HINS O1 F1 FG F3 HL1 y1 y2 hca
        go_wp2_with (
          go_at_call 17
          refine SM.out.mono ?_
          rintro e W4 ⟨rfl, f4⟩
          have F4 := Lib.hid f4
          clear f4)
        go_loopw [18] (fun iv W => ∃ i : Nat, i ≤ l.length ∧ iv = .int .i64 (i : Int) ∧ W4 = W) (fun iv _ => l.length - (intOf iv).toNat)
        case atStart => exact ⟨0, Nat.zero_le _, rfl, rfl⟩
        case round =>
          obtain ⟨i, hi, rfl, rfl⟩ := hrel
          by_cases hlt : i < l.length
          case pos =>
            have hdl : decide ((i : Int) < (l.length : Int)) = true := decide_eq_true (by omega)
            have hdl' : decide (i < l.length) = true := decide_eq_true hlt
            have q8 : (0 : Int) ≤ (i : Int) := by omega
            have q9 : (i : Int) < (l.length : Int) := by omega
            have hlt2 : i < L2.length := by rw [hN2]; exact hlt
            obtain ⟨b5, of5, hA5, hra⟩ := (RA.out.far F4.out).at_ hlt
            injection hA5 with hA5
            injection hA5 with e5 e6
            subst e5 e6
            obtain ⟨b3, of3, hA3, hrb⟩ := (RB.out.far F4.out).at_ hlt2
            subst hA3
            obtain ⟨k, hk, hks⟩ := HMEM.out i hlt
            have hL2i : L2[i] = insT (n : Int) G.length l[i] := by
              have := HS2'.out
              subst this
              rw [List.getElem_map]
            have hwk : IntKind.i64.wrap ((k : Int) + (G.length : Int)) = (k : Int) + (G.length : Int) := IntWalk.i64_in _ (by omega)
            have ca : W4.cell? ⟨b1, of1 + i * 4 + 3, none⟩ = some (.int .i64 (k : Int)) := by
              have := hra 3 (.int .i64 (l[i]).a) rfl
              rw [hk] at this
              exact this
            have cb0 := hrb 3 (.int .i64 (L2[i]).a) rfl
            rw [hL2i] at cb0
            clear hra hrb hL2i
            by_cases hkn : k < n
            case pos =>
              have e7 : (insT (n : Int) G.length l[i]).a = (k : Int) := by
                unfold insT
                rw [if_pos (by omega)]
                exact hk
              rw [e7] at cb0
              have cb : W4.cell? ⟨b3, of3 + i * 4 + 3, none⟩ = some (.int .i64 (k : Int)) := cb0
              have d5 : decide ((k : Int) ≥ (n : Int)) = false := decide_eq_false (by omega)
              have d5' : decide ((n : Int) ≤ (k : Int)) = false := decide_eq_false (by omega)
              have d5'' : decide (n ≤ k) = false := decide_eq_false (by omega)
              clear cb0 e7 hk
              go_wp2_with fail
              go_roundw
              case rel => exact ⟨i + 1, by omega, by go_num, trivial⟩
              case measure => simp [intOf]; omega
            case neg =>
              have e7 : (insT (n : Int) G.length l[i]).a = (k : Int) + (G.length : Int) := by
                unfold insT
                rw [if_neg (by omega)]
                show (l[i]).a + _ = _
                rw [hk]
              rw [e7] at cb0
              have cb : W4.cell? ⟨b3, of3 + i * 4 + 3, none⟩ = some (.int .i64 ((k : Int) + (G.length : Int))) := cb0
              have d5 : decide ((k : Int) ≥ (n : Int)) = true := decide_eq_true (by omega)
              have d5' : decide ((n : Int) ≤ (k : Int)) = true := decide_eq_true (by omega)
              have d5'' : decide (n ≤ k) = true := decide_eq_true (by omega)
              clear cb0 e7 hk
              go_wp2_with fail
              go_roundw
              case rel => exact ⟨i + 1, by omega, by go_num, trivial⟩
              case measure => simp [intOf]; omega
          case neg =>
            obtain rfl : i = l.length := by omega
            have hdl : decide ((l.length : Int) < (l.length : Int)) = false := decide_eq_false (by omega)
            have hdl' : decide (l.length < l.length) = false := decide_eq_false (by omega)
            go_wp2_with (
              go_at_call 8
              refine (awake_c W4 (HLW.out.far F4.out)).mono ?_
              rintro e W5 ⟨rfl, f5⟩
              have F5 := Lib.hid f5
              clear f5)
            go_ret
            exact ⟨rfl, (FW.out.trans F4.out (fun _ _ h => h)).trans F5.out (fun _ _ h => h)⟩
end Go.Proofs.YtimopkmlcjdgfaaDoor
