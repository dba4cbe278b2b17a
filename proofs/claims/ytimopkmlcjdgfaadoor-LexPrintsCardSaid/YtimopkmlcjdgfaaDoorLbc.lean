/-
  CONTRACT of the law LexBack. Written by gen_lbc.py.
-/
import Derived.Test.YtimopkmlcjdgfaaDoorLbw
import Derived.Test.YtimopkmlcjdgfaaDoorLbe
namespace Go.Proofs.YtimopkmlcjdgfaaDoor
set_option linter.unusedSimpArgs false
set_option linter.unusedVariables false
open Go Go.RowKit Go.Shelf

theorem factWalkG_skip {F : Fence} {N : Nat} {P : Program} {ms : List Nat} {ops : Array Oper} {G : World → World → Prop} {w0 : World} {Xs Fp : Nat → Value → World → Prop} {i : Nat} {o : Oper} {rest : List Oper} {val : Nat → Value} {a : Act} {K : (Nat → Value) → Act → Prop}
    (h1 : ∀ w, G w0 w → (∀ j, j < i → Anc ms i j = true → Xs j (val j) w) → Region.wanted o (yielded ops a.tmps) = false ∧ (∀ f, o.about P w a.eval = some f → F.fn f) ∧ ∀ K' : Act → World → Prop, (∀ v w', G w w' → Xs i v w' → Fp i v w → K' (a.put o.dst v) w') → K' (a.put o.dst undef) w)
    (h3 : ∀ v, factWalkG F N P ms ops G w0 Xs Fp (i + 1) rest (fun q => if q = i then v else val q) (a.put o.dst v) K) : factWalkG F N P ms ops G w0 Xs Fp i (o :: rest) val a K :=
  ⟨fun w hw hf K' hK' => by rw [if_neg (by rw [(h1 w hw hf).1]; simp)]; exact ⟨(h1 w hw hf).2.1, (h1 w hw hf).2.2 K' hK'⟩, h3⟩
theorem load_val {P : Program} (W : World) (g off : Nat) (C : Array Value) (h : W.rangeAt g off C.toList) (ty : TypeId) (d : TypeDesc) (hu : P.underlying ty = some d) (hd : d.isRow = true) (hi : (P.info? ty).map (·.size) = some C.size) :
    (Instr.loadAt ty (.pointer (some ⟨g, off, none⟩))).run P W = .ok (.agg C) W := by
  have := run_loadAt_mid (P := P) W g off ty C.toList d h hu hd (by rw [Array.length_toList]; exact hi)
  rwa [Array.toArray_toList] at this
def baX (b1 of1 N c1 y9 k : Nat) (C : Array Value) (s : List UInt8) (i : Nat) (v : Value) (W : World) : Prop := match i with
  | 0 => v = .slice (some ⟨b1, of1, none⟩) N c1
  | 1 => v = .int .i64 (y9 : Int)
  | 2 => v = .pointer (some ⟨b1, of1 + y9 * 4, none⟩)
  | 3 => v = .agg C
  | 4 => v = .bool true
  | 5 => v = .bool false
  | 6 => v = .bool false
  | 7 => v = .slice (some ⟨b1, of1, none⟩) N c1
  | 8 => v = .int .i64 (y9 : Int)
  | 9 => v = .pointer (some ⟨b1, of1 + y9 * 4, none⟩)
  | 10 => v = .pointer (some ⟨b1, of1 + y9 * 4 + 3, none⟩)
  | 11 => v = .int .i64 (k : Int)
  | 12 => v = .string (strOf s)
  | 13 => v = .int .i64 (s.length : Int)
  | 14 => v = .bool false
  | 15 => v = .bool false
  | 16 => v = .bool false
  | 17 => v = .int .i64 (y9 : Int)
  | 18 => v = .bool false
  | 19 => v = .bool false
  | 20 => v = undef
  | 21 => v = undef
  | 22 => v = undef
  | 23 => v = undef
  | 24 => v = undef
  | 25 => v = undef
  | 26 => v = undef
  | 27 => v = undef
  | 28 => v = undef
  | 29 => v = undef
  | 30 => v = undef
  | 31 => v = undef
  | 32 => v = .bool false
  | 33 => v = .bool false
  | _ => True
theorem baX_far {b1 of1 N c1 y9 k : Nat} {C : Array Value} {s : List UInt8} {i : Nat} {v : Value} {W W' : World} (hg : Fr (fun _ => False) W W') (hx : baX b1 of1 N c1 y9 k C s i v W) : baX b1 of1 N c1 y9 k C s i v W' := by
  match i with
  | 0 => exact hx
  | 1 => exact hx
  | 2 => exact hx
  | 3 => exact hx
  | 4 => exact hx
  | 5 => exact hx
  | 6 => exact hx
  | 7 => exact hx
  | 8 => exact hx
  | 9 => exact hx
  | 10 => exact hx
  | 11 => exact hx
  | 12 => exact hx
  | 13 => exact hx
  | 14 => exact hx
  | 15 => exact hx
  | 16 => exact hx
  | 17 => exact hx
  | 18 => exact hx
  | 19 => exact hx
  | 20 => exact hx
  | 21 => exact hx
  | 22 => exact hx
  | 23 => exact hx
  | 24 => exact hx
  | 25 => exact hx
  | 26 => exact hx
  | 27 => exact hx
  | 28 => exact hx
  | 29 => exact hx
  | 30 => exact hx
  | 31 => exact hx
  | 32 => exact hx
  | 33 => exact hx
  | (n + 34) => exact hx
def bbX (b1 of1 N c1 y9 j k k0 : Nat) (C : Array Value) (s : List UInt8) (i : Nat) (v : Value) (W : World) : Prop := match i with
  | 0 => v = .slice (some ⟨b1, of1, none⟩) N c1
  | 1 => v = .int .i64 (y9 : Int)
  | 2 => v = .pointer (some ⟨b1, of1 + y9 * 4, none⟩)
  | 3 => v = .agg C
  | 4 => v = .bool true
  | 5 => v = .bool false
  | 6 => v = .bool false
  | 7 => v = .slice (some ⟨b1, of1, none⟩) N c1
  | 8 => v = .int .i64 (y9 : Int)
  | 9 => v = .pointer (some ⟨b1, of1 + y9 * 4, none⟩)
  | 10 => v = .pointer (some ⟨b1, of1 + y9 * 4 + 3, none⟩)
  | 11 => v = .int .i64 (k : Int)
  | 12 => v = .string (strOf s)
  | 13 => v = .int .i64 (s.length : Int)
  | 14 => v = .bool false
  | 15 => v = .bool false
  | 16 => v = .bool false
  | 17 => v = .int .i64 (y9 : Int)
  | 18 => v = .bool true
  | 19 => v = .bool true
  | 20 => v = .slice (some ⟨b1, of1, none⟩) N c1
  | 21 => v = .int .i64 (y9 : Int)
  | 22 => v = .pointer (some ⟨b1, of1 + y9 * 4, none⟩)
  | 23 => v = .pointer (some ⟨b1, of1 + y9 * 4 + 3, none⟩)
  | 24 => v = .int .i64 (k : Int)
  | 25 => v = .slice (some ⟨b1, of1, none⟩) N c1
  | 26 => v = .int .i64 (y9 : Int)
  | 27 => v = .int .i64 (j : Int)
  | 28 => v = .pointer (some ⟨b1, of1 + j * 4, none⟩)
  | 29 => v = .pointer (some ⟨b1, of1 + j * 4 + 3, none⟩)
  | 30 => v = .int .i64 (k0 : Int)
  | 31 => v = .bool false
  | 32 => v = .bool false
  | 33 => v = .bool false
  | _ => True
theorem bbX_far {b1 of1 N c1 y9 j k k0 : Nat} {C : Array Value} {s : List UInt8} {i : Nat} {v : Value} {W W' : World} (hg : Fr (fun _ => False) W W') (hx : bbX b1 of1 N c1 y9 j k k0 C s i v W) : bbX b1 of1 N c1 y9 j k k0 C s i v W' := by
  match i with
  | 0 => exact hx
  | 1 => exact hx
  | 2 => exact hx
  | 3 => exact hx
  | 4 => exact hx
  | 5 => exact hx
  | 6 => exact hx
  | 7 => exact hx
  | 8 => exact hx
  | 9 => exact hx
  | 10 => exact hx
  | 11 => exact hx
  | 12 => exact hx
  | 13 => exact hx
  | 14 => exact hx
  | 15 => exact hx
  | 16 => exact hx
  | 17 => exact hx
  | 18 => exact hx
  | 19 => exact hx
  | 20 => exact hx
  | 21 => exact hx
  | 22 => exact hx
  | 23 => exact hx
  | 24 => exact hx
  | 25 => exact hx
  | 26 => exact hx
  | 27 => exact hx
  | 28 => exact hx
  | 29 => exact hx
  | 30 => exact hx
  | 31 => exact hx
  | 32 => exact hx
  | 33 => exact hx
  | (n + 34) => exact hx
/-- What the law's first call of Print tells, in one shape. -/
theorem prt_any {l : List Tk} {w w' : World} {e : Ending} (h : PrtQ l w e w') : ∃ (p : List UInt8) (r : Int), e = .returned (.tuple #[.string (strOf p), .int .i64 r]) ∧ Fr (fun _ => False) w w' ∧ (r = 0 → prt l = some p) := by
  unfold PrtQ at h
  cases hp : prt l with
  | none =>
    rw [hp] at h
    obtain ⟨rfl, hf⟩ := h
    exact ⟨[], _, rfl, hf, fun e => by cases e⟩
  | some p =>
    rw [hp] at h
    obtain ⟨rfl, hf⟩ := h
    exact ⟨p, 0, rfl, hf, fun _ => rfl⟩
set_option maxRecDepth 100000 in
set_option maxHeartbeats 8000000 in
theorem lexBack_c (w : World) {A : Option Addr} {c : Nat} {l : List Tk} (s : List UInt8) (hp : RdT w A l) (hl : l.length ≤ 140737488355328) (ht : ∀ x ∈ l, x.t.length ≤ 140737488355328) (hn : ∀ x ∈ l, -9223372036854775808 ≤ x.n ∧ x.n ≤ 9223372036854775807) (hs : s.length ≤ 140737488355328) (hL : LaidOk w) : Calls Tryd.prog 5 #[.slice A l.length c, .string (strOf s)] w fun e w' => e = .returned (.bool true) ∧ Fr (fun _ => False) w w' := by
  have HL := Lib.hid hL
  have HP := Lib.hid hp
  have hsz := strOf_size s
  have WG := Lib.hid (weigh_c (c := c) w hp hl ht)
  obtain ⟨wt, hwt⟩ : ∃ q, wgh l.length l = q := ⟨_, rfl⟩
  rw [hwt] at WG
  have HWT := Lib.hid hwt
  have HT := Lib.hid ht
  have HN := Lib.hid hn
  clear hL hp ht hwt hn
  by_cases hbig : 20000 < wt
  case pos =>
    have d1 : decide ((20000 : Int) < (wt : Int)) = true := decide_eq_true (by omega)
    have d1' : decide ((wt : Int) > 20000) = true := decide_eq_true (by omega)
    go_enter Tryd.func5, Tryd.ntmps5
    go_wp2_with (first
      | (go_at_call 12
         refine WG.out.mono ?_
         rintro e W1 ⟨rfl, rfl⟩)
      | (go_at_call 8
         refine (awake_c w HL.out).mono ?_
         rintro e W1 ⟨rfl, f1⟩
         have F1 := Lib.hid f1
         clear f1))
    go_ret
    exact ⟨rfl, F1.out⟩
  case neg =>
  have d1 : decide ((20000 : Int) < (wt : Int)) = false := decide_eq_false (by omega)
  have d1' : decide ((wt : Int) > 20000) = false := decide_eq_false (by omega)
  by_cases hbig2 : 20000 < s.length
  case pos =>
    have d2 : decide ((20000 : Int) < (s.length : Int)) = true := decide_eq_true (by omega)
    have d2' : decide ((s.length : Int) > 20000) = true := decide_eq_true (by omega)
    go_enter Tryd.func5, Tryd.ntmps5
    go_wp2_with (first
      | (go_at_call 12
         refine WG.out.mono ?_
         rintro e W1 ⟨rfl, rfl⟩)
      | (go_at_call 8
         refine (awake_c w HL.out).mono ?_
         rintro e W1 ⟨rfl, f1⟩
         have F1 := Lib.hid f1
         clear f1))
    go_ret
    exact ⟨rfl, F1.out⟩
  case neg =>
  have d2 : decide ((20000 : Int) < (s.length : Int)) = false := decide_eq_false (by omega)
  have d2' : decide ((s.length : Int) > 20000) = false := decide_eq_false (by omega)
  have hl2 : l.length ≤ 20000 := by have := wgh_ge l l.length; rw [HWT.out] at this; omega
  have HOK : Hid (∀ x ∈ l, TkOk x) := Lib.hid (fun x hx => ⟨by have := wgh_small l l.length (by rw [HWT.out]; omega) x hx; omega, (HN.out x hx).1, (HN.out x hx).2⟩)
  have PR := Lib.hid ((print_c (c := c) w HP.out (by omega) HOK.out HL.out).mono fun e w' h => prt_any h)
  clear HWT HT HN
  go_enter Tryd.func5, Tryd.ntmps5
  go_upto_region 3 with (
    go_at_call 12
    refine WG.out.mono ?_
    rintro e W1 ⟨rfl, rfl⟩)
  go_upto_region 4 with (
    go_at_call 15
    refine PR.out.mono ?_
    rintro e W1 ⟨p, r, rfl, f1, hpr⟩
    have F1 := Lib.hid f1
    have HPR := Lib.hid hpr
    clear f1 hpr)
  clear PR WG
  have HL1 := Lib.hid (HL.out.far F1.out)
  have R1 := Lib.hid (HP.out.far F1.out)
  have hszp := strOf_size p
  go_cut [39] from 33 to 39 (fun v wx => (∃ b : Bool, v = .bool b ∧ Hid (b = true → r = 0 ∧ p.length ≤ 4096)) ∧ wx = W1)
  case first =>
    by_cases hr : r = 0
    case neg =>
      have e0 : (r == 0) = false := beq_eq_false_iff_ne.2 hr
      clear hr
      go_wp2_with fail
      go_meet
      exact ⟨⟨false, rfl, Lib.hid (fun h => by cases h)⟩, rfl⟩
    case pos =>
    subst hr
    by_cases hpl : p.length ≤ 4096
    case neg =>
      have e1 : decide ((p.length : Int) ≤ 4096) = false := decide_eq_false (by omega)
      have e1' : decide (p.length ≤ 4096) = false := decide_eq_false hpl
      go_wp2_with fail
      go_meet
      exact ⟨⟨false, rfl, Lib.hid (fun h => by cases h)⟩, rfl⟩
    case pos =>
      have e1 : decide ((p.length : Int) ≤ 4096) = true := decide_eq_true (by omega)
      have e1' : decide (p.length ≤ 4096) = true := decide_eq_true hpl
      go_wp2_with fail
      go_meet
      exact ⟨⟨true, rfl, Lib.hid (fun _ => ⟨(by first | rfl | trivial), hpl⟩)⟩, rfl⟩
  case rest =>
  obtain ⟨⟨b, rfl, HB⟩, hwx⟩ := hcut
  subst hwx
  go_upto_if 39 with fail
  go_cut [7, 8, 9] from 40 to 53 (fun v7 v8 v9 wx => Hid (Fr (fun _ => False) w wx))
  case first =>
    cases b with
    | false =>
      go_wp2_with fail
      go_meet
      exact F1.out
    | true =>
    obtain ⟨hr, hpl⟩ := HB.out rfl
    subst hr
    have hpp := HPR.out rfl
    obtain ⟨-, m, hm, hsm⟩ := all_back hpp HOK.out
    have HM := Lib.hid hm
    have HSM := Lib.hid hsm
    have hml := allS_le hm
    clear hpp hm hsm
    go_upto_region 6 with (
      go_at_call 9
      refine (all_c wc p (by omega) HL1.out).mono ?_
      intro e W2 hq
      obtain ⟨A3, c3, rfl, o3, f2, -⟩ := all_is (n := m.length) hpl HM.out rfl hq
      have O3 := Lib.hid o3
      have F2 := Lib.hid f2
      clear hq o3 f2)
    have SM : Hid (Calls Tryd.prog 17 #[.slice A l.length c, .slice A3 m.length c3] W2 fun e w' => e = .returned (.bool true) ∧ Fr (fun _ => False) W2 w') := Lib.hid (by
      have h := same_c (c := c) (c' := c3) W2 (R1.out.far F2.out) (RdT.of_own O3.out) (by omega) (by omega)
      rw [HSM.out] at h
      exact h)
    go_wp2_with (
      go_at_call 17
      refine SM.out.mono ?_
      rintro e W3 ⟨rfl, f3⟩
      have F3 := Lib.hid f3
      clear f3)
    go_meet
    exact (F1.out.trans F2.out (fun _ _ h => h)).trans F3.out (fun _ _ h => h)
  case rest =>
    have F0 := hcut
    clear hcut F1 HPR R1 HL1 hszp
    have HL0 := Lib.hid (HL.out.far F0.out)
    by_cases hlong : 4096 < s.length
    case pos =>
      go_upto_region 9 with (
        go_at_call 9
        refine (all_c wc s (by omega) HL0.out).mono ?_
        intro e W2 hq
        obtain ⟨rfl, f2⟩ := all_long hlong hq
        have F2 := Lib.hid f2
        clear hq f2)
      have HL2 := Lib.hid (HL0.out.far F2.out)
      go_wp2_with (
        go_at_call 8
        refine (awake_c W2 HL2.out).mono ?_
        rintro e W9 ⟨rfl, f9⟩
        have F9 := Lib.hid f9
        clear f9)
      go_ret
      exact ⟨rfl, (F0.out.trans F2.out (fun _ _ h => h)).trans F9.out (fun _ _ h => h)⟩
    case neg =>
    cases hA : allS s with
    | inr ix =>
      have HA := Lib.hid hA
      clear hA
      go_upto_region 9 with (
        go_at_call 9
        refine (all_c wc s (by omega) HL0.out).mono ?_
        intro e W2 hq
        obtain ⟨rfl, f2⟩ := all_no (by omega) HA.out hq
        have F2 := Lib.hid f2
        clear hq f2)
      have HL2 := Lib.hid (HL0.out.far F2.out)
      go_wp2_with (
        go_at_call 8
        refine (awake_c W2 HL2.out).mono ?_
        rintro e W9 ⟨rfl, f9⟩
        have F9 := Lib.hid f9
        clear f9)
      go_ret
      exact ⟨rfl, (F0.out.trans F2.out (fun _ _ h => h)).trans F9.out (fun _ _ h => h)⟩
    | inl a =>
    have HA := Lib.hid hA
    have hal := allS_le hA
    have hcut := all_cut hA
    have hpa := prt_cut hA
    obtain ⟨q, hq0⟩ : ∃ q, Lib.join (a.map wrt) [32] = q := ⟨_, rfl⟩
    rw [hq0] at hpa
    have HCUT := Lib.hid hcut
    have HPA := Lib.hid hpa
    have HAOK : Hid (∀ x ∈ a, TkOk x) := Lib.hid (fun x hx => (hcut.1 x hx).ok)
    have hql : q.length ≤ 40964096004 := by
      have h := join_le (xs := a.map wrt) (M := 10000000) (fun x hx => by
        obtain ⟨y, hy, rfl⟩ := List.mem_map.1 hx
        exact wrt_le y (HAOK.out y hy))
      rw [hq0, List.length_map] at h
      have h2 : a.length * 10000001 ≤ 4096 * 10000001 := Nat.mul_le_mul_right _ (by omega)
      omega
    clear hA hcut hpa hq0
    go_upto_region 9 with (
      go_at_call 9
      refine (all_c wc s (by omega) HL0.out).mono ?_
      intro e W2 hq
      obtain ⟨A2, c2, rfl, o2, f2, -⟩ := all_is (n := a.length) (by omega) HA.out rfl hq
      have O2 := Lib.hid o2
      have F2 := Lib.hid f2
      clear hq o2 f2)
    have HL2 := Lib.hid (HL0.out.far F2.out)
    have R2 : Hid (RdT W2 A2 a) := Lib.hid (RdT.of_own O2.out)
    have FF := Lib.hid (F0.out.trans F2.out (fun _ _ h => h))
    clear O2 F0 F2 HL0
    go_wp2_with fail
    go_loopw [13] (fun iv W => ∃ i : Nat, i ≤ a.length ∧ iv = .int .i64 (i : Int) ∧ Hid (Fr (fun _ => False) W2 W)) (fun iv _ => a.length - (intOf iv).toNat)
    case atStart => exact ⟨0, Nat.zero_le _, rfl, Fr.refl _ _⟩
    case round =>
      obtain ⟨i, hi, rfl, FR⟩ := hrel
      have HLr := Lib.hid (HL2.out.far FR.out)
      by_cases hlt : i < a.length
      case neg =>
        obtain rfl : i = a.length := by omega
        have hdl : decide ((a.length : Int) < (a.length : Int)) = false := decide_eq_false (by omega)
        have hdl' : decide (a.length < a.length) = false := decide_eq_false (by omega)
        have PA : Hid (Calls Tryd.prog 15 #[.slice A2 a.length c2] wr fun e w' => e = .returned (.tuple #[.string (strOf q), .int .i64 0]) ∧ Fr (fun _ => False) wr w') := Lib.hid (by
          have h := print_c (c := c2) wr (R2.out.far FR.out) (by omega) HAOK.out HLr.out
          refine h.mono ?_
          intro e w' hq
          unfold PrtQ at hq
          rw [HPA.out] at hq
          exact hq)
        obtain ⟨-, b, hb, hsb⟩ := all_back HPA.out HAOK.out
        have hbl := allS_le hb
        have HB := Lib.hid hb
        have HSB := Lib.hid hsb
        clear hb hsb
        have hszq := strOf_size q
        go_upto_region 19 with (
          go_at_call 15
          refine PA.out.mono ?_
          rintro e W3 ⟨rfl, f3⟩
          have F3 := Lib.hid f3
          clear f3)
        have HL3 := Lib.hid (HLr.out.far F3.out)
        by_cases hqs : 4096 < q.length
        case pos =>
          have e1 : decide ((4096 : Int) < (q.length : Int)) = true := decide_eq_true (by omega)
          have e1' : decide ((q.length : Int) > 4096) = true := decide_eq_true (by omega)
          go_upto_region 20 with (
            go_at_call 9
            refine (all_c W3 q (by omega) HL3.out).mono ?_
            intro e W4 hq
            obtain ⟨rfl, f4⟩ := all_long hqs hq
            have F4 := Lib.hid f4
            clear hq f4)
          have HL4 := Lib.hid (HL3.out.far F4.out)
          go_wp2_with (
            go_at_call 8
            refine (awake_c W4 HL4.out).mono ?_
            rintro e W9 ⟨rfl, f9⟩
            have F9 := Lib.hid f9
            clear f9)
          go_ret
          exact ⟨rfl, (((FF.out.trans FR.out (fun _ _ h => h)).trans F3.out (fun _ _ h => h)).trans F4.out (fun _ _ h => h)).trans F9.out (fun _ _ h => h)⟩
        case neg =>
          have e1 : decide ((4096 : Int) < (q.length : Int)) = false := decide_eq_false (by omega)
          have e1' : decide ((q.length : Int) > 4096) = false := decide_eq_false (by omega)
          go_upto_region 20 with (
            go_at_call 9
            refine (all_c W3 q (by omega) HL3.out).mono ?_
            intro e W4 hq
            obtain ⟨A4, c4, rfl, o4, f4, -⟩ := all_is (n := b.length) (by omega) HB.out rfl hq
            have O4 := Lib.hid o4
            have F4 := Lib.hid f4
            clear hq o4 f4)
          have HL4 := Lib.hid (HL3.out.far F4.out)
          have SM : Hid (Calls Tryd.prog 17 #[.slice A2 a.length c2, .slice A4 b.length c4] W4 fun e w' => e = .returned (.bool true) ∧ Fr (fun _ => False) W4 w') := Lib.hid (by
            have h := same_c (c := c2) (c' := c4) W4 (((R2.out.far FR.out).far F3.out).far F4.out) (RdT.of_own O4.out) (by omega) (by omega)
            rw [HSB.out] at h
            exact h)
          go_wp2_with (first
            | (go_at_call 17
               refine SM.out.mono ?_
               rintro e W5 ⟨rfl, f5⟩
               have F5 := Lib.hid f5
               have HL5 := Lib.hid (HL4.out.far f5)
               clear f5)
            | (go_at_call 8
               refine (awake_c W5 HL5.out).mono ?_
               rintro e W9 ⟨rfl, f9⟩
               have F9 := Lib.hid f9
               clear f9))
          go_ret
          exact ⟨rfl, ((((FF.out.trans FR.out (fun _ _ h => h)).trans F3.out (fun _ _ h => h)).trans F4.out (fun _ _ h => h)).trans F5.out (fun _ _ h => h)).trans F9.out (fun _ _ h => h)⟩
      case pos =>
        have hdl : decide ((i : Int) < (a.length : Int)) = true := decide_eq_true (by omega)
        have hdl' : decide (i < a.length) = true := decide_eq_true hlt
        have q1 : (0 : Int) ≤ (i : Int) := by omega
        have q2 : (i : Int) < (a.length : Int) := by omega
        have R3 := Lib.hid (R2.out.far FR.out)
        obtain ⟨b1, of1, hA1, hrg⟩ := R3.out.at_ hlt
        subst hA1
        have hci := HCUT.out.1 _ (List.getElem_mem hlt)
        obtain ⟨k, hk⟩ : ∃ k : Nat, (a[i]).a = (k : Int) := ⟨(a[i]).a.toNat, by have := hci.a0; omega⟩
        have hkl : (k : Int) < (s.length : Int) := by have := hci.a1; omega
        have MY := Lib.hid (fun W hW => may_c W (a[i]).k (a[i]).t (a[i]).n (a[i]).a (hci.ok.t) hW)
        have hmt : mayT (a[i]).k (a[i]).t (a[i]).n (a[i]).a = true := hci.may
        rw [hmt] at MY
        change Hid (∀ W, LaidOk W → Calls Tryd.prog 13 #[.agg (tk4 a[i])] W fun e w' => e = .returned (.bool true) ∧ Fr (fun _ => False) W w') at MY
        have CA : Hid (wr.cell? ⟨b1, of1 + i * 4 + 3, none⟩ = some (.int .i64 (k : Int))) := Lib.hid (by
          have := hrg 3 (.int .i64 (a[i]).a) rfl
          rw [hk] at this
          exact this)
        have HS : Hid ((Tryd.prog.info? 32).map (·.size) = some (tk4 a[i]).size) := Lib.hid tsize
        have RG := Lib.hid hrg
        have g1 : decide ((s.length : Int) ≤ (k : Int)) = false := decide_eq_false (by omega)
        have g1' : decide (s.length ≤ k) = false := decide_eq_false (by omega)
        have g1'' : decide ((k : Int) ≥ (s.length : Int)) = false := decide_eq_false (by omega)
        have HK := Lib.hid hk
        clear hrg hci hmt hk
        obtain ⟨C, hC⟩ : ∃ C, tk4 a[i] = C := ⟨_, rfl⟩
        rw [hC] at MY HS RG
        clear hC
        obtain ⟨N, hN⟩ : ∃ N, a.length = N := ⟨_, rfl⟩
        have HNN := Lib.hid hN
        by_cases hi0 : i = 0
        case pos =>
          have g2 : decide ((i : Int) > 0) = false := decide_eq_false (by omega)
          have g2' : decide ((0 : Int) < (i : Int)) = false := decide_eq_false (by omega)
          have g2'' : decide (0 < i) = false := decide_eq_false (by omega)
          have HI0 := Lib.hid hi0
          clear hi0
          go_upto_region 14 with fail
          refine (wpIn_wide (n := 9)).1 ?_
          refine wpIn_region_factsG (ms := [0, 0, 3, 7, 15, 31, 63, 127, 127, 511, 1023, 2047, 127, 4223, 16383, 32767, 65535, 131071, 262143, 524287, 1048575, 1048575, 4194303, 8388607, 16777215, 1048575, 1048575, 68157439, 235929599, 504365055, 1041235967, 2147483647, 4294967295, 8589934591]) (k := 34) (Fr (fun _ => False)) (baX b1 of1 a.length c2 i k C s) (fun i v W => True) (by kernel_rfl) (by kernel_rfl) (Fr.refl _ _) (fun a b c h1 h2 => h1.trans h2 (fun _ _ h => h)) (fun i v w w' hg hx => baX_far hg hx) ?walk14a
          case walk14a =>
          have hdr : ∀ W, Fr (fun _ => False) wr.drew W → Fr (fun _ => False) wr W := fun W h => ((Fr.refl (fun _ => False) wr).drew).trans h (fun _ _ h => h)
          have HDR := Lib.hid hdr
          clear hdr
          refine factWalkG_cons (fun W hW hf K hK => ?_) (fun x0 => ?_)
          · skip
            refine ⟨by kernel_rfl, ?_⟩
            gi_step
            exact hK _ _ (Fr.refl _ _) rfl trivial
          simp only [Act.put, List.setIfInBounds_toArray, List.set_cons_succ, List.set_cons_zero]
          refine factWalkG_cons (fun W hW hf K hK => ?_) (fun x1 => ?_)
          · skip
            refine ⟨by kernel_rfl, ?_⟩
            gi_step
            exact hK _ _ (Fr.refl _ _) rfl trivial
          simp only [Act.put, List.setIfInBounds_toArray, List.set_cons_succ, List.set_cons_zero]
          refine factWalkG_cons (fun W hW hf K hK => ?_) (fun x2 => ?_)
          · skip
            have e0 : x0 = .slice (some ⟨b1, of1, none⟩) a.length c2 := hf 0 (by omega) (by kernel_rfl)
            have e1 : x1 = .int .i64 (i : Int) := hf 1 (by omega) (by kernel_rfl)
            subst e0 e1
            refine ⟨by kernel_rfl, ?_⟩
            gi_step
            exact hK _ _ (Fr.refl _ _) rfl trivial
          simp only [Act.put, List.setIfInBounds_toArray, List.set_cons_succ, List.set_cons_zero]
          refine factWalkG_cons (fun W hW hf K hK => ?_) (fun x3 => ?_)
          · skip
            have e2 : x2 = .pointer (some ⟨b1, of1 + i * 4, none⟩) := hf 2 (by omega) (by kernel_rfl)
            subst e2
            have hld := load_val (P := Tryd.prog) W b1 (of1 + i * 4) C (rng_fr RG.out (HDR.out W hW) (fun h => h)) 32 _ Tryd.underlying32 rfl HS.out
            refine ⟨by kernel_rfl, ?_⟩
            refine operIn_load 32 _ rfl _ rfl hld ?_
            exact hK _ _ (Fr.refl _ _) rfl trivial
          simp only [Act.put, List.setIfInBounds_toArray, List.set_cons_succ, List.set_cons_zero]
          refine factWalkG_cons (fun W hW hf K hK => ?_) (fun x4 => ?_)
          · skip
            have e3 : x3 = .agg C := hf 3 (by omega) (by kernel_rfl)
            subst e3
            refine ⟨by kernel_rfl, ?_⟩
            gi_step
            refine ⟨trivial, ?_⟩
            refine (callsIn_wide.2 (MY.out W (HLr.out.far (HDR.out W hW)))).mono ?_
            rintro e W' ⟨rfl, f2⟩
            dsimp only
            exact hK _ _ f2 rfl trivial
          simp only [Act.put, List.setIfInBounds_toArray, List.set_cons_succ, List.set_cons_zero]
          refine factWalkG_cons (fun W hW hf K hK => ?_) (fun x5 => ?_)
          · skip
            have e4 : x4 = .bool true := hf 4 (by omega) (by kernel_rfl)
            subst e4
            refine ⟨by kernel_rfl, ?_⟩
            gi_step
            exact hK _ _ (Fr.refl _ _) rfl trivial
          simp only [Act.put, List.setIfInBounds_toArray, List.set_cons_succ, List.set_cons_zero]
          refine factWalkG_cons (fun W hW hf K hK => ?_) (fun x6 => ?_)
          · skip
            have e5 : x5 = .bool false := hf 5 (by omega) (by kernel_rfl)
            subst e5
            refine ⟨by kernel_rfl, ?_⟩
            gi_step
            exact hK _ _ (Fr.refl _ _) rfl trivial
          simp only [Act.put, List.setIfInBounds_toArray, List.set_cons_succ, List.set_cons_zero]
          refine factWalkG_cons (fun W hW hf K hK => ?_) (fun x7 => ?_)
          · skip
            have e6 : x6 = .bool false := hf 6 (by omega) (by kernel_rfl)
            subst e6
            refine ⟨by kernel_rfl, ?_⟩
            gi_step
            exact hK _ _ (Fr.refl _ _) rfl trivial
          simp only [Act.put, List.setIfInBounds_toArray, List.set_cons_succ, List.set_cons_zero]
          refine factWalkG_cons (fun W hW hf K hK => ?_) (fun x8 => ?_)
          · skip
            have e6 : x6 = .bool false := hf 6 (by omega) (by kernel_rfl)
            subst e6
            refine ⟨by kernel_rfl, ?_⟩
            gi_step
            exact hK _ _ (Fr.refl _ _) rfl trivial
          simp only [Act.put, List.setIfInBounds_toArray, List.set_cons_succ, List.set_cons_zero]
          refine factWalkG_cons (fun W hW hf K hK => ?_) (fun x9 => ?_)
          · skip
            have e6 : x6 = .bool false := hf 6 (by omega) (by kernel_rfl)
            have e7 : x7 = .slice (some ⟨b1, of1, none⟩) a.length c2 := hf 7 (by omega) (by kernel_rfl)
            have e8 : x8 = .int .i64 (i : Int) := hf 8 (by omega) (by kernel_rfl)
            subst e6 e7 e8
            refine ⟨by kernel_rfl, ?_⟩
            gi_step
            exact hK _ _ (Fr.refl _ _) rfl trivial
          simp only [Act.put, List.setIfInBounds_toArray, List.set_cons_succ, List.set_cons_zero]
          refine factWalkG_cons (fun W hW hf K hK => ?_) (fun x10 => ?_)
          · skip
            have e6 : x6 = .bool false := hf 6 (by omega) (by kernel_rfl)
            have e9 : x9 = .pointer (some ⟨b1, of1 + i * 4, none⟩) := hf 9 (by omega) (by kernel_rfl)
            subst e6 e9
            refine ⟨by kernel_rfl, ?_⟩
            gi_step
            exact hK _ _ (Fr.refl _ _) rfl trivial
          simp only [Act.put, List.setIfInBounds_toArray, List.set_cons_succ, List.set_cons_zero]
          refine factWalkG_cons (fun W hW hf K hK => ?_) (fun x11 => ?_)
          · skip
            have e6 : x6 = .bool false := hf 6 (by omega) (by kernel_rfl)
            have e10 : x10 = .pointer (some ⟨b1, of1 + i * 4 + 3, none⟩) := hf 10 (by omega) (by kernel_rfl)
            subst e6 e10
            have ca : W.cell? ⟨b1, of1 + i * 4 + 3, none⟩ = some (.int .i64 (k : Int)) := cell_far CA.out (HDR.out W hW)
            refine ⟨by kernel_rfl, ?_⟩
            gi_step
            exact hK _ _ (Fr.refl _ _) rfl trivial
          simp only [Act.put, List.setIfInBounds_toArray, List.set_cons_succ, List.set_cons_zero]
          refine factWalkG_cons (fun W hW hf K hK => ?_) (fun x12 => ?_)
          · skip
            have e6 : x6 = .bool false := hf 6 (by omega) (by kernel_rfl)
            subst e6
            refine ⟨by kernel_rfl, ?_⟩
            gi_step
            exact hK _ _ (Fr.refl _ _) rfl trivial
          simp only [Act.put, List.setIfInBounds_toArray, List.set_cons_succ, List.set_cons_zero]
          refine factWalkG_cons (fun W hW hf K hK => ?_) (fun x13 => ?_)
          · skip
            have e6 : x6 = .bool false := hf 6 (by omega) (by kernel_rfl)
            have e12 : x12 = .string (strOf s) := hf 12 (by omega) (by kernel_rfl)
            subst e6 e12
            have hszs := strOf_size s
            refine ⟨by kernel_rfl, ?_⟩
            gi_step
            exact hK _ _ (Fr.refl _ _) rfl trivial
          simp only [Act.put, List.setIfInBounds_toArray, List.set_cons_succ, List.set_cons_zero]
          refine factWalkG_cons (fun W hW hf K hK => ?_) (fun x14 => ?_)
          · skip
            have e6 : x6 = .bool false := hf 6 (by omega) (by kernel_rfl)
            have e11 : x11 = .int .i64 (k : Int) := hf 11 (by omega) (by kernel_rfl)
            have e13 : x13 = .int .i64 (s.length : Int) := hf 13 (by omega) (by kernel_rfl)
            subst e6 e11 e13
            refine ⟨by kernel_rfl, ?_⟩
            gi_step
            exact hK _ _ (Fr.refl _ _) rfl trivial
          simp only [Act.put, List.setIfInBounds_toArray, List.set_cons_succ, List.set_cons_zero]
          refine factWalkG_cons (fun W hW hf K hK => ?_) (fun x15 => ?_)
          · skip
            have e6 : x6 = .bool false := hf 6 (by omega) (by kernel_rfl)
            have e14 : x14 = .bool false := hf 14 (by omega) (by kernel_rfl)
            subst e6 e14
            refine ⟨by kernel_rfl, ?_⟩
            gi_step
            exact hK _ _ (Fr.refl _ _) rfl trivial
          simp only [Act.put, List.setIfInBounds_toArray, List.set_cons_succ, List.set_cons_zero]
          refine factWalkG_cons (fun W hW hf K hK => ?_) (fun x16 => ?_)
          · skip
            have e15 : x15 = .bool false := hf 15 (by omega) (by kernel_rfl)
            subst e15
            refine ⟨by kernel_rfl, ?_⟩
            gi_step
            exact hK _ _ (Fr.refl _ _) rfl trivial
          simp only [Act.put, List.setIfInBounds_toArray, List.set_cons_succ, List.set_cons_zero]
          refine factWalkG_cons (fun W hW hf K hK => ?_) (fun x17 => ?_)
          · skip
            have e16 : x16 = .bool false := hf 16 (by omega) (by kernel_rfl)
            subst e16
            refine ⟨by kernel_rfl, ?_⟩
            gi_step
            exact hK _ _ (Fr.refl _ _) rfl trivial
          simp only [Act.put, List.setIfInBounds_toArray, List.set_cons_succ, List.set_cons_zero]
          refine factWalkG_cons (fun W hW hf K hK => ?_) (fun x18 => ?_)
          · skip
            have e16 : x16 = .bool false := hf 16 (by omega) (by kernel_rfl)
            have e17 : x17 = .int .i64 (i : Int) := hf 17 (by omega) (by kernel_rfl)
            subst e16 e17
            refine ⟨by kernel_rfl, ?_⟩
            gi_step
            exact hK _ _ (Fr.refl _ _) rfl trivial
          simp only [Act.put, List.setIfInBounds_toArray, List.set_cons_succ, List.set_cons_zero]
          refine factWalkG_cons (fun W hW hf K hK => ?_) (fun x19 => ?_)
          · skip
            have e16 : x16 = .bool false := hf 16 (by omega) (by kernel_rfl)
            have e18 : x18 = .bool false := hf 18 (by omega) (by kernel_rfl)
            subst e16 e18
            refine ⟨by kernel_rfl, ?_⟩
            gi_step
            exact hK _ _ (Fr.refl _ _) rfl trivial
          simp only [Act.put, List.setIfInBounds_toArray, List.set_cons_succ, List.set_cons_zero]
          refine factWalkG_skip (fun W hW hf => ?_) (fun x20 => ?_)
          · skip
            have e19 : x19 = .bool false := hf 19 (by omega) (by kernel_rfl)
            subst e19
            exact ⟨by kernel_rfl, fun _ _ => trivial, fun K hK => hK _ _ (Fr.refl _ _) rfl trivial⟩
          simp only [Act.put, List.setIfInBounds_toArray, List.set_cons_succ, List.set_cons_zero]
          refine factWalkG_skip (fun W hW hf => ?_) (fun x21 => ?_)
          · skip
            have e19 : x19 = .bool false := hf 19 (by omega) (by kernel_rfl)
            subst e19
            exact ⟨by kernel_rfl, fun _ _ => trivial, fun K hK => hK _ _ (Fr.refl _ _) rfl trivial⟩
          simp only [Act.put, List.setIfInBounds_toArray, List.set_cons_succ, List.set_cons_zero]
          refine factWalkG_skip (fun W hW hf => ?_) (fun x22 => ?_)
          · skip
            have e19 : x19 = .bool false := hf 19 (by omega) (by kernel_rfl)
            subst e19
            exact ⟨by kernel_rfl, fun _ _ => trivial, fun K hK => hK _ _ (Fr.refl _ _) rfl trivial⟩
          simp only [Act.put, List.setIfInBounds_toArray, List.set_cons_succ, List.set_cons_zero]
          refine factWalkG_skip (fun W hW hf => ?_) (fun x23 => ?_)
          · skip
            have e19 : x19 = .bool false := hf 19 (by omega) (by kernel_rfl)
            subst e19
            exact ⟨by kernel_rfl, fun _ _ => trivial, fun K hK => hK _ _ (Fr.refl _ _) rfl trivial⟩
          simp only [Act.put, List.setIfInBounds_toArray, List.set_cons_succ, List.set_cons_zero]
          refine factWalkG_skip (fun W hW hf => ?_) (fun x24 => ?_)
          · skip
            have e19 : x19 = .bool false := hf 19 (by omega) (by kernel_rfl)
            subst e19
            exact ⟨by kernel_rfl, fun _ _ => trivial, fun K hK => hK _ _ (Fr.refl _ _) rfl trivial⟩
          simp only [Act.put, List.setIfInBounds_toArray, List.set_cons_succ, List.set_cons_zero]
          refine factWalkG_skip (fun W hW hf => ?_) (fun x25 => ?_)
          · skip
            have e19 : x19 = .bool false := hf 19 (by omega) (by kernel_rfl)
            subst e19
            exact ⟨by kernel_rfl, fun _ _ => trivial, fun K hK => hK _ _ (Fr.refl _ _) rfl trivial⟩
          simp only [Act.put, List.setIfInBounds_toArray, List.set_cons_succ, List.set_cons_zero]
          refine factWalkG_skip (fun W hW hf => ?_) (fun x26 => ?_)
          · skip
            have e19 : x19 = .bool false := hf 19 (by omega) (by kernel_rfl)
            subst e19
            exact ⟨by kernel_rfl, fun _ _ => trivial, fun K hK => hK _ _ (Fr.refl _ _) rfl trivial⟩
          simp only [Act.put, List.setIfInBounds_toArray, List.set_cons_succ, List.set_cons_zero]
          refine factWalkG_skip (fun W hW hf => ?_) (fun x27 => ?_)
          · skip
            have e19 : x19 = .bool false := hf 19 (by omega) (by kernel_rfl)
            subst e19
            exact ⟨by kernel_rfl, fun _ _ => trivial, fun K hK => hK _ _ (Fr.refl _ _) rfl trivial⟩
          simp only [Act.put, List.setIfInBounds_toArray, List.set_cons_succ, List.set_cons_zero]
          refine factWalkG_skip (fun W hW hf => ?_) (fun x28 => ?_)
          · skip
            have e19 : x19 = .bool false := hf 19 (by omega) (by kernel_rfl)
            subst e19
            exact ⟨by kernel_rfl, fun _ _ => trivial, fun K hK => hK _ _ (Fr.refl _ _) rfl trivial⟩
          simp only [Act.put, List.setIfInBounds_toArray, List.set_cons_succ, List.set_cons_zero]
          refine factWalkG_skip (fun W hW hf => ?_) (fun x29 => ?_)
          · skip
            have e19 : x19 = .bool false := hf 19 (by omega) (by kernel_rfl)
            subst e19
            exact ⟨by kernel_rfl, fun _ _ => trivial, fun K hK => hK _ _ (Fr.refl _ _) rfl trivial⟩
          simp only [Act.put, List.setIfInBounds_toArray, List.set_cons_succ, List.set_cons_zero]
          refine factWalkG_skip (fun W hW hf => ?_) (fun x30 => ?_)
          · skip
            have e19 : x19 = .bool false := hf 19 (by omega) (by kernel_rfl)
            subst e19
            exact ⟨by kernel_rfl, fun _ _ => trivial, fun K hK => hK _ _ (Fr.refl _ _) rfl trivial⟩
          simp only [Act.put, List.setIfInBounds_toArray, List.set_cons_succ, List.set_cons_zero]
          refine factWalkG_skip (fun W hW hf => ?_) (fun x31 => ?_)
          · skip
            have e19 : x19 = .bool false := hf 19 (by omega) (by kernel_rfl)
            subst e19
            exact ⟨by kernel_rfl, fun _ _ => trivial, fun K hK => hK _ _ (Fr.refl _ _) rfl trivial⟩
          simp only [Act.put, List.setIfInBounds_toArray, List.set_cons_succ, List.set_cons_zero]
          refine factWalkG_cons (fun W hW hf K hK => ?_) (fun x32 => ?_)
          · skip
            have e16 : x16 = .bool false := hf 16 (by omega) (by kernel_rfl)
            have e19 : x19 = .bool false := hf 19 (by omega) (by kernel_rfl)
            subst e16 e19
            refine ⟨by kernel_rfl, ?_⟩
            gi_step
            exact hK _ _ (Fr.refl _ _) rfl trivial
          simp only [Act.put, List.setIfInBounds_toArray, List.set_cons_succ, List.set_cons_zero]
          refine factWalkG_cons (fun W hW hf K hK => ?_) (fun x33 => ?_)
          · skip
            have e16 : x16 = .bool false := hf 16 (by omega) (by kernel_rfl)
            have e32 : x32 = .bool false := hf 32 (by omega) (by kernel_rfl)
            subst e16 e32
            refine ⟨by kernel_rfl, ?_⟩
            gi_step
            exact hK _ _ (Fr.refl _ _) rfl trivial
          simp only [Act.put, List.setIfInBounds_toArray, List.set_cons_succ, List.set_cons_zero]
          refine factWalkG_nil (fun W hW hf5 hmet => ?_)
          have e33 : x33 = .bool false := hf5 33 (by omega)
          subst e33
          have F3 : Hid (Fr (fun _ => False) wr W) := Lib.hid (HDR.out W hW)
          clear hf5 hmet hW HDR
          change wpAnyIn _ _ _ _ _ _ 0 _ _ _
          refine wpAnyIn_done (by kernel_rfl) ?_ _
          try simp only [Act.put, List.setIfInBounds_toArray, List.set_cons_succ, List.set_cons_zero]
          go_wp2_with fail
          go_roundw
          case rel => exact ⟨i + 1, by omega, by go_num, FR.out.trans F3.out (fun _ _ h => h)⟩
          case measure => simp [intOf]; omega

        case neg =>
          obtain ⟨j, hj⟩ : ∃ j, i = j + 1 := ⟨i - 1, by omega⟩
          have hjl : j < a.length := by omega
          have hcj := HCUT.out.1 _ (List.getElem_mem hjl)
          have hlt2 := HCUT.out.2 j i hjl hlt (by omega)
          obtain ⟨k0, hk0⟩ : ∃ k : Nat, (a[j]).a = (k : Int) := ⟨(a[j]).a.toNat, by have := hcj.a0; omega⟩
          rw [HK.out, hk0] at hlt2
          obtain ⟨b5, of5, hA5, hrg5⟩ := R3.out.at_ hjl
          injection hA5 with hA5
          injection hA5 with e5 e6
          subst e5 e6
          have CB : Hid (wr.cell? ⟨b1, of1 + j * 4 + 3, none⟩ = some (.int .i64 (k0 : Int))) := Lib.hid (by
            have := hrg5 3 (.int .i64 (a[j]).a) rfl
            rw [hk0] at this
            exact this)
          have g2 : decide ((i : Int) > 0) = true := decide_eq_true (by omega)
          have g2' : decide ((0 : Int) < (i : Int)) = true := decide_eq_true (by omega)
          have g2'' : decide (0 < i) = true := decide_eq_true (by omega)
          have g3 : decide ((k : Int) ≤ (k0 : Int)) = false := decide_eq_false (by omega)
          have g3' : decide (k ≤ k0) = false := decide_eq_false (by omega)
          have q3 : (0 : Int) ≤ (j : Int) := by omega
          have q4 : (j : Int) < (a.length : Int) := by omega
          have hij : (i : Int) - 1 = (j : Int) := by omega
          have hwj : IntKind.i64.wrap ((i : Int) - 1) = (j : Int) := by rw [hij]; exact IntWalk.i64_in _ (by omega)
          have HJ := Lib.hid hj
          clear hrg5 hcj hk0 hlt2 hj hi0
          go_upto_region 14 with fail
          refine (wpIn_wide (n := 9)).1 ?_
          refine wpIn_region_factsG (ms := [0, 0, 3, 7, 15, 31, 63, 127, 127, 511, 1023, 2047, 127, 4223, 16383, 32767, 65535, 131071, 262143, 524287, 1048575, 1048575, 4194303, 8388607, 16777215, 1048575, 1048575, 68157439, 235929599, 504365055, 1041235967, 2147483647, 4294967295, 8589934591]) (k := 34) (Fr (fun _ => False)) (bbX b1 of1 a.length c2 i j k k0 C s) (fun i v W => True) (by kernel_rfl) (by kernel_rfl) (Fr.refl _ _) (fun a b c h1 h2 => h1.trans h2 (fun _ _ h => h)) (fun i v w w' hg hx => bbX_far hg hx) ?walk14b
          case walk14b =>
          have hdr : ∀ W, Fr (fun _ => False) wr.drew W → Fr (fun _ => False) wr W := fun W h => ((Fr.refl (fun _ => False) wr).drew).trans h (fun _ _ h => h)
          have HDR := Lib.hid hdr
          clear hdr
          refine factWalkG_cons (fun W hW hf K hK => ?_) (fun x0 => ?_)
          · skip
            refine ⟨by kernel_rfl, ?_⟩
            gi_step
            exact hK _ _ (Fr.refl _ _) rfl trivial
          simp only [Act.put, List.setIfInBounds_toArray, List.set_cons_succ, List.set_cons_zero]
          refine factWalkG_cons (fun W hW hf K hK => ?_) (fun x1 => ?_)
          · skip
            refine ⟨by kernel_rfl, ?_⟩
            gi_step
            exact hK _ _ (Fr.refl _ _) rfl trivial
          simp only [Act.put, List.setIfInBounds_toArray, List.set_cons_succ, List.set_cons_zero]
          refine factWalkG_cons (fun W hW hf K hK => ?_) (fun x2 => ?_)
          · skip
            have e0 : x0 = .slice (some ⟨b1, of1, none⟩) a.length c2 := hf 0 (by omega) (by kernel_rfl)
            have e1 : x1 = .int .i64 (i : Int) := hf 1 (by omega) (by kernel_rfl)
            subst e0 e1
            refine ⟨by kernel_rfl, ?_⟩
            gi_step
            exact hK _ _ (Fr.refl _ _) rfl trivial
          simp only [Act.put, List.setIfInBounds_toArray, List.set_cons_succ, List.set_cons_zero]
          refine factWalkG_cons (fun W hW hf K hK => ?_) (fun x3 => ?_)
          · skip
            have e2 : x2 = .pointer (some ⟨b1, of1 + i * 4, none⟩) := hf 2 (by omega) (by kernel_rfl)
            subst e2
            have hld := load_val (P := Tryd.prog) W b1 (of1 + i * 4) C (rng_fr RG.out (HDR.out W hW) (fun h => h)) 32 _ Tryd.underlying32 rfl HS.out
            refine ⟨by kernel_rfl, ?_⟩
            refine operIn_load 32 _ rfl _ rfl hld ?_
            exact hK _ _ (Fr.refl _ _) rfl trivial
          simp only [Act.put, List.setIfInBounds_toArray, List.set_cons_succ, List.set_cons_zero]
          refine factWalkG_cons (fun W hW hf K hK => ?_) (fun x4 => ?_)
          · skip
            have e3 : x3 = .agg C := hf 3 (by omega) (by kernel_rfl)
            subst e3
            refine ⟨by kernel_rfl, ?_⟩
            gi_step
            refine ⟨trivial, ?_⟩
            refine (callsIn_wide.2 (MY.out W (HLr.out.far (HDR.out W hW)))).mono ?_
            rintro e W' ⟨rfl, f2⟩
            dsimp only
            exact hK _ _ f2 rfl trivial
          simp only [Act.put, List.setIfInBounds_toArray, List.set_cons_succ, List.set_cons_zero]
          refine factWalkG_cons (fun W hW hf K hK => ?_) (fun x5 => ?_)
          · skip
            have e4 : x4 = .bool true := hf 4 (by omega) (by kernel_rfl)
            subst e4
            refine ⟨by kernel_rfl, ?_⟩
            gi_step
            exact hK _ _ (Fr.refl _ _) rfl trivial
          simp only [Act.put, List.setIfInBounds_toArray, List.set_cons_succ, List.set_cons_zero]
          refine factWalkG_cons (fun W hW hf K hK => ?_) (fun x6 => ?_)
          · skip
            have e5 : x5 = .bool false := hf 5 (by omega) (by kernel_rfl)
            subst e5
            refine ⟨by kernel_rfl, ?_⟩
            gi_step
            exact hK _ _ (Fr.refl _ _) rfl trivial
          simp only [Act.put, List.setIfInBounds_toArray, List.set_cons_succ, List.set_cons_zero]
          refine factWalkG_cons (fun W hW hf K hK => ?_) (fun x7 => ?_)
          · skip
            have e6 : x6 = .bool false := hf 6 (by omega) (by kernel_rfl)
            subst e6
            refine ⟨by kernel_rfl, ?_⟩
            gi_step
            exact hK _ _ (Fr.refl _ _) rfl trivial
          simp only [Act.put, List.setIfInBounds_toArray, List.set_cons_succ, List.set_cons_zero]
          refine factWalkG_cons (fun W hW hf K hK => ?_) (fun x8 => ?_)
          · skip
            have e6 : x6 = .bool false := hf 6 (by omega) (by kernel_rfl)
            subst e6
            refine ⟨by kernel_rfl, ?_⟩
            gi_step
            exact hK _ _ (Fr.refl _ _) rfl trivial
          simp only [Act.put, List.setIfInBounds_toArray, List.set_cons_succ, List.set_cons_zero]
          refine factWalkG_cons (fun W hW hf K hK => ?_) (fun x9 => ?_)
          · skip
            have e6 : x6 = .bool false := hf 6 (by omega) (by kernel_rfl)
            have e7 : x7 = .slice (some ⟨b1, of1, none⟩) a.length c2 := hf 7 (by omega) (by kernel_rfl)
            have e8 : x8 = .int .i64 (i : Int) := hf 8 (by omega) (by kernel_rfl)
            subst e6 e7 e8
            refine ⟨by kernel_rfl, ?_⟩
            gi_step
            exact hK _ _ (Fr.refl _ _) rfl trivial
          simp only [Act.put, List.setIfInBounds_toArray, List.set_cons_succ, List.set_cons_zero]
          refine factWalkG_cons (fun W hW hf K hK => ?_) (fun x10 => ?_)
          · skip
            have e6 : x6 = .bool false := hf 6 (by omega) (by kernel_rfl)
            have e9 : x9 = .pointer (some ⟨b1, of1 + i * 4, none⟩) := hf 9 (by omega) (by kernel_rfl)
            subst e6 e9
            refine ⟨by kernel_rfl, ?_⟩
            gi_step
            exact hK _ _ (Fr.refl _ _) rfl trivial
          simp only [Act.put, List.setIfInBounds_toArray, List.set_cons_succ, List.set_cons_zero]
          refine factWalkG_cons (fun W hW hf K hK => ?_) (fun x11 => ?_)
          · skip
            have e6 : x6 = .bool false := hf 6 (by omega) (by kernel_rfl)
            have e10 : x10 = .pointer (some ⟨b1, of1 + i * 4 + 3, none⟩) := hf 10 (by omega) (by kernel_rfl)
            subst e6 e10
            have ca : W.cell? ⟨b1, of1 + i * 4 + 3, none⟩ = some (.int .i64 (k : Int)) := cell_far CA.out (HDR.out W hW)
            refine ⟨by kernel_rfl, ?_⟩
            gi_step
            exact hK _ _ (Fr.refl _ _) rfl trivial
          simp only [Act.put, List.setIfInBounds_toArray, List.set_cons_succ, List.set_cons_zero]
          refine factWalkG_cons (fun W hW hf K hK => ?_) (fun x12 => ?_)
          · skip
            have e6 : x6 = .bool false := hf 6 (by omega) (by kernel_rfl)
            subst e6
            refine ⟨by kernel_rfl, ?_⟩
            gi_step
            exact hK _ _ (Fr.refl _ _) rfl trivial
          simp only [Act.put, List.setIfInBounds_toArray, List.set_cons_succ, List.set_cons_zero]
          refine factWalkG_cons (fun W hW hf K hK => ?_) (fun x13 => ?_)
          · skip
            have e6 : x6 = .bool false := hf 6 (by omega) (by kernel_rfl)
            have e12 : x12 = .string (strOf s) := hf 12 (by omega) (by kernel_rfl)
            subst e6 e12
            have hszs := strOf_size s
            refine ⟨by kernel_rfl, ?_⟩
            gi_step
            exact hK _ _ (Fr.refl _ _) rfl trivial
          simp only [Act.put, List.setIfInBounds_toArray, List.set_cons_succ, List.set_cons_zero]
          refine factWalkG_cons (fun W hW hf K hK => ?_) (fun x14 => ?_)
          · skip
            have e6 : x6 = .bool false := hf 6 (by omega) (by kernel_rfl)
            have e11 : x11 = .int .i64 (k : Int) := hf 11 (by omega) (by kernel_rfl)
            have e13 : x13 = .int .i64 (s.length : Int) := hf 13 (by omega) (by kernel_rfl)
            subst e6 e11 e13
            refine ⟨by kernel_rfl, ?_⟩
            gi_step
            exact hK _ _ (Fr.refl _ _) rfl trivial
          simp only [Act.put, List.setIfInBounds_toArray, List.set_cons_succ, List.set_cons_zero]
          refine factWalkG_cons (fun W hW hf K hK => ?_) (fun x15 => ?_)
          · skip
            have e6 : x6 = .bool false := hf 6 (by omega) (by kernel_rfl)
            have e14 : x14 = .bool false := hf 14 (by omega) (by kernel_rfl)
            subst e6 e14
            refine ⟨by kernel_rfl, ?_⟩
            gi_step
            exact hK _ _ (Fr.refl _ _) rfl trivial
          simp only [Act.put, List.setIfInBounds_toArray, List.set_cons_succ, List.set_cons_zero]
          refine factWalkG_cons (fun W hW hf K hK => ?_) (fun x16 => ?_)
          · skip
            have e15 : x15 = .bool false := hf 15 (by omega) (by kernel_rfl)
            subst e15
            refine ⟨by kernel_rfl, ?_⟩
            gi_step
            exact hK _ _ (Fr.refl _ _) rfl trivial
          simp only [Act.put, List.setIfInBounds_toArray, List.set_cons_succ, List.set_cons_zero]
          refine factWalkG_cons (fun W hW hf K hK => ?_) (fun x17 => ?_)
          · skip
            have e16 : x16 = .bool false := hf 16 (by omega) (by kernel_rfl)
            subst e16
            refine ⟨by kernel_rfl, ?_⟩
            gi_step
            exact hK _ _ (Fr.refl _ _) rfl trivial
          simp only [Act.put, List.setIfInBounds_toArray, List.set_cons_succ, List.set_cons_zero]
          refine factWalkG_cons (fun W hW hf K hK => ?_) (fun x18 => ?_)
          · skip
            have e16 : x16 = .bool false := hf 16 (by omega) (by kernel_rfl)
            have e17 : x17 = .int .i64 (i : Int) := hf 17 (by omega) (by kernel_rfl)
            subst e16 e17
            refine ⟨by kernel_rfl, ?_⟩
            gi_step
            exact hK _ _ (Fr.refl _ _) rfl trivial
          simp only [Act.put, List.setIfInBounds_toArray, List.set_cons_succ, List.set_cons_zero]
          refine factWalkG_cons (fun W hW hf K hK => ?_) (fun x19 => ?_)
          · skip
            have e16 : x16 = .bool false := hf 16 (by omega) (by kernel_rfl)
            have e18 : x18 = .bool true := hf 18 (by omega) (by kernel_rfl)
            subst e16 e18
            refine ⟨by kernel_rfl, ?_⟩
            gi_step
            exact hK _ _ (Fr.refl _ _) rfl trivial
          simp only [Act.put, List.setIfInBounds_toArray, List.set_cons_succ, List.set_cons_zero]
          refine factWalkG_cons (fun W hW hf K hK => ?_) (fun x20 => ?_)
          · skip
            have e19 : x19 = .bool true := hf 19 (by omega) (by kernel_rfl)
            subst e19
            refine ⟨by kernel_rfl, ?_⟩
            gi_step
            exact hK _ _ (Fr.refl _ _) rfl trivial
          simp only [Act.put, List.setIfInBounds_toArray, List.set_cons_succ, List.set_cons_zero]
          refine factWalkG_cons (fun W hW hf K hK => ?_) (fun x21 => ?_)
          · skip
            have e19 : x19 = .bool true := hf 19 (by omega) (by kernel_rfl)
            subst e19
            refine ⟨by kernel_rfl, ?_⟩
            gi_step
            exact hK _ _ (Fr.refl _ _) rfl trivial
          simp only [Act.put, List.setIfInBounds_toArray, List.set_cons_succ, List.set_cons_zero]
          refine factWalkG_cons (fun W hW hf K hK => ?_) (fun x22 => ?_)
          · skip
            have e19 : x19 = .bool true := hf 19 (by omega) (by kernel_rfl)
            have e20 : x20 = .slice (some ⟨b1, of1, none⟩) a.length c2 := hf 20 (by omega) (by kernel_rfl)
            have e21 : x21 = .int .i64 (i : Int) := hf 21 (by omega) (by kernel_rfl)
            subst e19 e20 e21
            refine ⟨by kernel_rfl, ?_⟩
            gi_step
            exact hK _ _ (Fr.refl _ _) rfl trivial
          simp only [Act.put, List.setIfInBounds_toArray, List.set_cons_succ, List.set_cons_zero]
          refine factWalkG_cons (fun W hW hf K hK => ?_) (fun x23 => ?_)
          · skip
            have e19 : x19 = .bool true := hf 19 (by omega) (by kernel_rfl)
            have e22 : x22 = .pointer (some ⟨b1, of1 + i * 4, none⟩) := hf 22 (by omega) (by kernel_rfl)
            subst e19 e22
            refine ⟨by kernel_rfl, ?_⟩
            gi_step
            exact hK _ _ (Fr.refl _ _) rfl trivial
          simp only [Act.put, List.setIfInBounds_toArray, List.set_cons_succ, List.set_cons_zero]
          refine factWalkG_cons (fun W hW hf K hK => ?_) (fun x24 => ?_)
          · skip
            have e19 : x19 = .bool true := hf 19 (by omega) (by kernel_rfl)
            have e23 : x23 = .pointer (some ⟨b1, of1 + i * 4 + 3, none⟩) := hf 23 (by omega) (by kernel_rfl)
            subst e19 e23
            have ca : W.cell? ⟨b1, of1 + i * 4 + 3, none⟩ = some (.int .i64 (k : Int)) := cell_far CA.out (HDR.out W hW)
            refine ⟨by kernel_rfl, ?_⟩
            gi_step
            exact hK _ _ (Fr.refl _ _) rfl trivial
          simp only [Act.put, List.setIfInBounds_toArray, List.set_cons_succ, List.set_cons_zero]
          refine factWalkG_cons (fun W hW hf K hK => ?_) (fun x25 => ?_)
          · skip
            have e19 : x19 = .bool true := hf 19 (by omega) (by kernel_rfl)
            subst e19
            refine ⟨by kernel_rfl, ?_⟩
            gi_step
            exact hK _ _ (Fr.refl _ _) rfl trivial
          simp only [Act.put, List.setIfInBounds_toArray, List.set_cons_succ, List.set_cons_zero]
          refine factWalkG_cons (fun W hW hf K hK => ?_) (fun x26 => ?_)
          · skip
            have e19 : x19 = .bool true := hf 19 (by omega) (by kernel_rfl)
            subst e19
            refine ⟨by kernel_rfl, ?_⟩
            gi_step
            exact hK _ _ (Fr.refl _ _) rfl trivial
          simp only [Act.put, List.setIfInBounds_toArray, List.set_cons_succ, List.set_cons_zero]
          refine factWalkG_cons (fun W hW hf K hK => ?_) (fun x27 => ?_)
          · skip
            have e19 : x19 = .bool true := hf 19 (by omega) (by kernel_rfl)
            have e26 : x26 = .int .i64 (i : Int) := hf 26 (by omega) (by kernel_rfl)
            subst e19 e26
            refine ⟨by kernel_rfl, ?_⟩
            gi_step
            exact hK _ _ (Fr.refl _ _) rfl trivial
          simp only [Act.put, List.setIfInBounds_toArray, List.set_cons_succ, List.set_cons_zero]
          refine factWalkG_cons (fun W hW hf K hK => ?_) (fun x28 => ?_)
          · skip
            have e19 : x19 = .bool true := hf 19 (by omega) (by kernel_rfl)
            have e25 : x25 = .slice (some ⟨b1, of1, none⟩) a.length c2 := hf 25 (by omega) (by kernel_rfl)
            have e27 : x27 = .int .i64 (j : Int) := hf 27 (by omega) (by kernel_rfl)
            subst e19 e25 e27
            refine ⟨by kernel_rfl, ?_⟩
            gi_step
            exact hK _ _ (Fr.refl _ _) rfl trivial
          simp only [Act.put, List.setIfInBounds_toArray, List.set_cons_succ, List.set_cons_zero]
          refine factWalkG_cons (fun W hW hf K hK => ?_) (fun x29 => ?_)
          · skip
            have e19 : x19 = .bool true := hf 19 (by omega) (by kernel_rfl)
            have e28 : x28 = .pointer (some ⟨b1, of1 + j * 4, none⟩) := hf 28 (by omega) (by kernel_rfl)
            subst e19 e28
            refine ⟨by kernel_rfl, ?_⟩
            gi_step
            exact hK _ _ (Fr.refl _ _) rfl trivial
          simp only [Act.put, List.setIfInBounds_toArray, List.set_cons_succ, List.set_cons_zero]
          refine factWalkG_cons (fun W hW hf K hK => ?_) (fun x30 => ?_)
          · skip
            have e19 : x19 = .bool true := hf 19 (by omega) (by kernel_rfl)
            have e29 : x29 = .pointer (some ⟨b1, of1 + j * 4 + 3, none⟩) := hf 29 (by omega) (by kernel_rfl)
            subst e19 e29
            have cb : W.cell? ⟨b1, of1 + j * 4 + 3, none⟩ = some (.int .i64 (k0 : Int)) := cell_far CB.out (HDR.out W hW)
            refine ⟨by kernel_rfl, ?_⟩
            gi_step
            exact hK _ _ (Fr.refl _ _) rfl trivial
          simp only [Act.put, List.setIfInBounds_toArray, List.set_cons_succ, List.set_cons_zero]
          refine factWalkG_cons (fun W hW hf K hK => ?_) (fun x31 => ?_)
          · skip
            have e19 : x19 = .bool true := hf 19 (by omega) (by kernel_rfl)
            have e24 : x24 = .int .i64 (k : Int) := hf 24 (by omega) (by kernel_rfl)
            have e30 : x30 = .int .i64 (k0 : Int) := hf 30 (by omega) (by kernel_rfl)
            subst e19 e24 e30
            refine ⟨by kernel_rfl, ?_⟩
            gi_step
            exact hK _ _ (Fr.refl _ _) rfl trivial
          simp only [Act.put, List.setIfInBounds_toArray, List.set_cons_succ, List.set_cons_zero]
          refine factWalkG_cons (fun W hW hf K hK => ?_) (fun x32 => ?_)
          · skip
            have e16 : x16 = .bool false := hf 16 (by omega) (by kernel_rfl)
            have e19 : x19 = .bool true := hf 19 (by omega) (by kernel_rfl)
            have e31 : x31 = .bool false := hf 31 (by omega) (by kernel_rfl)
            subst e16 e19 e31
            refine ⟨by kernel_rfl, ?_⟩
            gi_step
            exact hK _ _ (Fr.refl _ _) rfl trivial
          simp only [Act.put, List.setIfInBounds_toArray, List.set_cons_succ, List.set_cons_zero]
          refine factWalkG_cons (fun W hW hf K hK => ?_) (fun x33 => ?_)
          · skip
            have e16 : x16 = .bool false := hf 16 (by omega) (by kernel_rfl)
            have e32 : x32 = .bool false := hf 32 (by omega) (by kernel_rfl)
            subst e16 e32
            refine ⟨by kernel_rfl, ?_⟩
            gi_step
            exact hK _ _ (Fr.refl _ _) rfl trivial
          simp only [Act.put, List.setIfInBounds_toArray, List.set_cons_succ, List.set_cons_zero]
          refine factWalkG_nil (fun W hW hf5 hmet => ?_)
          have e33 : x33 = .bool false := hf5 33 (by omega)
          subst e33
          have F3 : Hid (Fr (fun _ => False) wr W) := Lib.hid (HDR.out W hW)
          clear hf5 hmet hW HDR
          change wpAnyIn _ _ _ _ _ _ 0 _ _ _
          refine wpAnyIn_done (by kernel_rfl) ?_ _
          try simp only [Act.put, List.setIfInBounds_toArray, List.set_cons_succ, List.set_cons_zero]
          go_wp2_with fail
          go_roundw
          case rel => exact ⟨i + 1, by omega, by go_num, FR.out.trans F3.out (fun _ _ h => h)⟩
          case measure => simp [intOf]; omega


end Go.Proofs.YtimopkmlcjdgfaaDoor
