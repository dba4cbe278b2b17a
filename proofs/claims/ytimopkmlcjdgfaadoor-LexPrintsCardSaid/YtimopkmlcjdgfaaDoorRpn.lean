/-
  CONTRACT of the reference's Print: what the program's Print answers. Written by gen_rpn.py.
-/
import Derived.Test.YtimopkmlcjdgfaaDoorRmy
namespace Go.Proofs.YtimopkmlcjdgfaaDoor
set_option linter.unusedSimpArgs false
set_option linter.unusedVariables false
open Go Go.RowKit Go.Shelf

theorem join_add (xs : List (List UInt8)) (y : List UInt8) : Lib.join (xs ++ [y]) [32] = if xs = [] then y else Lib.join xs [32] ++ ([32] ++ y) := by
  cases xs with
  | nil => rw [if_pos rfl, List.nil_append, Lib.join_one]
  | cons x r =>
    rw [if_neg (by simp), List.cons_append, Lib.join_cons, Lib.join_cons]
    simp [Lib.joinTail]
/-- What is written of the first i tokens. -/
def pre (l : List Tk) (i : Nat) : List UInt8 := Lib.join ((l.take i).map wrt) [32]
theorem pre_zero (l : List Tk) : pre l 0 = [] := rfl
theorem pre_step {l : List Tk} {i : Nat} (h : i < l.length) : pre l (i + 1) = (pre l i ++ if decide ((0 : Int) < (i : Int)) then [32] else []) ++ wrt l[i] := by
  unfold pre
  rw [List.take_add_one, List.getElem?_eq_getElem h, List.map_append]
  show Lib.join ((l.take i).map wrt ++ [wrt l[i]]) [32] = _
  rw [join_add]
  by_cases h0 : i = 0
  · subst h0
    rw [if_pos (by simp), decide_eq_false (by omega)]
    simp [Lib.join_nil]
  · rw [if_neg (by
      intro e
      have h1 : ((l.take i).map wrt).length = i := by rw [List.length_map, List.length_take]; omega
      rw [e] at h1
      exact h0 h1.symm), decide_eq_true (by omega)]
    simp
theorem pre_all (l : List Tk) : pre l l.length = Lib.join (l.map wrt) [32] := by unfold pre; rw [List.take_length]
theorem esc_step {t : List UInt8} {k : Nat} (h : k < t.length) : esc (t.take (k + 1)) = esc (t.take k) ++ if t[k] == 34 || t[k] == 92 then [92, t[k]] else [t[k]] := by
  rw [List.take_add_one, List.getElem?_eq_getElem h]
  unfold esc
  rw [List.flatMap_append]
  simp
/-- Where the reference's Print stands: the bytes so far, in a row of its own; the token's box. -/
structure RpS (w W : World) (bx : Nat) (C : Array Value) (acc : List UInt8) (A : Option Addr) (c : Nat) : Prop where
  row : W.ownsRow 0 5 1 (.slice A acc.length c) acc.length (bv acc)
  own : ∀ q, (Value.slice A acc.length c).ownBlock = some q → w.heap.size ≤ q ∧ ¬ q = bx
  box : Blk W bx 32 C
  fr : Fr (fun _ => False) w W
section
variable {w W W1 W2 : World} {bx : Nat} {C : Array Value} {acc l : List UInt8} {A A' : Option Addr} {c c' m : Nat}
theorem RpS.far (h : RpS w W bx C acc A c) (hf : Fr (fun _ => False) W W1) : RpS w W1 bx C acc A c := ⟨own_fr h.row hf (fun _ _ h => h), h.own, keepB h.box hf, h.fr.trans hf (fun _ _ h => h)⟩
theorem RpS.add (h : RpS w W bx C acc A c) (hf : Fr (fun _ => False) W W1) (hl : l.length = m) (o : W2.ownsRow 0 5 1 (.slice A' (acc.length + m) c') (acc.length + m) (bv acc ++ bv l)) (f : Fr (fun q => (Value.slice A acc.length c).ownBlock = some q) W1 W2)
    (hn : (Value.slice A' (acc.length + m) c').ownBlock = (Value.slice A acc.length c).ownBlock ∨ (Value.slice A' (acc.length + m) c').ownBlock = some W1.heap.size) : RpS w W2 bx C (acc ++ l) A' c' := by
  subst hl
  have hlen : (acc ++ l).length = acc.length + l.length := by simp
  have s1 := h.fr.size
  have s2 := hf.size
  have s3 := h.box.lt
  refine ⟨?_, ?_, (keepB h.box hf).fr f (fun e => (h.own bx e).2 rfl), (h.fr.trans hf (fun _ _ h => h)).trans f (fun q hq e => by have := (h.own q e).1; omega)⟩
  · rw [hlen, bv_append]
    exact o
  · rw [hlen]
    intro q hq
    rcases hn with e | e
    · exact h.own q (e ▸ hq)
    · rw [e] at hq
      injection hq with hq
      exact ⟨by omega, by omega⟩
end
theorem src_str (W : World) (T : List UInt8) : Src Tryd.prog 1 9 (.string (strOf T)) T.length (bv T) W := by
  have h := Src.ofString (P := Tryd.prog) W Tryd.underlying9 (strOf T)
  rw [strOf_size] at h
  exact h
/-- Where it stands between the tokens. -/
structure RpL (w W : World) (acc : List UInt8) (A : Option Addr) (c : Nat) : Prop where
  row : W.ownsRow 0 5 1 (.slice A acc.length c) acc.length (bv acc)
  own : ∀ q, (Value.slice A acc.length c).ownBlock = some q → w.heap.size ≤ q
  fr : Fr (fun _ => False) w W
set_option maxRecDepth 100000 in
set_option maxHeartbeats 8000000 in
theorem rPrint_c (w : World) {A0 : Option Addr} {cc : Nat} {l : List Tk} (hp : RdT w A0 l) (hl : l.length ≤ 20000) (hok : ∀ x ∈ l, TkOk x) (hsm : ∀ x ∈ l, x.t.length ≤ 20000) :
    Calls Tryd.prog 16 #[.slice A0 l.length cc] w (PrtQ l w) := by
  have HP := Lib.hid hp
  have HOK := Lib.hid hok
  have HSM := Lib.hid hsm
  obtain ⟨b0, hb0, bz0, bz1, bz2⟩ := info_parts b_info
  have HB0 := Lib.hid hb0
  clear hp hok hb0 hsm
  go_enter Tryd.func16, Tryd.ntmps16
  go_wp2_with fail
  go_loopw [4, 5] (fun ov iv W => ∃ (A : Option Addr) (c i : Nat) (acc : List UInt8), i ≤ l.length ∧ ov = .slice A acc.length c ∧ iv = .int .i64 (i : Int) ∧ acc = pre l i ∧ acc.length ≤ i * 100000 ∧ Hid (RpL w W acc A c) ∧ Hid (∀ (j : Nat) (h : j < l.length), j < i → mayK l[j] = true)) (fun _ iv _ => l.length - (intOf iv).toNat)
  case atStart => exact ⟨none, 0, 0, [], Nat.zero_le _, rfl, rfl, rfl, Nat.zero_le _, Lib.hid ⟨World.ownsRow_nil _ _ _ _, fun q hq => by simp [Value.ownBlock] at hq, Fr.refl _ _⟩, Lib.hid (fun j _ h => absurd h (Nat.not_lt_zero _))⟩
  case round =>
    obtain ⟨A, c, i, acc, hi, rfl, rfl, hac, hal, L0, MAY0⟩ := hrel
    have HAC := Lib.hid hac
    clear hac
    by_cases hlt : i < l.length
    case neg =>
      obtain rfl : i = l.length := by omega
      have hdl : decide ((l.length : Int) < (l.length : Int)) = false := decide_eq_false (by omega)
      have hdl' : decide (l.length < l.length) = false := decide_eq_false (by omega)
      have HY := Lib.hid (prt_yes (l := l) (fun j hj => MAY0.out j hj hj))
      have HAA : Hid (acc = Lib.join (l.map wrt) [32]) := Lib.hid (by rw [HAC.out, pre_all])
      have hcv := conv_str wr A acc.length c acc (Rd.of_own L0.out.row)
      go_wp2_with fail
      go_ret2
      unfold PrtQ
      rw [HY.out, ← HAA.out]
      exact ⟨rfl, L0.out.fr⟩
    case pos =>
    have hdl : decide ((i : Int) < (l.length : Int)) = true := decide_eq_true (by omega)
    have hdl' : decide (i < l.length) = true := decide_eq_true hlt
    have q1 : (0 : Int) ≤ (i : Int) := by omega
    have q2 : (i : Int) < (l.length : Int) := by omega
    obtain ⟨b, off, hA, hrg⟩ := (HP.out.far L0.out.fr).at_ hlt
    subst hA
    have hm0 : l[i] ∈ l := List.getElem_mem hlt
    have hxok := HOK.out _ hm0
    have hxsm := HSM.out _ hm0
    have HPS := Lib.hid (pre_step hlt)
    obtain ⟨x, hx⟩ : ∃ x, l[i] = x := ⟨_, rfl⟩
    have HX := Lib.hid hx
    rw [hx] at hrg hxok hxsm HPS
    clear hx hm0
    obtain ⟨k, t, n, a⟩ := x
    have hn0 := hxok.n0
    have hn1 := hxok.n1
    dsimp only at hxsm hn0 hn1
    have HG : Hid (wr.rangeAt b (off + i * 4) (tcs k t n a).toList) := Lib.hid hrg
    have MY := Lib.hid (fun W => rMay_c W k t n a (by omega))
    obtain ⟨z, hz⟩ : ∃ z, mayT k t n a = z := ⟨_, rfl⟩
    have HZ : Hid (mayK l[i] = z) := Lib.hid (by rw [HX.out]; exact hz)
    rw [hz] at MY
    have HWX0 : Hid (∀ q, wrt ⟨k, t, n, a⟩ = q → wrt ⟨k, t, n, a⟩ = q) := Lib.hid (fun _ h => h)
    have HS : Hid ((Tryd.prog.info? 32).map (·.size) = some (tcs k t n a).size) := Lib.hid tsize
    have HO := Lib.hid (show (tcs k t n a).all (·.oneCell') = true by simp [tcs, Value.oneCell'])
    clear hrg hz hxok
    go_upto_region 6 with (first
      | (refine wpList_load_val rfl 32 _ rfl b _ rfl (tcs k t n a) HG.out _ Tryd.underlying32 rfl HS.out ?_)
      | (refine wpList_store_blk rfl 32 _ _ rfl wr.heap.size (tcs k t n a) rfl rfl (Blk.new wr 32 _) rfl HS.out HO.out ?_
         intro W1 q1 f1
         have F1 := Lib.hid f1
         have Q1 := Lib.hid q1
         clear q1 f1))
    obtain ⟨bx, hbx⟩ : ∃ q, wr.heap.size = q := ⟨_, rfl⟩
    rw [hbx] at Q1 F1 ⊢
    have FR1 := Lib.hid (((Fr.refl (fun _ => False) wr).alloc _).trans F1.out (fun i hi h => by omega))
    have S1 : Hid (RpS w W1 bx (tcs k t n a) acc A c) := Lib.hid ⟨own_fr L0.out.row FR1.out (fun _ _ h => h), fun q hq => ⟨L0.out.own q hq, fun e => by have := own_ltT L0.out.row q hq; omega⟩, Q1.out, L0.out.fr.trans FR1.out (fun _ _ h => h)⟩
    clear Q1 F1 FR1 L0 HG
    have RG1 := Lib.hid (blk_all S1.out.box)
    cases z with
    | false =>
      have HN := Lib.hid (prt_no hlt HZ.out)
      go_wp2_with (first
        | (refine wpList_load_val rfl 32 _ rfl bx _ rfl (tcs k t n a) RG1.out _ Tryd.underlying32 rfl HS.out ?_)
        | (go_at_call 14
           refine (MY.out W1).mono ?_
           rintro e W2 ⟨rfl, f2⟩
           have F2 := Lib.hid f2
           clear f2))
      go_ret2
      unfold PrtQ
      rw [HN.out]
      exact ⟨rfl, S1.out.fr.trans F2.out (fun _ _ h => h)⟩
    | true =>
    have MAYN : Hid (∀ (j : Nat) (h : j < l.length), j < i + 1 → mayK l[j] = true) := Lib.hid (fun j hj hji => by
      rcases Nat.lt_or_ge j i with hj2 | hj2
      · exact MAY0.out j hj hj2
      · obtain rfl : j = i := by omega
        exact HZ.out)
    obtain ⟨bi, hbi⟩ : ∃ q, decide ((0 : Int) < (i : Int)) = q := ⟨_, rfl⟩
    have hbi' : decide ((i : Int) > 0) = bi := hbi
    have hbi'' : decide (0 < i) = bi := by rw [← hbi]; exact decide_eq_decide.2 (by omega)
    rw [hbi] at HPS
    go_upto_if 22 with (first
      | (refine wpList_load_val rfl 32 _ rfl bx _ rfl (tcs k t n a) RG1.out _ Tryd.underlying32 rfl HS.out ?_)
      | (go_at_call 14
         refine (MY.out W1).mono ?_
         rintro e W2 ⟨rfl, f2⟩
         have S2 := Lib.hid (S1.out.far f2)
         clear f2))
    clear S1 RG1
    obtain ⟨sp, hsp⟩ : ∃ sp : List UInt8, (if bi then [32] else []) = sp := ⟨_, rfl⟩
    rw [hsp] at HPS
    have hspl : sp.length ≤ 1 := by rw [← hsp]; cases bi <;> simp
    have HSP := Lib.hid hsp
    clear hsp hbi hbi' hbi''
    go_cut [4] from 8 to 75 (fun ov wx => ∃ (A3 : Option Addr) (c3 : Nat), ov = .slice A3 (acc ++ sp).length c3 ∧ Hid (RpS w wx bx (tcs k t n a) (acc ++ sp) A3 c3))
    case first =>
      cases bi with
      | false =>
        have HSE : Hid (sp = []) := Lib.hid HSP.out.symm
        go_wp2_with fail
        go_meet
        refine ⟨A, c, ?_, ?_⟩
        · rw [HSE.out, List.append_nil]
        · rw [HSE.out, List.append_nil]
          exact S2
      | true =>
        have HSE : Hid (sp = [32]) := Lib.hid HSP.out.symm
        have FA3 := Lib.hid ((Fr.refl (fun _ => False) W2).alloc (.cells #[.int .u8 32] 5))
        have ko3 := own_fr S2.out.row FA3.out (fun _ _ h => h)
        have KO3 := Lib.hid ko3
        clear ko3
        go_wp2_with (
          at_builtin
          refine wpList_app rfl (.tmp 23) (.tmp 24) _ _ rfl 0 5 b0 _ 1 1 Tryd.underlying56 HB0.out bz0 bz1 bz2 rfl _ _ _ rfl KO3.out _ 1 _ rfl (src_b (Blk.new W2 5 #[.int .u8 32])) (by omega) (by unfold maxLen; omega) (Nat.zero_le _) ?_
          intro v7 W3 o7 f7 hn7
          obtain ⟨A3, c3, rfl, -, -⟩ := own_slice o7
          have hbv7 : bv [32] = [.int .u8 32] := by
            have hxb := (show ((32 : UInt8).toNat) = 32 from rfl)
            show [Value.int .u8 (((32 : UInt8).toNat : Nat) : Int)] = _
            rw [hxb]
            all_goals rfl
          have S3 := Lib.hid (RpS.add (m := 1) (l := [32]) S2.out FA3.out rfl (by rw [hbv7]; exact o7) f7 hn7)
          clear o7 f7 hn7 hbv7)
        clear KO3 FA3
        go_meet
        refine ⟨A3, c3, ?_, ?_⟩
        · rw [HSE.out, List.length_append]
          rfl
        · rw [HSE.out]
          exact S3
    case rest =>
    obtain ⟨A2, c2, rfl, S3⟩ := hcut
    clear S2
    obtain ⟨acc1, hacc1⟩ : ∃ q, acc ++ sp = q := ⟨_, rfl⟩
    have hal1 : acc1.length ≤ i * 100000 + 1 := by rw [← hacc1, List.length_append]; omega
    rw [← HAC.out, hacc1] at HPS
    rw [hacc1] at S3 ⊢
    have HPS1 : Hid (pre l (i + 1) = acc1 ++ wrt ⟨k, t, n, a⟩) := Lib.hid HPS.out
    clear HPS hacc1 HSP hspl
    have hi20 : i * 100000 ≤ 2000000000 := by omega
    by_cases k2 : k = 2
    case pos =>
      have HWX : Hid (wrt ⟨k, t, n, a⟩ = 34 :: (esc t ++ [34])) := Lib.hid (by unfold wrt; rw [if_pos k2])
      subst k2
      have x0 : wc.cell? ⟨bx, 0, none⟩ = some (.int .i64 2) := S3.out.box.cell 0
      have x1 : wc.cell? ⟨bx, 1, none⟩ = some (.string (strOf t)) := S3.out.box.cell 1
      have x2 : wc.cell? ⟨bx, 2, none⟩ = some (.int .i64 n) := S3.out.box.cell 2
      have FA4 := Lib.hid ((Fr.refl (fun _ => False) wc).alloc (.cells #[.int .u8 34] 5))
      have ko4 := own_fr S3.out.row FA4.out (fun _ _ h => h)
      have KO4 := Lib.hid ko4
      clear ko4
      go_upto_region 14 with (
        at_builtin
        refine wpList_app rfl (.tmp 34) (.tmp 35) _ _ rfl 0 5 b0 _ 1 1 Tryd.underlying56 HB0.out bz0 bz1 bz2 rfl _ _ _ rfl KO4.out _ 1 _ rfl (src_b (Blk.new wc 5 #[.int .u8 34])) (by omega) (by unfold maxLen; omega) (Nat.zero_le _) ?_
        intro v7 W4 o7 f7 hn7
        obtain ⟨A4, c4, rfl, -, -⟩ := own_slice o7
        have hbv7 : bv [34] = [.int .u8 34] := by
          have hxb := (show ((34 : UInt8).toNat) = 34 from rfl)
          show [Value.int .u8 (((34 : UInt8).toNat : Nat) : Int)] = _
          rw [hxb]
          all_goals rfl
        have S4 := Lib.hid (RpS.add (m := 1) (l := [34]) S3.out FA4.out rfl (by rw [hbv7]; exact o7) f7 hn7)
        clear o7 f7 hn7 hbv7)
      clear KO4 FA4
      clear x0 x1 x2 S3
      have hl4 : (acc1 ++ [34]).length = acc1.length + 1 := by simp
      go_wp2_with fail
      go_loopw [4, 7] (fun ov jv W => ∃ (A : Option Addr) (c j : Nat) (ac : List UInt8), j ≤ t.length ∧ ov = .slice A ac.length c ∧ jv = .int .i64 (j : Int) ∧ ac = (acc1 ++ [34]) ++ esc (t.take j) ∧ Hid (RpS w W bx (tcs 2 t n a) ac A c)) (fun _ jv _ => t.length - (intOf jv).toNat)
      case atStart => exact ⟨A4, c4, 0, acc1 ++ [34], Nat.zero_le _, by rw [hl4], rfl, by simp [esc], S4⟩
      case round =>
        clear S4
        obtain ⟨A5, c5, j, ac, hj, rfl, rfl, hacc, S5⟩ := hrel
        have hel := esc_le (t.take j)
        have hacl : ac.length ≤ acc1.length + 1 + 2 * t.length := by
          rw [hacc, List.length_append, hl4]
          rw [List.length_take] at hel
          omega
        have HCC := Lib.hid hacc
        clear hacc hel
        have hszt := strOf_size t
        have x0 : wr.cell? ⟨bx, 0, none⟩ = some (.int .i64 2) := S5.out.box.cell 0
        have x1 : wr.cell? ⟨bx, 1, none⟩ = some (.string (strOf t)) := S5.out.box.cell 1
        have x2 : wr.cell? ⟨bx, 2, none⟩ = some (.int .i64 n) := S5.out.box.cell 2
        by_cases hjt : j < t.length
        case neg =>
          obtain rfl : j = t.length := by omega
          have e1 : decide ((t.length : Int) < (t.length : Int)) = false := decide_eq_false (by omega)
          have e1' : decide (t.length < t.length) = false := decide_eq_false (by omega)
          have HCE : Hid (ac = (acc1 ++ [34]) ++ esc t) := Lib.hid (by rw [HCC.out, List.take_length])
          have FA6 := Lib.hid ((Fr.refl (fun _ => False) wr).alloc (.cells #[.int .u8 34] 5))
          have ko6 := own_fr S5.out.row FA6.out (fun _ _ h => h)
          have KO6 := Lib.hid ko6
          clear ko6
          go_upto_region 4 with (
            at_builtin
            refine wpList_app rfl (.tmp 66) (.tmp 67) _ _ rfl 0 5 b0 _ 1 1 Tryd.underlying56 HB0.out bz0 bz1 bz2 rfl _ _ _ rfl KO6.out _ 1 _ rfl (src_b (Blk.new wr 5 #[.int .u8 34])) (by omega) (by unfold maxLen; omega) (Nat.zero_le _) ?_
            intro v7 W6 o7 f7 hn7
            obtain ⟨A6, c6, rfl, -, -⟩ := own_slice o7
            have hbv7 : bv [34] = [.int .u8 34] := by
              have hxb := (show ((34 : UInt8).toNat) = 34 from rfl)
              show [Value.int .u8 (((34 : UInt8).toNat : Nat) : Int)] = _
              rw [hxb]
              all_goals rfl
            have S6 := Lib.hid (RpS.add (m := 1) (l := [34]) S5.out FA6.out rfl (by rw [hbv7]; exact o7) f7 hn7)
            clear o7 f7 hn7 hbv7)
          clear KO6 FA6
          have HPE : Hid (pre l (i + 1) = ac ++ [34]) := Lib.hid (by rw [HPS1.out, HWX.out, HCE.out]; simp)
          go_wp2_with fail
          go_roundw
          case rel => exact ⟨A6, c6, i + 1, pre l (i + 1), by omega, by rw [HPE.out]; simp [Nat.add_assoc], by go_num, rfl, by rw [HPE.out]; simp only [List.length_append, List.length_cons, List.length_nil]; omega, Lib.hid (by rw [HPE.out]; exact ⟨S6.out.row, fun q hq => (S6.out.own q hq).1, S6.out.fr⟩), MAYN.out⟩
          case measure => simp [intOf]; omega

        case pos =>
        have e1 : decide ((j : Int) < (t.length : Int)) = true := decide_eq_true (by omega)
        have e1' : decide (j < t.length) = true := decide_eq_true hjt
        have hiy := fun W => run_index_str W t j hjt
        have hcl := u8_lt t[j]
        have hes := esc_step hjt
        obtain ⟨d, hd⟩ : ∃ d, t[j] = d := ⟨_, rfl⟩
        rw [hd] at hiy hcl hes
        have h34 := eq_n d 34 (by decide)
        have h92 := eq_n d 92 (by decide)
        obtain ⟨y, hy⟩ : ∃ y, d.toNat = y := ⟨_, rfl⟩
        rw [hy] at hiy hcl h34 h92
        have HES := Lib.hid hes
        have HY := Lib.hid hy
        have H34 := Lib.hid h34
        have H92 := Lib.hid h92
        clear hd hes hy h34 h92
        by_cases hq : y = 34 ∨ y = 92
        case neg =>
          have m3 : ((y : Int) == 34) = false := beq_eq_false_iff_ne.2 (fun e => hq (.inl (by omega)))
          have m4 : ((y : Int) == 92) = false := beq_eq_false_iff_ne.2 (fun e => hq (.inr (by omega)))
          have HST : Hid (ac ++ [d] = (acc1 ++ [34]) ++ esc (t.take (j + 1))) := Lib.hid (by
            have n1 : (d == 34) = false := by rw [show (34 : UInt8) = Nat.toUInt8 34 from rfl, H34.out]; exact decide_eq_false (fun e => hq (.inl e))
            have n2 : (d == 92) = false := by rw [show (92 : UInt8) = Nat.toUInt8 92 from rfl, H92.out]; exact decide_eq_false (fun e => hq (.inr e))
            rw [HCC.out, HES.out, n1, n2]
            simp)
          clear hq
          have FA6 := Lib.hid ((Fr.refl (fun _ => False) wr).alloc (.cells #[.int .u8 (y : Int)] 5))
          have ko6 := own_fr S5.out.row FA6.out (fun _ _ h => h)
          have KO6 := Lib.hid ko6
          clear ko6
          go_upto_region 16 with (
            at_builtin
            refine wpList_app rfl (.tmp 59) (.tmp 64) _ _ rfl 0 5 b0 _ 1 1 Tryd.underlying56 HB0.out bz0 bz1 bz2 rfl _ _ _ rfl KO6.out _ 1 _ rfl (src_b (Blk.new wr 5 #[.int .u8 (y : Int)])) (by omega) (by unfold maxLen; omega) (Nat.zero_le _) ?_
            intro v7 W6 o7 f7 hn7
            obtain ⟨A6, c6, rfl, -, -⟩ := own_slice o7
            have hbv7 : bv [d] = [.int .u8 (y : Int)] := by
              have hxb := HY.out
              show [Value.int .u8 (((d : UInt8).toNat : Nat) : Int)] = _
              rw [hxb]
              all_goals rfl
            have S6 := Lib.hid (RpS.add (m := 1) (l := [d]) S5.out FA6.out rfl (by rw [hbv7]; exact o7) f7 hn7)
            clear o7 f7 hn7 hbv7)
          clear KO6 FA6
          go_wp2_with fail
          go_roundw
          case rel => exact ⟨A6, c6, j + 1, ac ++ [d], by omega, by simp, by go_num, HST.out, S6⟩
          case measure => simp [intOf]; omega
        case pos =>
          have HST : Hid (ac ++ [92] ++ [d] = (acc1 ++ [34]) ++ esc (t.take (j + 1))) := Lib.hid (by
            have n1 : (d == 34 || d == 92) = true := by
              rw [show (34 : UInt8) = Nat.toUInt8 34 from rfl, show (92 : UInt8) = Nat.toUInt8 92 from rfl, H34.out, H92.out]
              rcases hq with e | e
              · rw [decide_eq_true e]; rfl
              · rw [decide_eq_true e]; simp
            rw [HCC.out, HES.out, n1]
            simp)
          have hl6 : (ac ++ [92]).length = ac.length + 1 := by simp
          rcases hq with rfl | rfl
          · skip
            have FA6 := Lib.hid ((Fr.refl (fun _ => False) wr).alloc (.cells #[.int .u8 92] 5))
            have ko6 := own_fr S5.out.row FA6.out (fun _ _ h => h)
            have KO6 := Lib.hid ko6
            clear ko6
            go_upto_region 19 with (
              at_builtin
              refine wpList_app rfl (.tmp 56) (.tmp 57) _ _ rfl 0 5 b0 _ 1 1 Tryd.underlying56 HB0.out bz0 bz1 bz2 rfl _ _ _ rfl KO6.out _ 1 _ rfl (src_b (Blk.new wr 5 #[.int .u8 92])) (by omega) (by unfold maxLen; omega) (Nat.zero_le _) ?_
              intro v7 W6 o7 f7 hn7
              obtain ⟨A6, c6, rfl, -, -⟩ := own_slice o7
              have hbv7 : bv [92] = [.int .u8 92] := by
                have hxb := (show ((92 : UInt8).toNat) = 92 from rfl)
                show [Value.int .u8 (((92 : UInt8).toNat : Nat) : Int)] = _
                rw [hxb]
                all_goals rfl
              have S6 := Lib.hid (RpS.add (m := 1) (l := [92]) S5.out FA6.out rfl (by rw [hbv7]; exact o7) f7 hn7)
              clear o7 f7 hn7 hbv7)
            clear KO6 FA6
            clear x0 x1 x2
            have x0 : W6.cell? ⟨bx, 0, none⟩ = some (.int .i64 2) := S6.out.box.cell 0
            have x1 : W6.cell? ⟨bx, 1, none⟩ = some (.string (strOf t)) := S6.out.box.cell 1
            have x2 : W6.cell? ⟨bx, 2, none⟩ = some (.int .i64 n) := S6.out.box.cell 2
            have FA7 := Lib.hid ((Fr.refl (fun _ => False) W6).alloc (.cells #[.int .u8 (34 : Int)] 5))
            have ko7 := own_fr S6.out.row FA7.out (fun _ _ h => h)
            rw [hl6] at ko7
            have KO7 := Lib.hid ko7
            clear ko7
            go_upto_region 16 with (
              at_builtin
              refine wpList_app rfl (.tmp 59) (.tmp 64) _ _ rfl 0 5 b0 _ 1 1 Tryd.underlying56 HB0.out bz0 bz1 bz2 rfl _ _ _ rfl KO7.out _ 1 _ rfl (src_b (Blk.new W6 5 #[.int .u8 (34 : Int)])) (by omega) (by unfold maxLen; omega) (Nat.zero_le _) ?_
              intro v7 W7 o7 f7 hn7
              obtain ⟨A7, c7, rfl, -, -⟩ := own_slice o7
              have hbv7 : bv [d] = [.int .u8 (34 : Int)] := by
                have hxb := HY.out
                show [Value.int .u8 (((d : UInt8).toNat : Nat) : Int)] = _
                rw [hxb]
                all_goals rfl
              have S7 := Lib.hid (RpS.add (m := 1) (l := [d]) S6.out FA7.out rfl (by rw [hbv7, hl6]; exact o7) (by rw [hl6]; exact f7) (by rw [hl6]; exact hn7))
              clear o7 f7 hn7 hbv7)
            clear KO7 FA7
            go_wp2_with fail
            go_roundw
            case rel => exact ⟨A7, c7, j + 1, ac ++ [92] ++ [d], by omega, by simp [Nat.add_assoc], by go_num, HST.out, S7⟩
            case measure => simp [intOf]; omega
          · skip
            have FA6 := Lib.hid ((Fr.refl (fun _ => False) wr).alloc (.cells #[.int .u8 92] 5))
            have ko6 := own_fr S5.out.row FA6.out (fun _ _ h => h)
            have KO6 := Lib.hid ko6
            clear ko6
            go_upto_region 19 with (
              at_builtin
              refine wpList_app rfl (.tmp 56) (.tmp 57) _ _ rfl 0 5 b0 _ 1 1 Tryd.underlying56 HB0.out bz0 bz1 bz2 rfl _ _ _ rfl KO6.out _ 1 _ rfl (src_b (Blk.new wr 5 #[.int .u8 92])) (by omega) (by unfold maxLen; omega) (Nat.zero_le _) ?_
              intro v7 W6 o7 f7 hn7
              obtain ⟨A6, c6, rfl, -, -⟩ := own_slice o7
              have hbv7 : bv [92] = [.int .u8 92] := by
                have hxb := (show ((92 : UInt8).toNat) = 92 from rfl)
                show [Value.int .u8 (((92 : UInt8).toNat : Nat) : Int)] = _
                rw [hxb]
                all_goals rfl
              have S6 := Lib.hid (RpS.add (m := 1) (l := [92]) S5.out FA6.out rfl (by rw [hbv7]; exact o7) f7 hn7)
              clear o7 f7 hn7 hbv7)
            clear KO6 FA6
            clear x0 x1 x2
            have x0 : W6.cell? ⟨bx, 0, none⟩ = some (.int .i64 2) := S6.out.box.cell 0
            have x1 : W6.cell? ⟨bx, 1, none⟩ = some (.string (strOf t)) := S6.out.box.cell 1
            have x2 : W6.cell? ⟨bx, 2, none⟩ = some (.int .i64 n) := S6.out.box.cell 2
            have FA7 := Lib.hid ((Fr.refl (fun _ => False) W6).alloc (.cells #[.int .u8 (92 : Int)] 5))
            have ko7 := own_fr S6.out.row FA7.out (fun _ _ h => h)
            rw [hl6] at ko7
            have KO7 := Lib.hid ko7
            clear ko7
            go_upto_region 16 with (
              at_builtin
              refine wpList_app rfl (.tmp 59) (.tmp 64) _ _ rfl 0 5 b0 _ 1 1 Tryd.underlying56 HB0.out bz0 bz1 bz2 rfl _ _ _ rfl KO7.out _ 1 _ rfl (src_b (Blk.new W6 5 #[.int .u8 (92 : Int)])) (by omega) (by unfold maxLen; omega) (Nat.zero_le _) ?_
              intro v7 W7 o7 f7 hn7
              obtain ⟨A7, c7, rfl, -, -⟩ := own_slice o7
              have hbv7 : bv [d] = [.int .u8 (92 : Int)] := by
                have hxb := HY.out
                show [Value.int .u8 (((d : UInt8).toNat : Nat) : Int)] = _
                rw [hxb]
                all_goals rfl
              have S7 := Lib.hid (RpS.add (m := 1) (l := [d]) S6.out FA7.out rfl (by rw [hbv7, hl6]; exact o7) (by rw [hl6]; exact f7) (by rw [hl6]; exact hn7))
              clear o7 f7 hn7 hbv7)
            clear KO7 FA7
            go_wp2_with fail
            go_roundw
            case rel => exact ⟨A7, c7, j + 1, ac ++ [92] ++ [d], by omega, by simp [Nat.add_assoc], by go_num, HST.out, S7⟩
            case measure => simp [intOf]; omega

    case neg =>
    have m2 : (k == 2) = false := by simpa using k2
    by_cases k3 : k = 3
    case pos =>
      have HWX : Hid (wrt ⟨k, t, n, a⟩ = Lib.itoa n) := Lib.hid (by unfold wrt; rw [if_neg k2, if_pos k3])
      clear k2
      subst k3
      have DG := Lib.hid (fun W => rDigits_c W n hn0 hn1)
      have hdl5 := Lib.itoa_length_le n hn0 hn1
      obtain ⟨tx, htx⟩ : ∃ tx, Lib.itoa n = tx := ⟨_, rfl⟩
      rw [htx] at DG hdl5 HWX
      clear htx
      have x0 : wc.cell? ⟨bx, 0, none⟩ = some (.int .i64 3) := S3.out.box.cell 0
      have x1 : wc.cell? ⟨bx, 1, none⟩ = some (.string (strOf t)) := S3.out.box.cell 1
      have x2 : wc.cell? ⟨bx, 2, none⟩ = some (.int .i64 n) := S3.out.box.cell 2
      go_upto_region 4 with (first
        | (go_at_call 33
           refine (DG.out wc).mono ?_
           rintro e W4 ⟨rfl, f4⟩
           have S4 := Lib.hid (S3.out.far f4)
           clear f4)
        | (at_builtin
           refine wpList_app rfl (.tmp 71) (.tmp 74) _ _ rfl 0 5 b0 _ 1 1 Tryd.underlying56 HB0.out bz0 bz1 bz2 rfl _ _ _ rfl S4.out.row _ _ _ rfl (src_str _ tx) (by omega) (by unfold maxLen; omega) (Nat.zero_le _) ?_
           intro v7 W5 o7 f7 hn7
           obtain ⟨A5, c5, rfl, -, -⟩ := own_slice o7
           have S5 := Lib.hid (S4.out.add (l := tx) (Fr.refl _ _) rfl o7 f7 hn7)
           clear o7 f7 hn7))
      have HPE : Hid (pre l (i + 1) = acc1 ++ tx) := Lib.hid (by rw [HPS1.out, HWX.out])
      go_wp2_with fail
      go_roundw
      case rel => exact ⟨A5, c5, i + 1, pre l (i + 1), by omega, by rw [HPE.out]; simp [Nat.add_assoc], by go_num, rfl, by rw [HPE.out]; simp only [List.length_append, List.length_cons, List.length_nil]; omega, Lib.hid (by rw [HPE.out]; exact ⟨S5.out.row, fun q hq => (S5.out.own q hq).1, S5.out.fr⟩), MAYN.out⟩
      case measure => simp [intOf]; omega

    case neg =>
      have m3 : (k == 3) = false := by simpa using k3
      have HWX : Hid (wrt ⟨k, t, n, a⟩ = t) := Lib.hid (by unfold wrt; rw [if_neg k2, if_neg k3])
      clear k2 k3
      have x0 : wc.cell? ⟨bx, 0, none⟩ = some (.int .i64 k) := S3.out.box.cell 0
      have x1 : wc.cell? ⟨bx, 1, none⟩ = some (.string (strOf t)) := S3.out.box.cell 1
      have x2 : wc.cell? ⟨bx, 2, none⟩ = some (.int .i64 n) := S3.out.box.cell 2
      go_upto_region 4 with (first
        | (at_builtin
           refine wpList_app rfl (.tmp 28) (.tmp 30) _ _ rfl 0 5 b0 _ 1 1 Tryd.underlying56 HB0.out bz0 bz1 bz2 rfl _ _ _ rfl S3.out.row _ _ _ rfl (src_str _ t) (by omega) (by unfold maxLen; omega) (Nat.zero_le _) ?_
           intro v7 W5 o7 f7 hn7
           obtain ⟨A5, c5, rfl, -, -⟩ := own_slice o7
           have S5 := Lib.hid (S3.out.add (l := t) (Fr.refl _ _) rfl o7 f7 hn7)
           clear o7 f7 hn7))
      have HPE : Hid (pre l (i + 1) = acc1 ++ t) := Lib.hid (by rw [HPS1.out, HWX.out])
      go_wp2_with fail
      go_roundw
      case rel => exact ⟨A5, c5, i + 1, pre l (i + 1), by omega, by rw [HPE.out]; simp [Nat.add_assoc], by go_num, rfl, by rw [HPE.out]; simp only [List.length_append, List.length_cons, List.length_nil]; omega, Lib.hid (by rw [HPE.out]; exact ⟨S5.out.row, fun q hq => (S5.out.own q hq).1, S5.out.fr⟩), MAYN.out⟩
      case measure => simp [intOf]; omega

end Go.Proofs.YtimopkmlcjdgfaaDoor
