/-
  CONTRACT of value.appendElements. Written by gen_txt.py.
-/
import Derived.Test.YtnkfkicabgajmaaDoorAi
import Derived.Test.YtnkfkicabgajmaaDoorCmp
namespace Go.Proofs.YtnkfkicabgajmaaDoor
set_option linter.unusedSimpArgs false
set_option linter.unusedVariables false
open Go Go.RowKit

theorem bv_snoc1 (xs : List Value) (T : List UInt8) (b : UInt8) (z : Int) (h : z = (b.toNat : Nat)) : xs ++ bv T ++ [.int .u8 z] = xs ++ bv (T ++ [b]) := by
  rw [bv_append, List.append_assoc, h]
  rfl
/-- The text of one element, with what stands ahead. -/
def elT (obj first : Bool) (k : List UInt8) (v : V) : List UInt8 := (if first then [] else [44]) ++ ((if obj then quoted k ++ [58] else []) ++ prV v)
theorem prE_take (obj : Bool) : ∀ (l : List V) (ks : List (List UInt8)) (first : Bool) (i : Nat) (h : i < l.length), prE obj first (l.take (i + 1)) ks = prE obj first (l.take i) ks ++ elT obj (first && i == 0) ((ks.drop i).headD []) l[i]
  | v :: l, ks, first, 0, h => by
    simp only [List.take_succ_cons, List.take_zero, prE, elT, List.drop_zero, List.getElem_cons_zero, List.nil_append, List.append_nil, BEq.rfl, Bool.and_true, List.append_assoc]
  | v :: l, ks, first, i + 1, h => by
    have ih := prE_take obj l ks.tail false i (by simpa using h)
    rw [List.take_succ_cons, prE, ih]
    rw [List.take_succ_cons, prE]
    have e1 : (false && i == 0) = false := rfl
    have e2 : (first && (i + 1 == 0)) = false := by simp
    rw [e1, e2, List.drop_tail, List.getElem_cons_succ]
    simp only [List.append_assoc]
theorem prE_pre (obj : Bool) : ∀ (l : List V) (ks : List (List UInt8)) (first : Bool) (i : Nat), prE obj first (l.take i) ks <+: prE obj first l ks
  | [], _, _, i => by simp [prE]
  | v :: l, ks, first, 0 => by rw [List.take_zero, prE]; exact List.nil_prefix
  | v :: l, ks, first, i + 1 => by
    rw [List.take_succ_cons, prE, prE]
    exact List.prefix_append_right_inj _ |>.2 (prE_pre obj l ks.tail false i)
/-- What is carried while a value is printed. -/
structure Cx (base g : Nat) (D : Nat → Prop) (k n : Int) (t : List UInt8) (l : List V) (ks : List (List UInt8)) (Al : Option Addr) (cl : Nat) (Ak : Option Addr) (ck : Nat) (css : List (Array Value)) (W : World) : Prop where
  box : Blk W g 25 (vcs k n t Al l.length cl Ak ks.length ck)
  vp : VP D W k n t l ks Al cl Ak ck css
  laid : LaidOk W
  sz : base ≤ W.heap.size
  b8 : 8 ≤ base
  dlt : ∀ b, D b → b < base
theorem Cx.gk {base g : Nat} {D : Nat → Prop} {k n : Int} {t : List UInt8} {l : List V} {ks : List (List UInt8)} {Al Ak : Option Addr} {cl ck : Nat} {css : List (Array Value)} {W W' : World} {X : List Value} (h : Cx base g D k n t l ks Al cl Ak ck css W) (hk : GK 5 base X W W') : Cx base g D k n t l ks Al cl Ak ck css W' :=
  ⟨h.box.gu hk.1 (by decide), h.vp.fr hk.1.old (fun b hb e => by have := h.dlt b hb; omega), h.laid.fr hk.1.old (fun q hq e => by have := h.b8; omega), Nat.le_trans h.sz hk.1.lt, h.b8, h.dlt⟩
/-- An element in its box. -/
structure Ex (base g : Nat) (D : Nat → Prop) (C : Array Value) (x : V) (W : World) : Prop where
  box : Blk W g 25 C
  rd : RdV D W C x
  dlt : ∀ b, D b → b < base
theorem Ex.gk {base g : Nat} {D : Nat → Prop} {C : Array Value} {x : V} {W W' : World} {X : List Value} (h : Ex base g D C x W) (hk : GK 5 base X W W') : Ex base g D C x W' :=
  ⟨h.box.gu hk.1 (by decide), h.rd.fr hk.1.old (fun b hb e => by have := h.dlt b hb; omega), h.dlt⟩
abbrev TxtIH (base : Nat) (D : Nat → Prop) (l : List V) : Prop := ∀ (x : V), x ∈ l → ∀ (W : World) (C : Array Value) (n : Nat) (xs X : List Value) (A : Option Addr) (c : Nat), RdV D W C x → fieldsV x = true → W.ownsRow base 5 1 (.slice A n c) n xs → (0 < n ∨ Value.slice A n c = .slice none 0 0) → base ≤ W.heap.size → n + (prV x).length ≤ 140737488354000 → xs ++ bv (prV x) <+: X → LaidOk W →
  Calls Tryd.prog 12 #[.slice A n c, .agg C] W (AppQ base n xs (prV x) X W)
theorem headD_drop (ks : List (List UInt8)) (i : Nat) (h : i < ks.length) : (ks.drop i).headD [] = ks[i] := by
  rw [List.drop_eq_getElem_cons h]; rfl
set_option maxRecDepth 100000 in
set_option maxHeartbeats 4000000 in
theorem elems5_c (w : World) (base n : Nat) (xs X : List Value) (A : Option Addr) (c : Nat) {D : Nat → Prop} {nn : Int} {t : List UInt8} {l : List V} {ks : List (List UInt8)} {Al Ak : Option Addr} {cl ck : Nat} {css : List (Array Value)}
    (hp : VP D w 5 nn t l ks Al cl Ak ck css) (hdl : ∀ b, D b → b < base) (hfs : fieldss l = true) (hown : w.ownsRow base 5 1 (.slice A n c) n xs) (hn0 : 0 < n) (hbase : base ≤ w.heap.size) (h8 : 8 ≤ base)
    (hn : n + (prE false true l ks).length ≤ 140737488354000) (hX : xs ++ bv (prE false true l ks) <+: X) (hL : LaidOk w) (ih : TxtIH base D l) :
    Calls Tryd.prog 24 #[.slice A n c, .agg (vcs 5 nn t Al l.length cl Ak ks.length ck)] w (AppQ base n xs (prE false true l ks) X w) := by
  obtain ⟨i0, hi0, hz0', hz1', hz2'⟩ := info_parts u8_info
  have HI0 := Lib.hid hi0
  have OW := Lib.hid hown
  have HX := Lib.hid hX
  have HP := Lib.hid hp
  have HL := Lib.hid hL
  have IH := Lib.hid ih
  have HFS := Lib.hid hfs
  have HDL := Lib.hid hdl
  have hbl := hp.b.ll
  have hbk := hp.b.kl
  clear hi0 hown hX hp hL ih hfs hdl
  go_enter Tryd.func24, Tryd.ntmps24
  go_upto_region 1 with fail
  refine abs_world (fun W => Hid (Blk W w.heap.size 25 (vcs 5 nn t Al l.length cl Ak ks.length ck)) ∧ Hid (Fr (fun _ => False) w W)) ⟨Blk.new w _ _, (Fr.refl _ w).alloc _⟩ ?_
  rintro W1 ⟨B1, F1⟩
  have CX1 : Hid (Cx base w.heap.size D 5 nn t l ks Al cl Ak ck css W1) := Lib.hid ⟨B1.out, HP.out.far F1.out, HL.out.far F1.out, Nat.le_trans hbase F1.out.size, h8, HDL.out⟩
  have O1 := Lib.hid (own_fr OW.out F1.out (fun _ _ h => h))
  have K1 : Hid (GK 5 base X w W1) := Lib.hid (GK.far F1.out)
  generalize w.heap.size = g at *
  have c3 : W1.cell? ⟨g, 3, none⟩ = some (.slice Al l.length cl) := CX1.out.box.cell 3
  clear HP HL OW B1
  go_wp2_with fail
  clear c3
  go_loopw [0, 10] (fun ov iv wr => ∃ (i m : Nat) (A2 : Option Addr) (c2 : Nat), i ≤ l.length ∧ iv = .int .i64 (i : Int) ∧ ov = .slice A2 (n + m) c2 ∧ Hid (m = (prE false true (l.take i) ks).length) ∧ Hid (wr.ownsRow base 5 1 (.slice A2 (n + m) c2) (n + m) (xs ++ bv (prE false true (l.take i) ks))) ∧ Hid (GK 5 base X W1 wr)) (fun _ iv _ => l.length - (intOf iv).toNat)
  case atStart => exact ⟨0, 0, A, c, Nat.zero_le _, rfl, rfl, rfl, (by refine Lib.hid ?_; simpa [prE, bv] using O1.out), GK.refl _ _ _ _⟩
  case round =>
    obtain ⟨i, m, A2, c2, hi, rfl, rfl, hm, ho, hk⟩ := hrel
    by_cases hlt : i < l.length
    case neg =>
      obtain rfl : i = l.length := by omega
      have hd1 : decide ((l.length : Int) < (l.length : Int)) = false := decide_eq_false (by omega)
      have hd1' : decide (l.length < l.length) = false := decide_eq_false (by omega)
      have htk : l.take l.length = l := List.take_length
      rw [htk] at ho hm
      clear htk hd1'
      go_wp2_with fail
      go_ret
      refine ⟨A2, c2, ret_slice (by rw [hm.out]), ?_, K1.out.trans hk.out⟩
      have h := ho.out
      rw [hm.out] at h
      exact h
    have hd1 : decide ((i : Int) < (l.length : Int)) = true := decide_eq_true (by omega)
    have hd1' : decide (i < l.length) = true := decide_eq_true hlt
    obtain ⟨b, off, C, hA, -, hrv, hrg, h5⟩ := (CX1.out.gk hk.out).vp.at_ hlt
    subst hA
    have hel := prE_take false l ks true i hlt
    have hpl := (prE_pre false l ks true (i + 1)).length_le
    have hqp := pre_of HX.out (prE_pre false l ks true (i + 1))
    have HPR := Lib.hid hqp
    have HFX := Lib.hid (fieldss_mem HFS.out l[i] (List.getElem_mem hlt))
    have CXr := Lib.hid (CX1.out.gk hk.out)
    have HRV := Lib.hid hrv
    have HG := Lib.hid hrg
    have HSC := Lib.hid (szV hrv)
    have HO := Lib.hid (oneV hrv)
    have H5 := Lib.hid h5
    obtain ⟨pre, hpre⟩ : ∃ pre, prE false true (l.take i) ks = pre := ⟨_, rfl⟩
    rw [hpre] at hel hm ho
    clear hrv hrg h5 hqp hpre
    rcases Nat.eq_zero_or_pos i with hi0 | hi0
    · have he : prE false true (l.take (i + 1)) ks = pre ++ prV l[i] := by
        rw [hel]
        unfold elT
        rw [show (true && (i == 0)) = true by simp; omega]
        simp only [Bool.and_true, Bool.and_false, Bool.false_eq_true, if_true, if_false, List.nil_append, List.append_assoc, List.cons_append, BEq.rfl]
      have HEL := Lib.hid he
      have hlen : m + (prV l[i]).length ≤ (prE false true l ks).length := by
        have h1 := hpl
        rw [he] at h1
        have := hm.out
        simp only [List.length_append, List.length_cons, List.length_nil] at h1
        omega
      have dpos : decide (0 < (i : Int)) = false := decide_eq_false (by omega)
      have dpos' : decide (0 < i) = false := decide_eq_false (by omega)
      clear hel he hpl
      clear hi0
      go_upto_region 4 with (first
        | (refine wpList_load_val rfl 25 _ rfl b _ rfl C HG.out _ Tryd.underlying25 rfl HSC.out ?_)
        | (refine wpList_store_blk rfl 25 _ _ rfl wr.heap.size C rfl rfl (Blk.new wr 25 _) H5.out HSC.out HO.out ?_
           intro W5 q5 f5
           have F5 := Lib.hid (((Fr.refl (fun _ => False) wr).alloc _).trans f5 (fun i hi h => by have : i = wr.heap.size := h; omega))
           have Q5 := Lib.hid q5
           clear q5 f5))
      have K5 : Hid (GK 5 base X W1 W5) := Lib.hid (hk.out.trans (GK.far F5.out))
      have CX5 := Lib.hid (CXr.out.gk (GK.far (t := 5) (X := X) F5.out))
      have EX5 : Hid (Ex base wr.heap.size D C l[i] W5) := Lib.hid ⟨Q5.out, HRV.out.far F5.out, HDL.out⟩
      have O5 := Lib.hid (own_fr ho.out F5.out (fun _ _ h => h))
      have Z5 := CX5.out.sz
      clear Q5 F5 HRV HG CXr ho hk
      generalize wr.heap.size = g5 at *
      have y0 : W5.cell? ⟨g, 0, none⟩ = some (.int .i64 5) := CX5.out.box.cell 0
      have QB := Lib.hid (blk_all EX5.out.box)
      go_wp2_with (refine wpList_load_val rfl 25 _ rfl g5 _ rfl C QB.out _ Tryd.underlying25 rfl HSC.out ?_)
      refine (IH.out l[i] (List.getElem_mem hlt) W5 C (n + m) (xs ++ bv (pre)) X A2 c2 EX5.out.rd HFX.out O5.out (.inl (by omega)) CX5.out.sz (by omega) (by rw [List.append_assoc, ← bv_append]; exact pre_of HPR.out (by rw [HEL.out]; exact ⟨[], by simp⟩)) CX5.out.laid).mono ?_
      rintro e W9 ⟨A9, c9, rfl, o9, g9⟩
      have hx9 : xs ++ bv (pre) ++ bv (prV l[i]) = xs ++ bv (prE false true (l.take (i + 1)) ks) := by rw [List.append_assoc, ← bv_append, HEL.out]
      rw [hx9] at o9
      have hna : n + m + (prV l[i]).length = n + (m + (prV l[i]).length) := by omega
      rw [hna] at o9
      have O9 := Lib.hid o9
      have KK9 := Lib.hid (K5.out.trans g9)
      have hm9 : Hid (m + (prV l[i]).length = (prE false true (l.take (i + 1)) ks).length) := by
        refine Lib.hid ?_
        rw [HEL.out, hm.out]
        simp only [List.length_append, List.length_cons, List.length_nil]
        try omega
      have CX9 := Lib.hid (CX5.out.gk g9)
      clear o9 g9 hx9
      go_wp2_with fail
      go_roundw
      case rel => exact ⟨i + 1, m + (prV l[i]).length, A9, c9, by omega, by go_num, by rw [← hna], hm9.out, O9.out, KK9.out⟩
      case measure => simp [intOf]; omega
    · have he : prE false true (l.take (i + 1)) ks = pre ++ [44] ++ prV l[i] := by
        rw [hel]
        unfold elT
        rw [show (true && (i == 0)) = false by simp; omega]
        simp only [Bool.and_true, Bool.and_false, Bool.false_eq_true, if_true, if_false, List.nil_append, List.append_assoc, List.cons_append, BEq.rfl]
      have HEL := Lib.hid he
      have hlen : m + 1 + (prV l[i]).length ≤ (prE false true l ks).length := by
        have h1 := hpl
        rw [he] at h1
        have := hm.out
        simp only [List.length_append, List.length_cons, List.length_nil] at h1
        omega
      have dpos : decide (0 < (i : Int)) = true := decide_eq_true (by omega)
      have dpos' : decide (0 < i) = true := decide_eq_true (by omega)
      clear hel he hpl
      go_upto_region 4 with (first
        | (refine wpList_load_val rfl 25 _ rfl b _ rfl C HG.out _ Tryd.underlying25 rfl HSC.out ?_)
        | (refine wpList_store_blk rfl 25 _ _ rfl wr.heap.size C rfl rfl (Blk.new wr 25 _) H5.out HSC.out HO.out ?_
           intro W5 q5 f5
           have F5 := Lib.hid (((Fr.refl (fun _ => False) wr).alloc _).trans f5 (fun i hi h => by have : i = wr.heap.size := h; omega))
           have Q5 := Lib.hid q5
           clear q5 f5))
      have K5 : Hid (GK 5 base X W1 W5) := Lib.hid (hk.out.trans (GK.far F5.out))
      have CX5 := Lib.hid (CXr.out.gk (GK.far (t := 5) (X := X) F5.out))
      have EX5 : Hid (Ex base wr.heap.size D C l[i] W5) := Lib.hid ⟨Q5.out, HRV.out.far F5.out, HDL.out⟩
      have O5 := Lib.hid (own_fr ho.out F5.out (fun _ _ h => h))
      have Z5 := CX5.out.sz
      clear Q5 F5 HRV HG CXr ho hk
      generalize wr.heap.size = g5 at *
      go_upto_region 6 with (first
        | (at_builtin
           refine wpList_appK rfl _ _ _ _ rfl base 5 i0 _ 1 Tryd.underlying37 HI0.out hz0' hz1' hz2' rfl (.slice A2 (n + m) c2) (n + m) (xs ++ bv (pre)) rfl (own_al O5.out _) (.inl (by omega)) _ 1 [.int .u8 44] rfl (src1 W5 44) (by omega) (by unfold maxLen; omega) (by rw [World.size_alloc]; omega) ?_
           intro v6 W6 o6 g6
           obtain ⟨A6, c6, rfl, -, -⟩ := own_slice o6
           have O6 := Lib.hid o6
           have G6 := Lib.hid g6
           clear o6 g6))
      have hx6 : xs ++ bv (pre) ++ [.int .u8 44] = xs ++ bv (pre ++ [44]) := bv_snoc1 xs (pre) 44 44 rfl
      have K6 : Hid (GK 5 base X W5 W6) := Lib.hid (G6.out X (by rw [hx6]; exact pre_of HPR.out (by rw [HEL.out]; exact ⟨prV l[i], by simp⟩))).alloc1
      have O6' := O6.out
      rw [hx6] at O6'
      have O6x := Lib.hid O6'
      have CX6 := Lib.hid (CX5.out.gk K6.out)
      have EX6 := Lib.hid (EX5.out.gk K6.out)
      have KK6 := Lib.hid (K5.out.trans K6.out)
      have Z6 := CX6.out.sz
      clear O6' hx6 G6 O6 K6 
      have y0 : W6.cell? ⟨g, 0, none⟩ = some (.int .i64 5) := CX6.out.box.cell 0
      have QB := Lib.hid (blk_all EX6.out.box)
      go_wp2_with (refine wpList_load_val rfl 25 _ rfl g5 _ rfl C QB.out _ Tryd.underlying25 rfl HSC.out ?_)
      refine (IH.out l[i] (List.getElem_mem hlt) W6 C (n + m + 1) (xs ++ bv (pre ++ [44])) X A6 c6 EX6.out.rd HFX.out O6x.out (.inl (by omega)) CX6.out.sz (by omega) (by rw [List.append_assoc, ← bv_append]; exact pre_of HPR.out (by rw [HEL.out]; exact ⟨[], by simp⟩)) CX6.out.laid).mono ?_
      rintro e W9 ⟨A9, c9, rfl, o9, g9⟩
      have hx9 : xs ++ bv (pre ++ [44]) ++ bv (prV l[i]) = xs ++ bv (prE false true (l.take (i + 1)) ks) := by rw [List.append_assoc, ← bv_append, HEL.out]
      rw [hx9] at o9
      have hna : n + m + 1 + (prV l[i]).length = n + (m + 1 + (prV l[i]).length) := by omega
      rw [hna] at o9
      have O9 := Lib.hid o9
      have KK9 := Lib.hid (KK6.out.trans g9)
      have hm9 : Hid (m + 1 + (prV l[i]).length = (prE false true (l.take (i + 1)) ks).length) := by
        refine Lib.hid ?_
        rw [HEL.out, hm.out]
        simp only [List.length_append, List.length_cons, List.length_nil]
        try omega
      have CX9 := Lib.hid (CX6.out.gk g9)
      clear o9 g9 hx9
      go_wp2_with fail
      go_roundw
      case rel => exact ⟨i + 1, m + 1 + (prV l[i]).length, A9, c9, by omega, by go_num, by rw [← hna], hm9.out, O9.out, KK9.out⟩
      case measure => simp [intOf]; omega
set_option maxRecDepth 100000 in
set_option maxHeartbeats 4000000 in
theorem elems6_c (w : World) (base n : Nat) (xs X : List Value) (A : Option Addr) (c : Nat) {D : Nat → Prop} {nn : Int} {t : List UInt8} {l : List V} {ks : List (List UInt8)} {Al Ak : Option Addr} {cl ck : Nat} {css : List (Array Value)}
    (hp : VP D w 6 nn t l ks Al cl Ak ck css) (hdl : ∀ b, D b → b < base) (hkl : ks.length = l.length) (hfs : fieldss l = true) (hown : w.ownsRow base 5 1 (.slice A n c) n xs) (hn0 : 0 < n) (hbase : base ≤ w.heap.size) (h8 : 8 ≤ base)
    (hn : n + (prE true true l ks).length ≤ 140737488354000) (hX : xs ++ bv (prE true true l ks) <+: X) (hL : LaidOk w) (ih : TxtIH base D l) :
    Calls Tryd.prog 24 #[.slice A n c, .agg (vcs 6 nn t Al l.length cl Ak ks.length ck)] w (AppQ base n xs (prE true true l ks) X w) := by
  obtain ⟨i0, hi0, hz0', hz1', hz2'⟩ := info_parts u8_info
  have HI0 := Lib.hid hi0
  have OW := Lib.hid hown
  have HX := Lib.hid hX
  have HP := Lib.hid hp
  have HL := Lib.hid hL
  have IH := Lib.hid ih
  have HFS := Lib.hid hfs
  have HDL := Lib.hid hdl
  have hbl := hp.b.ll
  have hbk := hp.b.kl
  have HKL := Lib.hid hkl
  clear hi0 hown hX hp hL ih hfs hdl hkl
  go_enter Tryd.func24, Tryd.ntmps24
  go_upto_region 1 with fail
  refine abs_world (fun W => Hid (Blk W w.heap.size 25 (vcs 6 nn t Al l.length cl Ak ks.length ck)) ∧ Hid (Fr (fun _ => False) w W)) ⟨Blk.new w _ _, (Fr.refl _ w).alloc _⟩ ?_
  rintro W1 ⟨B1, F1⟩
  have CX1 : Hid (Cx base w.heap.size D 6 nn t l ks Al cl Ak ck css W1) := Lib.hid ⟨B1.out, HP.out.far F1.out, HL.out.far F1.out, Nat.le_trans hbase F1.out.size, h8, HDL.out⟩
  have O1 := Lib.hid (own_fr OW.out F1.out (fun _ _ h => h))
  have K1 : Hid (GK 5 base X w W1) := Lib.hid (GK.far F1.out)
  generalize w.heap.size = g at *
  have c3 : W1.cell? ⟨g, 3, none⟩ = some (.slice Al l.length cl) := CX1.out.box.cell 3
  clear HP HL OW B1
  go_wp2_with fail
  clear c3
  go_loopw [0, 10] (fun ov iv wr => ∃ (i m : Nat) (A2 : Option Addr) (c2 : Nat), i ≤ l.length ∧ iv = .int .i64 (i : Int) ∧ ov = .slice A2 (n + m) c2 ∧ Hid (m = (prE true true (l.take i) ks).length) ∧ Hid (wr.ownsRow base 5 1 (.slice A2 (n + m) c2) (n + m) (xs ++ bv (prE true true (l.take i) ks))) ∧ Hid (GK 5 base X W1 wr)) (fun _ iv _ => l.length - (intOf iv).toNat)
  case atStart => exact ⟨0, 0, A, c, Nat.zero_le _, rfl, rfl, rfl, (by refine Lib.hid ?_; simpa [prE, bv] using O1.out), GK.refl _ _ _ _⟩
  case round =>
    obtain ⟨i, m, A2, c2, hi, rfl, rfl, hm, ho, hk⟩ := hrel
    by_cases hlt : i < l.length
    case neg =>
      obtain rfl : i = l.length := by omega
      have hd1 : decide ((l.length : Int) < (l.length : Int)) = false := decide_eq_false (by omega)
      have hd1' : decide (l.length < l.length) = false := decide_eq_false (by omega)
      have htk : l.take l.length = l := List.take_length
      rw [htk] at ho hm
      clear htk hd1'
      go_wp2_with fail
      go_ret
      refine ⟨A2, c2, ret_slice (by rw [hm.out]), ?_, K1.out.trans hk.out⟩
      have h := ho.out
      rw [hm.out] at h
      exact h
    have hd1 : decide ((i : Int) < (l.length : Int)) = true := decide_eq_true (by omega)
    have hd1' : decide (i < l.length) = true := decide_eq_true hlt
    have hki : i < ks.length := by rw [HKL.out]; exact hlt
    obtain ⟨q, qo, hAk, -⟩ := CX1.out.vp.key hki
    subst hAk
    obtain ⟨b, off, C, hA, -, hrv, hrg, h5⟩ := (CX1.out.gk hk.out).vp.at_ hlt
    subst hA
    have hel := prE_take true l ks true i hlt
    have hpl := (prE_pre true l ks true (i + 1)).length_le
    have hqp := pre_of HX.out (prE_pre true l ks true (i + 1))
    rw [headD_drop ks i hki] at hel
    have HPR := Lib.hid hqp
    have HFX := Lib.hid (fieldss_mem HFS.out l[i] (List.getElem_mem hlt))
    have CXr := Lib.hid (CX1.out.gk hk.out)
    have HRV := Lib.hid hrv
    have HG := Lib.hid hrg
    have HSC := Lib.hid (szV hrv)
    have HO := Lib.hid (oneV hrv)
    have H5 := Lib.hid h5
    obtain ⟨pre, hpre⟩ : ∃ pre, prE true true (l.take i) ks = pre := ⟨_, rfl⟩
    rw [hpre] at hel hm ho
    clear hrv hrg h5 hqp hpre
    rcases Nat.eq_zero_or_pos i with hi0 | hi0
    · have he : prE true true (l.take (i + 1)) ks = pre ++ quoted ks[i] ++ [58] ++ prV l[i] := by
        rw [hel]
        unfold elT
        rw [show (true && (i == 0)) = true by simp; omega]
        simp only [Bool.and_true, Bool.and_false, Bool.false_eq_true, if_true, if_false, List.nil_append, List.append_assoc, List.cons_append, BEq.rfl]
      have HEL := Lib.hid he
      have hlen : m + ((quoted ks[i]).length + 1) + (prV l[i]).length ≤ (prE true true l ks).length := by
        have h1 := hpl
        rw [he] at h1
        have := hm.out
        simp only [List.length_append, List.length_cons, List.length_nil] at h1
        omega
      have dpos : decide (0 < (i : Int)) = false := decide_eq_false (by omega)
      have dpos' : decide (0 < i) = false := decide_eq_false (by omega)
      clear hel he hpl
      clear hi0
      go_upto_region 4 with (first
        | (refine wpList_load_val rfl 25 _ rfl b _ rfl C HG.out _ Tryd.underlying25 rfl HSC.out ?_)
        | (refine wpList_store_blk rfl 25 _ _ rfl wr.heap.size C rfl rfl (Blk.new wr 25 _) H5.out HSC.out HO.out ?_
           intro W5 q5 f5
           have F5 := Lib.hid (((Fr.refl (fun _ => False) wr).alloc _).trans f5 (fun i hi h => by have : i = wr.heap.size := h; omega))
           have Q5 := Lib.hid q5
           clear q5 f5))
      have K5 : Hid (GK 5 base X W1 W5) := Lib.hid (hk.out.trans (GK.far F5.out))
      have CX5 := Lib.hid (CXr.out.gk (GK.far (t := 5) (X := X) F5.out))
      have EX5 : Hid (Ex base wr.heap.size D C l[i] W5) := Lib.hid ⟨Q5.out, HRV.out.far F5.out, HDL.out⟩
      have O5 := Lib.hid (own_fr ho.out F5.out (fun _ _ h => h))
      have Z5 := CX5.out.sz
      clear Q5 F5 HRV HG CXr ho hk
      generalize wr.heap.size = g5 at *
      have y0 : W5.cell? ⟨g, 0, none⟩ = some (.int .i64 6) := CX5.out.box.cell 0
      have y4 : W5.cell? ⟨g, 4, none⟩ = some (.slice (some ⟨q, qo, none⟩) ks.length ck) := CX5.out.box.cell 4
      have yk : W5.cell? ⟨q, qo + i, none⟩ = some (.string (strOf ks[i])) := by have h := CX5.out.vp.kr; rw [h.cell hki, strs_get ks i hki]
      have ik : (0 : Int) ≤ (i : Int) ∧ (i : Int) < (ks.length : Int) := by omega
      have yk0 := yk
      go_wp2_with fail
      refine (quoted_c W5 base (n + m) (xs ++ bv (pre)) X A2 c2 ks[i] O5.out (.inl (by omega)) CX5.out.sz (by omega) (by rw [List.append_assoc, ← bv_append]; exact pre_of HPR.out (by rw [HEL.out]; exact ⟨[58] ++ prV l[i], by simp⟩))).mono ?_
      rintro e W7 ⟨A7, c7, rfl, o7, g7⟩
      rw [List.append_assoc, ← bv_append] at o7
      have O7x := Lib.hid o7
      have CX7 := Lib.hid (CX5.out.gk g7)
      have EX7 := Lib.hid (EX5.out.gk g7)
      have KK7 := Lib.hid (K5.out.trans g7)
      have Z7 := CX7.out.sz
      clear o7 g7 y0 y4 yk ik
      go_upto_region 8 with (first
        | (at_builtin
           refine wpList_appK rfl _ _ _ _ rfl base 5 i0 _ 1 Tryd.underlying37 HI0.out hz0' hz1' hz2' rfl (.slice A7 (n + m + (quoted ks[i]).length) c7) (n + m + (quoted ks[i]).length) (xs ++ bv (pre ++ quoted ks[i])) rfl (own_al O7x.out _) (.inl (by omega)) _ 1 [.int .u8 58] rfl (src1 W7 58) (by omega) (by unfold maxLen; omega) (by rw [World.size_alloc]; omega) ?_
           intro v8 W8 o8 g8
           obtain ⟨A8, c8, rfl, -, -⟩ := own_slice o8
           have O8 := Lib.hid o8
           have G8 := Lib.hid g8
           clear o8 g8))
      have hx8 : xs ++ bv (pre ++ quoted ks[i]) ++ [.int .u8 58] = xs ++ bv (pre ++ quoted ks[i] ++ [58]) := bv_snoc1 xs (pre ++ quoted ks[i]) 58 58 rfl
      have K8 : Hid (GK 5 base X W7 W8) := Lib.hid (G8.out X (by rw [hx8]; exact pre_of HPR.out (by rw [HEL.out]; exact ⟨prV l[i], by simp⟩))).alloc1
      have O8' := O8.out
      rw [hx8] at O8'
      have O8x := Lib.hid O8'
      have CX8 := Lib.hid (CX7.out.gk K8.out)
      have EX8 := Lib.hid (EX7.out.gk K8.out)
      have KK8 := Lib.hid (KK7.out.trans K8.out)
      have Z8 := CX8.out.sz
      clear O8' hx8 G8 O8 K8 
      have QB := Lib.hid (blk_all EX8.out.box)
      go_wp2_with (refine wpList_load_val rfl 25 _ rfl g5 _ rfl C QB.out _ Tryd.underlying25 rfl HSC.out ?_)
      refine (IH.out l[i] (List.getElem_mem hlt) W8 C (n + m + (quoted ks[i]).length + 1) (xs ++ bv (pre ++ quoted ks[i] ++ [58])) X A8 c8 EX8.out.rd HFX.out O8x.out (.inl (by omega)) CX8.out.sz (by omega) (by rw [List.append_assoc, ← bv_append]; exact pre_of HPR.out (by rw [HEL.out]; exact ⟨[], by simp⟩)) CX8.out.laid).mono ?_
      rintro e W9 ⟨A9, c9, rfl, o9, g9⟩
      have hx9 : xs ++ bv (pre ++ quoted ks[i] ++ [58]) ++ bv (prV l[i]) = xs ++ bv (prE true true (l.take (i + 1)) ks) := by rw [List.append_assoc, ← bv_append, HEL.out]
      rw [hx9] at o9
      have hna : n + m + (quoted ks[i]).length + 1 + (prV l[i]).length = n + (m + (quoted ks[i]).length + 1 + (prV l[i]).length) := by omega
      rw [hna] at o9
      have O9 := Lib.hid o9
      have KK9 := Lib.hid (KK8.out.trans g9)
      have hm9 : Hid (m + (quoted ks[i]).length + 1 + (prV l[i]).length = (prE true true (l.take (i + 1)) ks).length) := by
        refine Lib.hid ?_
        rw [HEL.out, hm.out]
        simp only [List.length_append, List.length_cons, List.length_nil]
        try omega
      have CX9 := Lib.hid (CX8.out.gk g9)
      clear o9 g9 hx9
      go_wp2_with fail
      go_roundw
      case rel => exact ⟨i + 1, m + (quoted ks[i]).length + 1 + (prV l[i]).length, A9, c9, by omega, by go_num, by rw [← hna], hm9.out, O9.out, KK9.out⟩
      case measure => simp [intOf]; omega
    · have he : prE true true (l.take (i + 1)) ks = pre ++ [44] ++ quoted ks[i] ++ [58] ++ prV l[i] := by
        rw [hel]
        unfold elT
        rw [show (true && (i == 0)) = false by simp; omega]
        simp only [Bool.and_true, Bool.and_false, Bool.false_eq_true, if_true, if_false, List.nil_append, List.append_assoc, List.cons_append, BEq.rfl]
      have HEL := Lib.hid he
      have hlen : m + 1 + ((quoted ks[i]).length + 1) + (prV l[i]).length ≤ (prE true true l ks).length := by
        have h1 := hpl
        rw [he] at h1
        have := hm.out
        simp only [List.length_append, List.length_cons, List.length_nil] at h1
        omega
      have dpos : decide (0 < (i : Int)) = true := decide_eq_true (by omega)
      have dpos' : decide (0 < i) = true := decide_eq_true (by omega)
      clear hel he hpl
      go_upto_region 4 with (first
        | (refine wpList_load_val rfl 25 _ rfl b _ rfl C HG.out _ Tryd.underlying25 rfl HSC.out ?_)
        | (refine wpList_store_blk rfl 25 _ _ rfl wr.heap.size C rfl rfl (Blk.new wr 25 _) H5.out HSC.out HO.out ?_
           intro W5 q5 f5
           have F5 := Lib.hid (((Fr.refl (fun _ => False) wr).alloc _).trans f5 (fun i hi h => by have : i = wr.heap.size := h; omega))
           have Q5 := Lib.hid q5
           clear q5 f5))
      have K5 : Hid (GK 5 base X W1 W5) := Lib.hid (hk.out.trans (GK.far F5.out))
      have CX5 := Lib.hid (CXr.out.gk (GK.far (t := 5) (X := X) F5.out))
      have EX5 : Hid (Ex base wr.heap.size D C l[i] W5) := Lib.hid ⟨Q5.out, HRV.out.far F5.out, HDL.out⟩
      have O5 := Lib.hid (own_fr ho.out F5.out (fun _ _ h => h))
      have Z5 := CX5.out.sz
      clear Q5 F5 HRV HG CXr ho hk
      generalize wr.heap.size = g5 at *
      go_upto_region 6 with (first
        | (at_builtin
           refine wpList_appK rfl _ _ _ _ rfl base 5 i0 _ 1 Tryd.underlying37 HI0.out hz0' hz1' hz2' rfl (.slice A2 (n + m) c2) (n + m) (xs ++ bv (pre)) rfl (own_al O5.out _) (.inl (by omega)) _ 1 [.int .u8 44] rfl (src1 W5 44) (by omega) (by unfold maxLen; omega) (by rw [World.size_alloc]; omega) ?_
           intro v6 W6 o6 g6
           obtain ⟨A6, c6, rfl, -, -⟩ := own_slice o6
           have O6 := Lib.hid o6
           have G6 := Lib.hid g6
           clear o6 g6))
      have hx6 : xs ++ bv (pre) ++ [.int .u8 44] = xs ++ bv (pre ++ [44]) := bv_snoc1 xs (pre) 44 44 rfl
      have K6 : Hid (GK 5 base X W5 W6) := Lib.hid (G6.out X (by rw [hx6]; exact pre_of HPR.out (by rw [HEL.out]; exact ⟨quoted ks[i] ++ [58] ++ prV l[i], by simp⟩))).alloc1
      have O6' := O6.out
      rw [hx6] at O6'
      have O6x := Lib.hid O6'
      have CX6 := Lib.hid (CX5.out.gk K6.out)
      have EX6 := Lib.hid (EX5.out.gk K6.out)
      have KK6 := Lib.hid (K5.out.trans K6.out)
      have Z6 := CX6.out.sz
      clear O6' hx6 G6 O6 K6 
      have y0 : W6.cell? ⟨g, 0, none⟩ = some (.int .i64 6) := CX6.out.box.cell 0
      have y4 : W6.cell? ⟨g, 4, none⟩ = some (.slice (some ⟨q, qo, none⟩) ks.length ck) := CX6.out.box.cell 4
      have yk : W6.cell? ⟨q, qo + i, none⟩ = some (.string (strOf ks[i])) := by have h := CX6.out.vp.kr; rw [h.cell hki, strs_get ks i hki]
      have ik : (0 : Int) ≤ (i : Int) ∧ (i : Int) < (ks.length : Int) := by omega
      go_wp2_with fail
      refine (quoted_c W6 base (n + m + 1) (xs ++ bv (pre ++ [44])) X A6 c6 ks[i] O6x.out (.inl (by omega)) CX6.out.sz (by omega) (by rw [List.append_assoc, ← bv_append]; exact pre_of HPR.out (by rw [HEL.out]; exact ⟨[58] ++ prV l[i], by simp⟩))).mono ?_
      rintro e W7 ⟨A7, c7, rfl, o7, g7⟩
      rw [List.append_assoc, ← bv_append] at o7
      have O7x := Lib.hid o7
      have CX7 := Lib.hid (CX6.out.gk g7)
      have EX7 := Lib.hid (EX6.out.gk g7)
      have KK7 := Lib.hid (KK6.out.trans g7)
      have Z7 := CX7.out.sz
      clear o7 g7 y0 y4 yk ik
      go_upto_region 8 with (first
        | (at_builtin
           refine wpList_appK rfl _ _ _ _ rfl base 5 i0 _ 1 Tryd.underlying37 HI0.out hz0' hz1' hz2' rfl (.slice A7 (n + m + 1 + (quoted ks[i]).length) c7) (n + m + 1 + (quoted ks[i]).length) (xs ++ bv (pre ++ [44] ++ quoted ks[i])) rfl (own_al O7x.out _) (.inl (by omega)) _ 1 [.int .u8 58] rfl (src1 W7 58) (by omega) (by unfold maxLen; omega) (by rw [World.size_alloc]; omega) ?_
           intro v8 W8 o8 g8
           obtain ⟨A8, c8, rfl, -, -⟩ := own_slice o8
           have O8 := Lib.hid o8
           have G8 := Lib.hid g8
           clear o8 g8))
      have hx8 : xs ++ bv (pre ++ [44] ++ quoted ks[i]) ++ [.int .u8 58] = xs ++ bv (pre ++ [44] ++ quoted ks[i] ++ [58]) := bv_snoc1 xs (pre ++ [44] ++ quoted ks[i]) 58 58 rfl
      have K8 : Hid (GK 5 base X W7 W8) := Lib.hid (G8.out X (by rw [hx8]; exact pre_of HPR.out (by rw [HEL.out]; exact ⟨prV l[i], by simp⟩))).alloc1
      have O8' := O8.out
      rw [hx8] at O8'
      have O8x := Lib.hid O8'
      have CX8 := Lib.hid (CX7.out.gk K8.out)
      have EX8 := Lib.hid (EX7.out.gk K8.out)
      have KK8 := Lib.hid (KK7.out.trans K8.out)
      have Z8 := CX8.out.sz
      clear O8' hx8 G8 O8 K8 
      have QB := Lib.hid (blk_all EX8.out.box)
      go_wp2_with (refine wpList_load_val rfl 25 _ rfl g5 _ rfl C QB.out _ Tryd.underlying25 rfl HSC.out ?_)
      refine (IH.out l[i] (List.getElem_mem hlt) W8 C (n + m + 1 + (quoted ks[i]).length + 1) (xs ++ bv (pre ++ [44] ++ quoted ks[i] ++ [58])) X A8 c8 EX8.out.rd HFX.out O8x.out (.inl (by omega)) CX8.out.sz (by omega) (by rw [List.append_assoc, ← bv_append]; exact pre_of HPR.out (by rw [HEL.out]; exact ⟨[], by simp⟩)) CX8.out.laid).mono ?_
      rintro e W9 ⟨A9, c9, rfl, o9, g9⟩
      have hx9 : xs ++ bv (pre ++ [44] ++ quoted ks[i] ++ [58]) ++ bv (prV l[i]) = xs ++ bv (prE true true (l.take (i + 1)) ks) := by rw [List.append_assoc, ← bv_append, HEL.out]
      rw [hx9] at o9
      have hna : n + m + 1 + (quoted ks[i]).length + 1 + (prV l[i]).length = n + (m + 1 + (quoted ks[i]).length + 1 + (prV l[i]).length) := by omega
      rw [hna] at o9
      have O9 := Lib.hid o9
      have KK9 := Lib.hid (KK8.out.trans g9)
      have hm9 : Hid (m + 1 + (quoted ks[i]).length + 1 + (prV l[i]).length = (prE true true (l.take (i + 1)) ks).length) := by
        refine Lib.hid ?_
        rw [HEL.out, hm.out]
        simp only [List.length_append, List.length_cons, List.length_nil]
        try omega
      have CX9 := Lib.hid (CX8.out.gk g9)
      clear o9 g9 hx9
      go_wp2_with fail
      go_roundw
      case rel => exact ⟨i + 1, m + 1 + (quoted ks[i]).length + 1 + (prV l[i]).length, A9, c9, by omega, by go_num, by rw [← hna], hm9.out, O9.out, KK9.out⟩
      case measure => simp [intOf]; omega
end Go.Proofs.YtnkfkicabgajmaaDoor
