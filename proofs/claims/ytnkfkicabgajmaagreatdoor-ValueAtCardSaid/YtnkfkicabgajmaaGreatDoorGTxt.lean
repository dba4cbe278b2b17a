/-
  Txt, Txt2, in one text (merge.py).
-/
import Derived.Test.YtnkfkicabgajmaaGreatDoorGQuo
import Derived.Test.YtnkfkicabgajmaaGreatDoorGCmp
import Derived.Laws.BytesString

/-
  CONTRACT of value.appendElements. Written by gen_txt.py.
-/
namespace Go.Proofs.YtnkfkicabgajmaaGreatDoor
set_option linter.unusedSimpArgs false
set_option linter.unusedVariables false
open Go Go.RowKit

theorem bv_snoc1 (xs : List Value) (T : List UInt8) (b : UInt8) (z : Int) (h : z = (b.toNat : Nat)) : xs ++ bv T ++ [.int .u8 z] = xs ++ bv (T ++ [b]) := by
  rw [bv_append, List.append_assoc, h]
  rfl
/-- The text of one element, with what stands ahead. -/
def elT (obj first : Bool) (k : List UInt8) (v : V) : List UInt8 := (if first then [] else [44]) ++ ((if obj then quoted k ++ [58] else []) ++ prV v)
theorem prE_take (obj : Bool) : ∀ (l : List V) (ks : List (List UInt8)) (first : Bool) (i : Nat) (h : i < l.length), prE obj first (l.take (i + 1)) ks = prE obj first (l.take i) ks ++ elT obj (first && i == 0) ((ks.drop i).headD []) l[i]
  | v :: l, ks, first, 0, h => by
    simp only [List.take_succ_cons, List.take_zero, prE, elT, List.drop_zero, List.getElem_cons_zero, List.nil_append, List.append_nil, BEq.rfl, Bool.and_true, List.append_assoc]
  | v :: l, ks, first, i + 1, h => by
    have ih := prE_take obj l ks.tail false i (by simpa using h)
    rw [List.take_succ_cons, prE, ih]
    rw [List.take_succ_cons, prE]
    have e1 : (false && i == 0) = false := rfl
    have e2 : (first && (i + 1 == 0)) = false := by simp
    rw [e1, e2, List.drop_tail, List.getElem_cons_succ]
    simp only [List.append_assoc]
theorem prE_pre (obj : Bool) : ∀ (l : List V) (ks : List (List UInt8)) (first : Bool) (i : Nat), prE obj first (l.take i) ks <+: prE obj first l ks
  | [], _, _, i => by simp [prE]
  | v :: l, ks, first, 0 => by rw [List.take_zero, prE]; exact List.nil_prefix
  | v :: l, ks, first, i + 1 => by
    rw [List.take_succ_cons, prE, prE]
    exact List.prefix_append_right_inj _ |>.2 (prE_pre obj l ks.tail false i)
/-- What is carried while a value is printed. -/
structure Cx (base g : Nat) (D : Nat → Prop) (k n : Int) (t : List UInt8) (l : List V) (ks : List (List UInt8)) (Al : Option Addr) (cl : Nat) (Ak : Option Addr) (ck : Nat) (css : List (Array Value)) (W : World) : Prop where
  box : Blk W g 25 (vcs k n t Al l.length cl Ak ks.length ck)
  vp : VP D W k n t l ks Al cl Ak ck css
  laid : LaidOk W
  sz : base ≤ W.heap.size
  b8 : 8 ≤ base
  dlt : ∀ b, D b → b < base
theorem Cx.gk {base g : Nat} {D : Nat → Prop} {k n : Int} {t : List UInt8} {l : List V} {ks : List (List UInt8)} {Al Ak : Option Addr} {cl ck : Nat} {css : List (Array Value)} {W W' : World} {X : List Value} (h : Cx base g D k n t l ks Al cl Ak ck css W) (hk : GK 5 base X W W') : Cx base g D k n t l ks Al cl Ak ck css W' :=
  ⟨h.box.gu hk.1 (by decide), h.vp.fr hk.1.old (fun b hb e => by have := h.dlt b hb; omega), h.laid.fr hk.1.old (fun q hq e => by have := h.b8; omega), Nat.le_trans h.sz hk.1.lt, h.b8, h.dlt⟩
/-- An element in its box. -/
structure Ex (base g : Nat) (D : Nat → Prop) (C : Array Value) (x : V) (W : World) : Prop where
  box : Blk W g 25 C
  rd : RdV D W C x
  dlt : ∀ b, D b → b < base
theorem Ex.gk {base g : Nat} {D : Nat → Prop} {C : Array Value} {x : V} {W W' : World} {X : List Value} (h : Ex base g D C x W) (hk : GK 5 base X W W') : Ex base g D C x W' :=
  ⟨h.box.gu hk.1 (by decide), h.rd.fr hk.1.old (fun b hb e => by have := h.dlt b hb; omega), h.dlt⟩
abbrev TxtIH (base : Nat) (D : Nat → Prop) (l : List V) : Prop := ∀ (x : V), x ∈ l → ∀ (W : World) (C : Array Value) (n : Nat) (xs X : List Value) (A : Option Addr) (c : Nat), RdV D W C x → fieldsV x = true → W.ownsRow base 5 1 (.slice A n c) n xs → (0 < n ∨ Value.slice A n c = .slice none 0 0) → base ≤ W.heap.size → n + (prV x).length ≤ 140737488354000 → xs ++ bv (prV x) <+: X → LaidOk W →
  Calls Tryz.prog 73 #[.slice A n c, .agg C] W (AppQ base n xs (prV x) X W)
theorem headD_drop (ks : List (List UInt8)) (i : Nat) (h : i < ks.length) : (ks.drop i).headD [] = ks[i] := by
  rw [List.drop_eq_getElem_cons h]; rfl
set_option maxRecDepth 100000 in
set_option maxHeartbeats 4000000 in
theorem elems5_c (w : World) (base n : Nat) (xs X : List Value) (A : Option Addr) (c : Nat) {D : Nat → Prop} {nn : Int} {t : List UInt8} {l : List V} {ks : List (List UInt8)} {Al Ak : Option Addr} {cl ck : Nat} {css : List (Array Value)}
    (hp : VP D w 5 nn t l ks Al cl Ak ck css) (hdl : ∀ b, D b → b < base) (hfs : fieldss l = true) (hown : w.ownsRow base 5 1 (.slice A n c) n xs) (hn0 : 0 < n) (hbase : base ≤ w.heap.size) (h8 : 8 ≤ base)
    (hn : n + (prE false true l ks).length ≤ 140737488354000) (hX : xs ++ bv (prE false true l ks) <+: X) (hL : LaidOk w) (ih : TxtIH base D l) :
    Calls Tryz.prog 92 #[.slice A n c, .agg (vcs 5 nn t Al l.length cl Ak ks.length ck)] w (AppQ base n xs (prE false true l ks) X w) := by
  obtain ⟨i0, hi0, hz0', hz1', hz2'⟩ := info_parts u8_info
  have HI0 := Lib.hid hi0
  have OW := Lib.hid hown
  have HX := Lib.hid hX
  have HP := Lib.hid hp
  have HL := Lib.hid hL
  have IH := Lib.hid ih
  have HFS := Lib.hid hfs
  have HDL := Lib.hid hdl
  have hbl := hp.b.ll
  have hbk := hp.b.kl
  clear hi0 hown hX hp hL ih hfs hdl
  go_enter Tryz.func92, Tryz.ntmps92
  go_upto_region 1 with fail
  refine abs_world (fun W => Hid (Blk W w.heap.size 25 (vcs 5 nn t Al l.length cl Ak ks.length ck)) ∧ Hid (Fr (fun _ => False) w W)) ⟨Blk.new w _ _, (Fr.refl _ w).alloc _⟩ ?_
  rintro W1 ⟨B1, F1⟩
  have CX1 : Hid (Cx base w.heap.size D 5 nn t l ks Al cl Ak ck css W1) := Lib.hid ⟨B1.out, HP.out.far F1.out, HL.out.far F1.out, Nat.le_trans hbase F1.out.size, h8, HDL.out⟩
  have O1 := Lib.hid (own_fr OW.out F1.out (fun _ _ h => h))
  have K1 : Hid (GK 5 base X w W1) := Lib.hid (GK.far F1.out)
  generalize w.heap.size = g at *
  have c3 : W1.cell? ⟨g, 3, none⟩ = some (.slice Al l.length cl) := CX1.out.box.cell 3
  clear HP HL OW B1
  go_wp2_with fail
  clear c3
  go_loopw [0, 10] (fun ov iv wr => ∃ (i m : Nat) (A2 : Option Addr) (c2 : Nat), i ≤ l.length ∧ iv = .int .i64 (i : Int) ∧ ov = .slice A2 (n + m) c2 ∧ Hid (m = (prE false true (l.take i) ks).length) ∧ Hid (wr.ownsRow base 5 1 (.slice A2 (n + m) c2) (n + m) (xs ++ bv (prE false true (l.take i) ks))) ∧ Hid (GK 5 base X W1 wr)) (fun _ iv _ => l.length - (intOf iv).toNat)
  case atStart => exact ⟨0, 0, A, c, Nat.zero_le _, rfl, rfl, rfl, (by refine Lib.hid ?_; simpa [prE, bv] using O1.out), GK.refl _ _ _ _⟩
  case round =>
    obtain ⟨i, m, A2, c2, hi, rfl, rfl, hm, ho, hk⟩ := hrel
    by_cases hlt : i < l.length
    case neg =>
      obtain rfl : i = l.length := by omega
      have hd1 : decide ((l.length : Int) < (l.length : Int)) = false := decide_eq_false (by omega)
      have hd1' : decide (l.length < l.length) = false := decide_eq_false (by omega)
      have htk : l.take l.length = l := List.take_length
      rw [htk] at ho hm
      clear htk hd1'
      go_wp2_with fail
      go_ret
      refine ⟨A2, c2, ret_slice (by rw [hm.out]), ?_, K1.out.trans hk.out⟩
      have h := ho.out
      rw [hm.out] at h
      exact h
    have hd1 : decide ((i : Int) < (l.length : Int)) = true := decide_eq_true (by omega)
    have hd1' : decide (i < l.length) = true := decide_eq_true hlt
    obtain ⟨b, off, C, hA, -, hrv, hrg, h5⟩ := (CX1.out.gk hk.out).vp.at_ hlt
    subst hA
    have hel := prE_take false l ks true i hlt
    have hpl := (prE_pre false l ks true (i + 1)).length_le
    have hqp := pre_of HX.out (prE_pre false l ks true (i + 1))
    have HPR := Lib.hid hqp
    have HFX := Lib.hid (fieldss_mem HFS.out l[i] (List.getElem_mem hlt))
    have CXr := Lib.hid (CX1.out.gk hk.out)
    have HRV := Lib.hid hrv
    have HG := Lib.hid hrg
    have HSC := Lib.hid (szV hrv)
    have HO := Lib.hid (oneV hrv)
    have H5 := Lib.hid h5
    obtain ⟨pre, hpre⟩ : ∃ pre, prE false true (l.take i) ks = pre := ⟨_, rfl⟩
    rw [hpre] at hel hm ho
    clear hrv hrg h5 hqp hpre
    rcases Nat.eq_zero_or_pos i with hi0 | hi0
    · have he : prE false true (l.take (i + 1)) ks = pre ++ prV l[i] := by
        rw [hel]
        unfold elT
        rw [show (true && (i == 0)) = true by simp; omega]
        simp only [Bool.and_true, Bool.and_false, Bool.false_eq_true, if_true, if_false, List.nil_append, List.append_assoc, List.cons_append, BEq.rfl]
      have HEL := Lib.hid he
      have hlen : m + (prV l[i]).length ≤ (prE false true l ks).length := by
        have h1 := hpl
        rw [he] at h1
        have := hm.out
        simp only [List.length_append, List.length_cons, List.length_nil] at h1
        omega
      have dpos : decide (0 < (i : Int)) = false := decide_eq_false (by omega)
      have dpos' : decide (0 < i) = false := decide_eq_false (by omega)
      clear hel he hpl
      clear hi0
      go_upto_region 4 with (first
        | (refine wpList_load_val rfl 25 _ rfl b _ rfl C HG.out _ Tryz.underlying25 rfl HSC.out ?_)
        | (refine wpList_store_blk rfl 25 _ _ rfl wr.heap.size C rfl rfl (Blk.new wr 25 _) H5.out HSC.out HO.out ?_
           intro W5 q5 f5
           have F5 := Lib.hid (((Fr.refl (fun _ => False) wr).alloc _).trans f5 (fun i hi h => by have : i = wr.heap.size := h; omega))
           have Q5 := Lib.hid q5
           clear q5 f5))
      have K5 : Hid (GK 5 base X W1 W5) := Lib.hid (hk.out.trans (GK.far F5.out))
      have CX5 := Lib.hid (CXr.out.gk (GK.far (t := 5) (X := X) F5.out))
      have EX5 : Hid (Ex base wr.heap.size D C l[i] W5) := Lib.hid ⟨Q5.out, HRV.out.far F5.out, HDL.out⟩
      have O5 := Lib.hid (own_fr ho.out F5.out (fun _ _ h => h))
      have Z5 := CX5.out.sz
      clear Q5 F5 HRV HG CXr ho hk
      generalize wr.heap.size = g5 at *
      have y0 : W5.cell? ⟨g, 0, none⟩ = some (.int .i64 5) := CX5.out.box.cell 0
      have QB := Lib.hid (blk_all EX5.out.box)
      go_wp2_with (refine wpList_load_val rfl 25 _ rfl g5 _ rfl C QB.out _ Tryz.underlying25 rfl HSC.out ?_)
      refine (IH.out l[i] (List.getElem_mem hlt) W5 C (n + m) (xs ++ bv (pre)) X A2 c2 EX5.out.rd HFX.out O5.out (.inl (by omega)) CX5.out.sz (by omega) (by rw [List.append_assoc, ← bv_append]; exact pre_of HPR.out (by rw [HEL.out]; exact ⟨[], by simp⟩)) CX5.out.laid).mono ?_
      rintro e W9 ⟨A9, c9, rfl, o9, g9⟩
      have hx9 : xs ++ bv (pre) ++ bv (prV l[i]) = xs ++ bv (prE false true (l.take (i + 1)) ks) := by rw [List.append_assoc, ← bv_append, HEL.out]
      rw [hx9] at o9
      have hna : n + m + (prV l[i]).length = n + (m + (prV l[i]).length) := by omega
      rw [hna] at o9
      have O9 := Lib.hid o9
      have KK9 := Lib.hid (K5.out.trans g9)
      have hm9 : Hid (m + (prV l[i]).length = (prE false true (l.take (i + 1)) ks).length) := by
        refine Lib.hid ?_
        rw [HEL.out, hm.out]
        simp only [List.length_append, List.length_cons, List.length_nil]
        try omega
      have CX9 := Lib.hid (CX5.out.gk g9)
      clear o9 g9 hx9
      go_wp2_with fail
      go_roundw
      case rel => exact ⟨i + 1, m + (prV l[i]).length, A9, c9, by omega, by go_num, by rw [← hna], hm9.out, O9.out, KK9.out⟩
      case measure => simp [intOf]; omega
    · have he : prE false true (l.take (i + 1)) ks = pre ++ [44] ++ prV l[i] := by
        rw [hel]
        unfold elT
        rw [show (true && (i == 0)) = false by simp; omega]
        simp only [Bool.and_true, Bool.and_false, Bool.false_eq_true, if_true, if_false, List.nil_append, List.append_assoc, List.cons_append, BEq.rfl]
      have HEL := Lib.hid he
      have hlen : m + 1 + (prV l[i]).length ≤ (prE false true l ks).length := by
        have h1 := hpl
        rw [he] at h1
        have := hm.out
        simp only [List.length_append, List.length_cons, List.length_nil] at h1
        omega
      have dpos : decide (0 < (i : Int)) = true := decide_eq_true (by omega)
      have dpos' : decide (0 < i) = true := decide_eq_true (by omega)
      clear hel he hpl
      go_upto_region 4 with (first
        | (refine wpList_load_val rfl 25 _ rfl b _ rfl C HG.out _ Tryz.underlying25 rfl HSC.out ?_)
        | (refine wpList_store_blk rfl 25 _ _ rfl wr.heap.size C rfl rfl (Blk.new wr 25 _) H5.out HSC.out HO.out ?_
           intro W5 q5 f5
           have F5 := Lib.hid (((Fr.refl (fun _ => False) wr).alloc _).trans f5 (fun i hi h => by have : i = wr.heap.size := h; omega))
           have Q5 := Lib.hid q5
           clear q5 f5))
      have K5 : Hid (GK 5 base X W1 W5) := Lib.hid (hk.out.trans (GK.far F5.out))
      have CX5 := Lib.hid (CXr.out.gk (GK.far (t := 5) (X := X) F5.out))
      have EX5 : Hid (Ex base wr.heap.size D C l[i] W5) := Lib.hid ⟨Q5.out, HRV.out.far F5.out, HDL.out⟩
      have O5 := Lib.hid (own_fr ho.out F5.out (fun _ _ h => h))
      have Z5 := CX5.out.sz
      clear Q5 F5 HRV HG CXr ho hk
      generalize wr.heap.size = g5 at *
      go_upto_region 6 with (first
        | (at_builtin
           refine wpList_appK rfl _ _ _ _ rfl base 5 i0 _ 1 Tryz.underlying79 HI0.out hz0' hz1' hz2' rfl (.slice A2 (n + m) c2) (n + m) (xs ++ bv (pre)) rfl (own_al O5.out _) (.inl (by omega)) _ 1 [.int .u8 44] rfl (src1 W5 44) (by omega) (by unfold maxLen; omega) (by rw [World.size_alloc]; omega) ?_
           intro v6 W6 o6 g6
           obtain ⟨A6, c6, rfl, -, -⟩ := own_slice o6
           have O6 := Lib.hid o6
           have G6 := Lib.hid g6
           clear o6 g6))
      have hx6 : xs ++ bv (pre) ++ [.int .u8 44] = xs ++ bv (pre ++ [44]) := bv_snoc1 xs (pre) 44 44 rfl
      have K6 : Hid (GK 5 base X W5 W6) := Lib.hid (G6.out X (by rw [hx6]; exact pre_of HPR.out (by rw [HEL.out]; exact ⟨prV l[i], by simp⟩))).alloc1
      have O6' := O6.out
      rw [hx6] at O6'
      have O6x := Lib.hid O6'
      have CX6 := Lib.hid (CX5.out.gk K6.out)
      have EX6 := Lib.hid (EX5.out.gk K6.out)
      have KK6 := Lib.hid (K5.out.trans K6.out)
      have Z6 := CX6.out.sz
      clear O6' hx6 G6 O6 K6 
      have y0 : W6.cell? ⟨g, 0, none⟩ = some (.int .i64 5) := CX6.out.box.cell 0
      have QB := Lib.hid (blk_all EX6.out.box)
      go_wp2_with (refine wpList_load_val rfl 25 _ rfl g5 _ rfl C QB.out _ Tryz.underlying25 rfl HSC.out ?_)
      refine (IH.out l[i] (List.getElem_mem hlt) W6 C (n + m + 1) (xs ++ bv (pre ++ [44])) X A6 c6 EX6.out.rd HFX.out O6x.out (.inl (by omega)) CX6.out.sz (by omega) (by rw [List.append_assoc, ← bv_append]; exact pre_of HPR.out (by rw [HEL.out]; exact ⟨[], by simp⟩)) CX6.out.laid).mono ?_
      rintro e W9 ⟨A9, c9, rfl, o9, g9⟩
      have hx9 : xs ++ bv (pre ++ [44]) ++ bv (prV l[i]) = xs ++ bv (prE false true (l.take (i + 1)) ks) := by rw [List.append_assoc, ← bv_append, HEL.out]
      rw [hx9] at o9
      have hna : n + m + 1 + (prV l[i]).length = n + (m + 1 + (prV l[i]).length) := by omega
      rw [hna] at o9
      have O9 := Lib.hid o9
      have KK9 := Lib.hid (KK6.out.trans g9)
      have hm9 : Hid (m + 1 + (prV l[i]).length = (prE false true (l.take (i + 1)) ks).length) := by
        refine Lib.hid ?_
        rw [HEL.out, hm.out]
        simp only [List.length_append, List.length_cons, List.length_nil]
        try omega
      have CX9 := Lib.hid (CX6.out.gk g9)
      clear o9 g9 hx9
      go_wp2_with fail
      go_roundw
      case rel => exact ⟨i + 1, m + 1 + (prV l[i]).length, A9, c9, by omega, by go_num, by rw [← hna], hm9.out, O9.out, KK9.out⟩
      case measure => simp [intOf]; omega
set_option maxRecDepth 100000 in
set_option maxHeartbeats 4000000 in
theorem elems6_c (w : World) (base n : Nat) (xs X : List Value) (A : Option Addr) (c : Nat) {D : Nat → Prop} {nn : Int} {t : List UInt8} {l : List V} {ks : List (List UInt8)} {Al Ak : Option Addr} {cl ck : Nat} {css : List (Array Value)}
    (hp : VP D w 6 nn t l ks Al cl Ak ck css) (hdl : ∀ b, D b → b < base) (hkl : ks.length = l.length) (hfs : fieldss l = true) (hown : w.ownsRow base 5 1 (.slice A n c) n xs) (hn0 : 0 < n) (hbase : base ≤ w.heap.size) (h8 : 8 ≤ base)
    (hn : n + (prE true true l ks).length ≤ 140737488354000) (hX : xs ++ bv (prE true true l ks) <+: X) (hL : LaidOk w) (ih : TxtIH base D l) :
    Calls Tryz.prog 92 #[.slice A n c, .agg (vcs 6 nn t Al l.length cl Ak ks.length ck)] w (AppQ base n xs (prE true true l ks) X w) := by
  obtain ⟨i0, hi0, hz0', hz1', hz2'⟩ := info_parts u8_info
  have HI0 := Lib.hid hi0
  have OW := Lib.hid hown
  have HX := Lib.hid hX
  have HP := Lib.hid hp
  have HL := Lib.hid hL
  have IH := Lib.hid ih
  have HFS := Lib.hid hfs
  have HDL := Lib.hid hdl
  have hbl := hp.b.ll
  have hbk := hp.b.kl
  have HKL := Lib.hid hkl
  clear hi0 hown hX hp hL ih hfs hdl hkl
  go_enter Tryz.func92, Tryz.ntmps92
  go_upto_region 1 with fail
  refine abs_world (fun W => Hid (Blk W w.heap.size 25 (vcs 6 nn t Al l.length cl Ak ks.length ck)) ∧ Hid (Fr (fun _ => False) w W)) ⟨Blk.new w _ _, (Fr.refl _ w).alloc _⟩ ?_
  rintro W1 ⟨B1, F1⟩
  have CX1 : Hid (Cx base w.heap.size D 6 nn t l ks Al cl Ak ck css W1) := Lib.hid ⟨B1.out, HP.out.far F1.out, HL.out.far F1.out, Nat.le_trans hbase F1.out.size, h8, HDL.out⟩
  have O1 := Lib.hid (own_fr OW.out F1.out (fun _ _ h => h))
  have K1 : Hid (GK 5 base X w W1) := Lib.hid (GK.far F1.out)
  generalize w.heap.size = g at *
  have c3 : W1.cell? ⟨g, 3, none⟩ = some (.slice Al l.length cl) := CX1.out.box.cell 3
  clear HP HL OW B1
  go_wp2_with fail
  clear c3
  go_loopw [0, 10] (fun ov iv wr => ∃ (i m : Nat) (A2 : Option Addr) (c2 : Nat), i ≤ l.length ∧ iv = .int .i64 (i : Int) ∧ ov = .slice A2 (n + m) c2 ∧ Hid (m = (prE true true (l.take i) ks).length) ∧ Hid (wr.ownsRow base 5 1 (.slice A2 (n + m) c2) (n + m) (xs ++ bv (prE true true (l.take i) ks))) ∧ Hid (GK 5 base X W1 wr)) (fun _ iv _ => l.length - (intOf iv).toNat)
  case atStart => exact ⟨0, 0, A, c, Nat.zero_le _, rfl, rfl, rfl, (by refine Lib.hid ?_; simpa [prE, bv] using O1.out), GK.refl _ _ _ _⟩
  case round =>
    obtain ⟨i, m, A2, c2, hi, rfl, rfl, hm, ho, hk⟩ := hrel
    by_cases hlt : i < l.length
    case neg =>
      obtain rfl : i = l.length := by omega
      have hd1 : decide ((l.length : Int) < (l.length : Int)) = false := decide_eq_false (by omega)
      have hd1' : decide (l.length < l.length) = false := decide_eq_false (by omega)
      have htk : l.take l.length = l := List.take_length
      rw [htk] at ho hm
      clear htk hd1'
      go_wp2_with fail
      go_ret
      refine ⟨A2, c2, ret_slice (by rw [hm.out]), ?_, K1.out.trans hk.out⟩
      have h := ho.out
      rw [hm.out] at h
      exact h
    have hd1 : decide ((i : Int) < (l.length : Int)) = true := decide_eq_true (by omega)
    have hd1' : decide (i < l.length) = true := decide_eq_true hlt
    have hki : i < ks.length := by rw [HKL.out]; exact hlt
    obtain ⟨q, qo, hAk, -⟩ := CX1.out.vp.key hki
    subst hAk
    obtain ⟨b, off, C, hA, -, hrv, hrg, h5⟩ := (CX1.out.gk hk.out).vp.at_ hlt
    subst hA
    have hel := prE_take true l ks true i hlt
    have hpl := (prE_pre true l ks true (i + 1)).length_le
    have hqp := pre_of HX.out (prE_pre true l ks true (i + 1))
    rw [headD_drop ks i hki] at hel
    have HPR := Lib.hid hqp
    have HFX := Lib.hid (fieldss_mem HFS.out l[i] (List.getElem_mem hlt))
    have CXr := Lib.hid (CX1.out.gk hk.out)
    have HRV := Lib.hid hrv
    have HG := Lib.hid hrg
    have HSC := Lib.hid (szV hrv)
    have HO := Lib.hid (oneV hrv)
    have H5 := Lib.hid h5
    obtain ⟨pre, hpre⟩ : ∃ pre, prE true true (l.take i) ks = pre := ⟨_, rfl⟩
    rw [hpre] at hel hm ho
    clear hrv hrg h5 hqp hpre
    rcases Nat.eq_zero_or_pos i with hi0 | hi0
    · have he : prE true true (l.take (i + 1)) ks = pre ++ quoted ks[i] ++ [58] ++ prV l[i] := by
        rw [hel]
        unfold elT
        rw [show (true && (i == 0)) = true by simp; omega]
        simp only [Bool.and_true, Bool.and_false, Bool.false_eq_true, if_true, if_false, List.nil_append, List.append_assoc, List.cons_append, BEq.rfl]
      have HEL := Lib.hid he
      have hlen : m + ((quoted ks[i]).length + 1) + (prV l[i]).length ≤ (prE true true l ks).length := by
        have h1 := hpl
        rw [he] at h1
        have := hm.out
        simp only [List.length_append, List.length_cons, List.length_nil] at h1
        omega
      have dpos : decide (0 < (i : Int)) = false := decide_eq_false (by omega)
      have dpos' : decide (0 < i) = false := decide_eq_false (by omega)
      clear hel he hpl
      clear hi0
      go_upto_region 4 with (first
        | (refine wpList_load_val rfl 25 _ rfl b _ rfl C HG.out _ Tryz.underlying25 rfl HSC.out ?_)
        | (refine wpList_store_blk rfl 25 _ _ rfl wr.heap.size C rfl rfl (Blk.new wr 25 _) H5.out HSC.out HO.out ?_
           intro W5 q5 f5
           have F5 := Lib.hid (((Fr.refl (fun _ => False) wr).alloc _).trans f5 (fun i hi h => by have : i = wr.heap.size := h; omega))
           have Q5 := Lib.hid q5
           clear q5 f5))
      have K5 : Hid (GK 5 base X W1 W5) := Lib.hid (hk.out.trans (GK.far F5.out))
      have CX5 := Lib.hid (CXr.out.gk (GK.far (t := 5) (X := X) F5.out))
      have EX5 : Hid (Ex base wr.heap.size D C l[i] W5) := Lib.hid ⟨Q5.out, HRV.out.far F5.out, HDL.out⟩
      have O5 := Lib.hid (own_fr ho.out F5.out (fun _ _ h => h))
      have Z5 := CX5.out.sz
      clear Q5 F5 HRV HG CXr ho hk
      generalize wr.heap.size = g5 at *
      have y0 : W5.cell? ⟨g, 0, none⟩ = some (.int .i64 6) := CX5.out.box.cell 0
      have y4 : W5.cell? ⟨g, 4, none⟩ = some (.slice (some ⟨q, qo, none⟩) ks.length ck) := CX5.out.box.cell 4
      have yk : W5.cell? ⟨q, qo + i, none⟩ = some (.string (strOf ks[i])) := by have h := CX5.out.vp.kr; rw [h.cell hki, strs_get ks i hki]
      have ik : (0 : Int) ≤ (i : Int) ∧ (i : Int) < (ks.length : Int) := by omega
      have yk0 := yk
      go_wp2_with fail
      refine (quoted_c W5 base (n + m) (xs ++ bv (pre)) X A2 c2 ks[i] O5.out (.inl (by omega)) CX5.out.sz (by omega) (by rw [List.append_assoc, ← bv_append]; exact pre_of HPR.out (by rw [HEL.out]; exact ⟨[58] ++ prV l[i], by simp⟩))).mono ?_
      rintro e W7 ⟨A7, c7, rfl, o7, g7⟩
      rw [List.append_assoc, ← bv_append] at o7
      have O7x := Lib.hid o7
      have CX7 := Lib.hid (CX5.out.gk g7)
      have EX7 := Lib.hid (EX5.out.gk g7)
      have KK7 := Lib.hid (K5.out.trans g7)
      have Z7 := CX7.out.sz
      clear o7 g7 y0 y4 yk ik
      go_upto_region 8 with (first
        | (at_builtin
           refine wpList_appK rfl _ _ _ _ rfl base 5 i0 _ 1 Tryz.underlying79 HI0.out hz0' hz1' hz2' rfl (.slice A7 (n + m + (quoted ks[i]).length) c7) (n + m + (quoted ks[i]).length) (xs ++ bv (pre ++ quoted ks[i])) rfl (own_al O7x.out _) (.inl (by omega)) _ 1 [.int .u8 58] rfl (src1 W7 58) (by omega) (by unfold maxLen; omega) (by rw [World.size_alloc]; omega) ?_
           intro v8 W8 o8 g8
           obtain ⟨A8, c8, rfl, -, -⟩ := own_slice o8
           have O8 := Lib.hid o8
           have G8 := Lib.hid g8
           clear o8 g8))
      have hx8 : xs ++ bv (pre ++ quoted ks[i]) ++ [.int .u8 58] = xs ++ bv (pre ++ quoted ks[i] ++ [58]) := bv_snoc1 xs (pre ++ quoted ks[i]) 58 58 rfl
      have K8 : Hid (GK 5 base X W7 W8) := Lib.hid (G8.out X (by rw [hx8]; exact pre_of HPR.out (by rw [HEL.out]; exact ⟨prV l[i], by simp⟩))).alloc1
      have O8' := O8.out
      rw [hx8] at O8'
      have O8x := Lib.hid O8'
      have CX8 := Lib.hid (CX7.out.gk K8.out)
      have EX8 := Lib.hid (EX7.out.gk K8.out)
      have KK8 := Lib.hid (KK7.out.trans K8.out)
      have Z8 := CX8.out.sz
      clear O8' hx8 G8 O8 K8 
      have QB := Lib.hid (blk_all EX8.out.box)
      go_wp2_with (refine wpList_load_val rfl 25 _ rfl g5 _ rfl C QB.out _ Tryz.underlying25 rfl HSC.out ?_)
      refine (IH.out l[i] (List.getElem_mem hlt) W8 C (n + m + (quoted ks[i]).length + 1) (xs ++ bv (pre ++ quoted ks[i] ++ [58])) X A8 c8 EX8.out.rd HFX.out O8x.out (.inl (by omega)) CX8.out.sz (by omega) (by rw [List.append_assoc, ← bv_append]; exact pre_of HPR.out (by rw [HEL.out]; exact ⟨[], by simp⟩)) CX8.out.laid).mono ?_
      rintro e W9 ⟨A9, c9, rfl, o9, g9⟩
      have hx9 : xs ++ bv (pre ++ quoted ks[i] ++ [58]) ++ bv (prV l[i]) = xs ++ bv (prE true true (l.take (i + 1)) ks) := by rw [List.append_assoc, ← bv_append, HEL.out]
      rw [hx9] at o9
      have hna : n + m + (quoted ks[i]).length + 1 + (prV l[i]).length = n + (m + (quoted ks[i]).length + 1 + (prV l[i]).length) := by omega
      rw [hna] at o9
      have O9 := Lib.hid o9
      have KK9 := Lib.hid (KK8.out.trans g9)
      have hm9 : Hid (m + (quoted ks[i]).length + 1 + (prV l[i]).length = (prE true true (l.take (i + 1)) ks).length) := by
        refine Lib.hid ?_
        rw [HEL.out, hm.out]
        simp only [List.length_append, List.length_cons, List.length_nil]
        try omega
      have CX9 := Lib.hid (CX8.out.gk g9)
      clear o9 g9 hx9
      go_wp2_with fail
      go_roundw
      case rel => exact ⟨i + 1, m + (quoted ks[i]).length + 1 + (prV l[i]).length, A9, c9, by omega, by go_num, by rw [← hna], hm9.out, O9.out, KK9.out⟩
      case measure => simp [intOf]; omega
    · have he : prE true true (l.take (i + 1)) ks = pre ++ [44] ++ quoted ks[i] ++ [58] ++ prV l[i] := by
        rw [hel]
        unfold elT
        rw [show (true && (i == 0)) = false by simp; omega]
        simp only [Bool.and_true, Bool.and_false, Bool.false_eq_true, if_true, if_false, List.nil_append, List.append_assoc, List.cons_append, BEq.rfl]
      have HEL := Lib.hid he
      have hlen : m + 1 + ((quoted ks[i]).length + 1) + (prV l[i]).length ≤ (prE true true l ks).length := by
        have h1 := hpl
        rw [he] at h1
        have := hm.out
        simp only [List.length_append, List.length_cons, List.length_nil] at h1
        omega
      have dpos : decide (0 < (i : Int)) = true := decide_eq_true (by omega)
      have dpos' : decide (0 < i) = true := decide_eq_true (by omega)
      clear hel he hpl
      go_upto_region 4 with (first
        | (refine wpList_load_val rfl 25 _ rfl b _ rfl C HG.out _ Tryz.underlying25 rfl HSC.out ?_)
        | (refine wpList_store_blk rfl 25 _ _ rfl wr.heap.size C rfl rfl (Blk.new wr 25 _) H5.out HSC.out HO.out ?_
           intro W5 q5 f5
           have F5 := Lib.hid (((Fr.refl (fun _ => False) wr).alloc _).trans f5 (fun i hi h => by have : i = wr.heap.size := h; omega))
           have Q5 := Lib.hid q5
           clear q5 f5))
      have K5 : Hid (GK 5 base X W1 W5) := Lib.hid (hk.out.trans (GK.far F5.out))
      have CX5 := Lib.hid (CXr.out.gk (GK.far (t := 5) (X := X) F5.out))
      have EX5 : Hid (Ex base wr.heap.size D C l[i] W5) := Lib.hid ⟨Q5.out, HRV.out.far F5.out, HDL.out⟩
      have O5 := Lib.hid (own_fr ho.out F5.out (fun _ _ h => h))
      have Z5 := CX5.out.sz
      clear Q5 F5 HRV HG CXr ho hk
      generalize wr.heap.size = g5 at *
      go_upto_region 6 with (first
        | (at_builtin
           refine wpList_appK rfl _ _ _ _ rfl base 5 i0 _ 1 Tryz.underlying79 HI0.out hz0' hz1' hz2' rfl (.slice A2 (n + m) c2) (n + m) (xs ++ bv (pre)) rfl (own_al O5.out _) (.inl (by omega)) _ 1 [.int .u8 44] rfl (src1 W5 44) (by omega) (by unfold maxLen; omega) (by rw [World.size_alloc]; omega) ?_
           intro v6 W6 o6 g6
           obtain ⟨A6, c6, rfl, -, -⟩ := own_slice o6
           have O6 := Lib.hid o6
           have G6 := Lib.hid g6
           clear o6 g6))
      have hx6 : xs ++ bv (pre) ++ [.int .u8 44] = xs ++ bv (pre ++ [44]) := bv_snoc1 xs (pre) 44 44 rfl
      have K6 : Hid (GK 5 base X W5 W6) := Lib.hid (G6.out X (by rw [hx6]; exact pre_of HPR.out (by rw [HEL.out]; exact ⟨quoted ks[i] ++ [58] ++ prV l[i], by simp⟩))).alloc1
      have O6' := O6.out
      rw [hx6] at O6'
      have O6x := Lib.hid O6'
      have CX6 := Lib.hid (CX5.out.gk K6.out)
      have EX6 := Lib.hid (EX5.out.gk K6.out)
      have KK6 := Lib.hid (K5.out.trans K6.out)
      have Z6 := CX6.out.sz
      clear O6' hx6 G6 O6 K6 
      have y0 : W6.cell? ⟨g, 0, none⟩ = some (.int .i64 6) := CX6.out.box.cell 0
      have y4 : W6.cell? ⟨g, 4, none⟩ = some (.slice (some ⟨q, qo, none⟩) ks.length ck) := CX6.out.box.cell 4
      have yk : W6.cell? ⟨q, qo + i, none⟩ = some (.string (strOf ks[i])) := by have h := CX6.out.vp.kr; rw [h.cell hki, strs_get ks i hki]
      have ik : (0 : Int) ≤ (i : Int) ∧ (i : Int) < (ks.length : Int) := by omega
      go_wp2_with fail
      refine (quoted_c W6 base (n + m + 1) (xs ++ bv (pre ++ [44])) X A6 c6 ks[i] O6x.out (.inl (by omega)) CX6.out.sz (by omega) (by rw [List.append_assoc, ← bv_append]; exact pre_of HPR.out (by rw [HEL.out]; exact ⟨[58] ++ prV l[i], by simp⟩))).mono ?_
      rintro e W7 ⟨A7, c7, rfl, o7, g7⟩
      rw [List.append_assoc, ← bv_append] at o7
      have O7x := Lib.hid o7
      have CX7 := Lib.hid (CX6.out.gk g7)
      have EX7 := Lib.hid (EX6.out.gk g7)
      have KK7 := Lib.hid (KK6.out.trans g7)
      have Z7 := CX7.out.sz
      clear o7 g7 y0 y4 yk ik
      go_upto_region 8 with (first
        | (at_builtin
           refine wpList_appK rfl _ _ _ _ rfl base 5 i0 _ 1 Tryz.underlying79 HI0.out hz0' hz1' hz2' rfl (.slice A7 (n + m + 1 + (quoted ks[i]).length) c7) (n + m + 1 + (quoted ks[i]).length) (xs ++ bv (pre ++ [44] ++ quoted ks[i])) rfl (own_al O7x.out _) (.inl (by omega)) _ 1 [.int .u8 58] rfl (src1 W7 58) (by omega) (by unfold maxLen; omega) (by rw [World.size_alloc]; omega) ?_
           intro v8 W8 o8 g8
           obtain ⟨A8, c8, rfl, -, -⟩ := own_slice o8
           have O8 := Lib.hid o8
           have G8 := Lib.hid g8
           clear o8 g8))
      have hx8 : xs ++ bv (pre ++ [44] ++ quoted ks[i]) ++ [.int .u8 58] = xs ++ bv (pre ++ [44] ++ quoted ks[i] ++ [58]) := bv_snoc1 xs (pre ++ [44] ++ quoted ks[i]) 58 58 rfl
      have K8 : Hid (GK 5 base X W7 W8) := Lib.hid (G8.out X (by rw [hx8]; exact pre_of HPR.out (by rw [HEL.out]; exact ⟨prV l[i], by simp⟩))).alloc1
      have O8' := O8.out
      rw [hx8] at O8'
      have O8x := Lib.hid O8'
      have CX8 := Lib.hid (CX7.out.gk K8.out)
      have EX8 := Lib.hid (EX7.out.gk K8.out)
      have KK8 := Lib.hid (KK7.out.trans K8.out)
      have Z8 := CX8.out.sz
      clear O8' hx8 G8 O8 K8 
      have QB := Lib.hid (blk_all EX8.out.box)
      go_wp2_with (refine wpList_load_val rfl 25 _ rfl g5 _ rfl C QB.out _ Tryz.underlying25 rfl HSC.out ?_)
      refine (IH.out l[i] (List.getElem_mem hlt) W8 C (n + m + 1 + (quoted ks[i]).length + 1) (xs ++ bv (pre ++ [44] ++ quoted ks[i] ++ [58])) X A8 c8 EX8.out.rd HFX.out O8x.out (.inl (by omega)) CX8.out.sz (by omega) (by rw [List.append_assoc, ← bv_append]; exact pre_of HPR.out (by rw [HEL.out]; exact ⟨[], by simp⟩)) CX8.out.laid).mono ?_
      rintro e W9 ⟨A9, c9, rfl, o9, g9⟩
      have hx9 : xs ++ bv (pre ++ [44] ++ quoted ks[i] ++ [58]) ++ bv (prV l[i]) = xs ++ bv (prE true true (l.take (i + 1)) ks) := by rw [List.append_assoc, ← bv_append, HEL.out]
      rw [hx9] at o9
      have hna : n + m + 1 + (quoted ks[i]).length + 1 + (prV l[i]).length = n + (m + 1 + (quoted ks[i]).length + 1 + (prV l[i]).length) := by omega
      rw [hna] at o9
      have O9 := Lib.hid o9
      have KK9 := Lib.hid (KK8.out.trans g9)
      have hm9 : Hid (m + 1 + (quoted ks[i]).length + 1 + (prV l[i]).length = (prE true true (l.take (i + 1)) ks).length) := by
        refine Lib.hid ?_
        rw [HEL.out, hm.out]
        simp only [List.length_append, List.length_cons, List.length_nil]
        try omega
      have CX9 := Lib.hid (CX8.out.gk g9)
      clear o9 g9 hx9
      go_wp2_with fail
      go_roundw
      case rel => exact ⟨i + 1, m + 1 + (quoted ks[i]).length + 1 + (prV l[i]).length, A9, c9, by omega, by go_num, by rw [← hna], hm9.out, O9.out, KK9.out⟩
      case measure => simp [intOf]; omega
end Go.Proofs.YtnkfkicabgajmaaGreatDoor

/-
  CONTRACTS of value.appendText, Print. Written by gen_txt2.py.
-/
namespace Go.Proofs.YtnkfkicabgajmaaGreatDoor
set_option linter.unusedSimpArgs false
set_option linter.unusedVariables false
open Go Go.RowKit

/-- What is known of the operations of '[' elements ']'. -/
def txX (base n e : Nat) (A : Option Addr) (c : Nat) (M : Array Value) (xs X1 X2 X3 : List Value) (bo bc : Int) (i : Nat) (v : Value) (W : World) : Prop := match i with
  | 0 => v = .slice A n c
  | 1 => ∃ q, v = .slice (some ⟨q, 0, none⟩) 1 1 ∧ Blk W q 5 #[.int .u8 bo]
  | 2 => ∃ A1 c1, v = .slice A1 (n + 1) c1 ∧ W.ownsRow base 5 1 (.slice A1 (n + 1) c1) (n + 1) X1
  | 3 => v = .agg M
  | 4 => ∃ A1 c1, v = .slice A1 (n + 1 + e) c1 ∧ W.ownsRow base 5 1 (.slice A1 (n + 1 + e) c1) (n + 1 + e) X2
  | 5 => ∃ q, v = .slice (some ⟨q, 0, none⟩) 1 1 ∧ Blk W q 5 #[.int .u8 bc]
  | 6 => ∃ A1 c1, v = .slice A1 (n + 1 + e + 1) c1 ∧ W.ownsRow base 5 1 (.slice A1 (n + 1 + e + 1) c1) (n + 1 + e + 1) X3
  | _ => True
theorem txX_far {base n e : Nat} {A : Option Addr} {c : Nat} {M : Array Value} {xs X1 X2 X3 X : List Value} {bo bc : Int} (h1 : X1 <+: X) (h2 : X2 <+: X) (h3 : X3 <+: X) {i : Nat} {v : Value} {W W' : World} (hg : GK 5 base X W W') (hx : txX base n e A c M xs X1 X2 X3 bo bc i v W) : txX base n e A c M xs X1 X2 X3 bo bc i v W' := by
  match i with
  | 0 => exact hx
  | 1 => obtain ⟨q, e, b⟩ := hx; exact ⟨q, e, b.gu1 hg.1 rfl⟩
  | 2 => obtain ⟨q, d, e, b⟩ := hx; exact ⟨q, d, e, hg.row h1 b⟩
  | 3 => exact hx
  | 4 => obtain ⟨q, d, e, b⟩ := hx; exact ⟨q, d, e, hg.row h2 b⟩
  | 5 => obtain ⟨q, e, b⟩ := hx; exact ⟨q, e, b.gu1 hg.1 rfl⟩
  | 6 => obtain ⟨q, d, e, b⟩ := hx; exact ⟨q, d, e, hg.row h3 b⟩
  | (n + 7) => exact hx
theorem src_b {W : World} {q : Nat} {x : Int} (h : Blk W q 5 #[.int .u8 x]) : Src Tryz.prog 1 79 (.slice (some ⟨q, 0, none⟩) 1 1) 1 [.int .u8 x] W :=
  Src.rd Tryz.underlying79 _ (Rd.of_blk h (Nat.le_refl _)) (by simp [Value.oneCell'])
theorem infoU : ∃ i0 : TypeInfo, Tryz.prog.info? 5 = some i0 ∧ i0.zero = some (.int .u8 0) ∧ i0.size = 1 ∧ i0.bytes = 1 := info_parts u8_info
theorem appB {W : World} {base n : Nat} {A : Option Addr} {c q : Nat} {xs : List Value} {x : Int} (ho : W.ownsRow base 5 1 (.slice A n c) n xs) (h0 : 0 < n ∨ Value.slice A n c = .slice none 0 0) (hb : Blk W q 5 #[.int .u8 x]) (hn : n ≤ 140737488354500) (hbase : base ≤ W.heap.size) (ty : TypeId) :
    ∃ A1 c1 W', (Builtin.append_ #[79, 79] ty #[.slice A n c, .slice (some ⟨q, 0, none⟩) 1 1]).run Tryz.prog W = .ok (.slice A1 (n + 1) c1) W' ∧ W'.ownsRow base 5 1 (.slice A1 (n + 1) c1) (n + 1) (xs ++ [.int .u8 x]) ∧ (∀ X, xs ++ [.int .u8 x] <+: X → GK 5 base X W W') := by
  obtain ⟨i0, hi, z0, z1, z2⟩ := infoU
  obtain ⟨v', W', hr, h2, h3⟩ := run_appK (P := Tryz.prog) W base 79 79 ty 5 i0 _ 1 Tryz.underlying79 hi z0 z1 z2 rfl _ n xs ho h0 _ 1 [.int .u8 x] (src_b hb) (by omega) (by unfold maxLen; omega) hbase
  obtain ⟨A1, c1, rfl, -, -⟩ := own_slice h2
  exact ⟨A1, c1, W', hr, h2, h3⟩
set_option maxRecDepth 100000 in
set_option maxHeartbeats 4000000 in
theorem text1_c (w : World) (base n : Nat) (xs X : List Value) (A : Option Addr) (c : Nat) {D : Nat → Prop} {nn : Int} {t : List UInt8} {l : List V} {ks : List (List UInt8)} {Al Ak : Option Addr} {cl ck : Nat} {css : List (Array Value)}
    (hp : VP D w 1 nn t l ks Al cl Ak ck css) (hdl : ∀ b, D b → b < base) (hown : w.ownsRow base 5 1 (.slice A n c) n xs) (hn0 : 0 < n ∨ Value.slice A n c = .slice none 0 0) (hbase : base ≤ w.heap.size) (h8 : 8 ≤ base)
    (hn : n + (tFalse).length ≤ 140737488354000) (hX : xs ++ bv (tFalse) <+: X) (hL : LaidOk w) :
    Calls Tryz.prog 73 #[.slice A n c, .agg (vcs 1 nn t Al l.length cl Ak ks.length ck)] w (AppQ base n xs (tFalse) X w) := by
  have OW := Lib.hid hown
  have H0 := Lib.hid hn0
  have HX := Lib.hid hX
  have HP := Lib.hid hp
  have HL := Lib.hid hL
  have HDL := Lib.hid hdl
  have HB := Lib.hid hp.b
  obtain ⟨i0, hi0, hz0', hz1', hz2'⟩ := info_parts u8_info
  have HI0 := Lib.hid hi0
  have SRC := Lib.hid (fun W : World => (Src.ofString W Tryz.underlying9 ⟨#[102, 97, 108, 115, 101]⟩ : Src Tryz.prog 1 9 (.string ⟨#[102, 97, 108, 115, 101]⟩) 5 (bv [102, 97, 108, 115, 101]) W))
  have hnl : n ≤ 140737488354000 := by omega
  clear hown hn0 hX hp hL hdl hi0 hn
  go_enter Tryz.func73, Tryz.ntmps73
  go_upto_region 1 with fail
  refine abs_world (fun W => Hid (Blk W w.heap.size 25 (vcs 1 nn t Al l.length cl Ak ks.length ck)) ∧ Hid (Fr (fun _ => False) w W)) ⟨Blk.new w _ _, (Fr.refl _ w).alloc _⟩ ?_
  rintro W1 ⟨B1, F1⟩
  have CX1 : Hid (Cx base w.heap.size D 1 nn t l ks Al cl Ak ck css W1) := Lib.hid ⟨B1.out, HP.out.far F1.out, HL.out.far F1.out, Nat.le_trans hbase F1.out.size, h8, HDL.out⟩
  have O1 := Lib.hid (own_fr OW.out F1.out (fun _ _ h => h))
  have K1 : Hid (GK 5 base X w W1) := Lib.hid (GK.far F1.out)
  generalize w.heap.size = g at *
  have c0 : W1.cell? ⟨g, 0, none⟩ = some (.int .i64 1) := CX1.out.box.cell 0
  have c1' : W1.cell? ⟨g, 1, none⟩ = some (.int .i64 nn) := CX1.out.box.cell 1
  have c2' : W1.cell? ⟨g, 2, none⟩ = some (.string (strOf t)) := CX1.out.box.cell 2
  have Z1 := CX1.out.sz
  clear HP HL OW B1
  go_wp2_with (
    at_builtin
    refine wpList_appK rfl _ _ _ _ rfl base 5 i0 _ 1 Tryz.underlying79 HI0.out hz0' hz1' hz2' rfl (.slice A n c) n xs rfl O1.out H0.out _ 5 (bv [102, 97, 108, 115, 101]) rfl (SRC.out _) (by omega) (by unfold maxLen; omega) Z1 ?_
    intro v3 W3 o3 g3
    obtain ⟨A3, c3, rfl, -, -⟩ := own_slice o3
    have O3 := Lib.hid o3
    have G3 := Lib.hid g3
    clear o3 g3)
  go_ret
  exact ⟨A3, c3, rfl, O3.out, K1.out.trans (G3.out X HX.out)⟩
set_option maxRecDepth 100000 in
set_option maxHeartbeats 4000000 in
theorem text2_c (w : World) (base n : Nat) (xs X : List Value) (A : Option Addr) (c : Nat) {D : Nat → Prop} {nn : Int} {t : List UInt8} {l : List V} {ks : List (List UInt8)} {Al Ak : Option Addr} {cl ck : Nat} {css : List (Array Value)}
    (hp : VP D w 2 nn t l ks Al cl Ak ck css) (hdl : ∀ b, D b → b < base) (hown : w.ownsRow base 5 1 (.slice A n c) n xs) (hn0 : 0 < n ∨ Value.slice A n c = .slice none 0 0) (hbase : base ≤ w.heap.size) (h8 : 8 ≤ base)
    (hn : n + (tTrue).length ≤ 140737488354000) (hX : xs ++ bv (tTrue) <+: X) (hL : LaidOk w) :
    Calls Tryz.prog 73 #[.slice A n c, .agg (vcs 2 nn t Al l.length cl Ak ks.length ck)] w (AppQ base n xs (tTrue) X w) := by
  have OW := Lib.hid hown
  have H0 := Lib.hid hn0
  have HX := Lib.hid hX
  have HP := Lib.hid hp
  have HL := Lib.hid hL
  have HDL := Lib.hid hdl
  have HB := Lib.hid hp.b
  obtain ⟨i0, hi0, hz0', hz1', hz2'⟩ := info_parts u8_info
  have HI0 := Lib.hid hi0
  have SRC := Lib.hid (fun W : World => (Src.ofString W Tryz.underlying9 ⟨#[116, 114, 117, 101]⟩ : Src Tryz.prog 1 9 (.string ⟨#[116, 114, 117, 101]⟩) 4 (bv [116, 114, 117, 101]) W))
  have hnl : n ≤ 140737488354000 := by omega
  clear hown hn0 hX hp hL hdl hi0 hn
  go_enter Tryz.func73, Tryz.ntmps73
  go_upto_region 1 with fail
  refine abs_world (fun W => Hid (Blk W w.heap.size 25 (vcs 2 nn t Al l.length cl Ak ks.length ck)) ∧ Hid (Fr (fun _ => False) w W)) ⟨Blk.new w _ _, (Fr.refl _ w).alloc _⟩ ?_
  rintro W1 ⟨B1, F1⟩
  have CX1 : Hid (Cx base w.heap.size D 2 nn t l ks Al cl Ak ck css W1) := Lib.hid ⟨B1.out, HP.out.far F1.out, HL.out.far F1.out, Nat.le_trans hbase F1.out.size, h8, HDL.out⟩
  have O1 := Lib.hid (own_fr OW.out F1.out (fun _ _ h => h))
  have K1 : Hid (GK 5 base X w W1) := Lib.hid (GK.far F1.out)
  generalize w.heap.size = g at *
  have c0 : W1.cell? ⟨g, 0, none⟩ = some (.int .i64 2) := CX1.out.box.cell 0
  have c1' : W1.cell? ⟨g, 1, none⟩ = some (.int .i64 nn) := CX1.out.box.cell 1
  have c2' : W1.cell? ⟨g, 2, none⟩ = some (.string (strOf t)) := CX1.out.box.cell 2
  have Z1 := CX1.out.sz
  clear HP HL OW B1
  go_wp2_with (
    at_builtin
    refine wpList_appK rfl _ _ _ _ rfl base 5 i0 _ 1 Tryz.underlying79 HI0.out hz0' hz1' hz2' rfl (.slice A n c) n xs rfl O1.out H0.out _ 4 (bv [116, 114, 117, 101]) rfl (SRC.out _) (by omega) (by unfold maxLen; omega) Z1 ?_
    intro v3 W3 o3 g3
    obtain ⟨A3, c3, rfl, -, -⟩ := own_slice o3
    have O3 := Lib.hid o3
    have G3 := Lib.hid g3
    clear o3 g3)
  go_ret
  exact ⟨A3, c3, rfl, O3.out, K1.out.trans (G3.out X HX.out)⟩
set_option maxRecDepth 100000 in
set_option maxHeartbeats 4000000 in
theorem text0_c (w : World) (base n : Nat) (xs X : List Value) (A : Option Addr) (c : Nat) {D : Nat → Prop} {nn : Int} {t : List UInt8} {l : List V} {ks : List (List UInt8)} {Al Ak : Option Addr} {cl ck : Nat} {css : List (Array Value)}
    (hp : VP D w 0 nn t l ks Al cl Ak ck css) (hdl : ∀ b, D b → b < base) (hown : w.ownsRow base 5 1 (.slice A n c) n xs) (hn0 : 0 < n ∨ Value.slice A n c = .slice none 0 0) (hbase : base ≤ w.heap.size) (h8 : 8 ≤ base)
    (hn : n + (tNull).length ≤ 140737488354000) (hX : xs ++ bv (tNull) <+: X) (hL : LaidOk w) :
    Calls Tryz.prog 73 #[.slice A n c, .agg (vcs 0 nn t Al l.length cl Ak ks.length ck)] w (AppQ base n xs (tNull) X w) := by
  have OW := Lib.hid hown
  have H0 := Lib.hid hn0
  have HX := Lib.hid hX
  have HP := Lib.hid hp
  have HL := Lib.hid hL
  have HDL := Lib.hid hdl
  have HB := Lib.hid hp.b
  obtain ⟨i0, hi0, hz0', hz1', hz2'⟩ := info_parts u8_info
  have HI0 := Lib.hid hi0
  have SRC := Lib.hid (fun W : World => (Src.ofString W Tryz.underlying9 ⟨#[110, 117, 108, 108]⟩ : Src Tryz.prog 1 9 (.string ⟨#[110, 117, 108, 108]⟩) 4 (bv [110, 117, 108, 108]) W))
  have hnl : n ≤ 140737488354000 := by omega
  clear hown hn0 hX hp hL hdl hi0 hn
  go_enter Tryz.func73, Tryz.ntmps73
  go_upto_region 1 with fail
  refine abs_world (fun W => Hid (Blk W w.heap.size 25 (vcs 0 nn t Al l.length cl Ak ks.length ck)) ∧ Hid (Fr (fun _ => False) w W)) ⟨Blk.new w _ _, (Fr.refl _ w).alloc _⟩ ?_
  rintro W1 ⟨B1, F1⟩
  have CX1 : Hid (Cx base w.heap.size D 0 nn t l ks Al cl Ak ck css W1) := Lib.hid ⟨B1.out, HP.out.far F1.out, HL.out.far F1.out, Nat.le_trans hbase F1.out.size, h8, HDL.out⟩
  have O1 := Lib.hid (own_fr OW.out F1.out (fun _ _ h => h))
  have K1 : Hid (GK 5 base X w W1) := Lib.hid (GK.far F1.out)
  generalize w.heap.size = g at *
  have c0 : W1.cell? ⟨g, 0, none⟩ = some (.int .i64 0) := CX1.out.box.cell 0
  have c1' : W1.cell? ⟨g, 1, none⟩ = some (.int .i64 nn) := CX1.out.box.cell 1
  have c2' : W1.cell? ⟨g, 2, none⟩ = some (.string (strOf t)) := CX1.out.box.cell 2
  have Z1 := CX1.out.sz
  clear HP HL OW B1
  go_wp2_with (
    at_builtin
    refine wpList_appK rfl _ _ _ _ rfl base 5 i0 _ 1 Tryz.underlying79 HI0.out hz0' hz1' hz2' rfl (.slice A n c) n xs rfl O1.out H0.out _ 4 (bv [110, 117, 108, 108]) rfl (SRC.out _) (by omega) (by unfold maxLen; omega) Z1 ?_
    intro v3 W3 o3 g3
    obtain ⟨A3, c3, rfl, -, -⟩ := own_slice o3
    have O3 := Lib.hid o3
    have G3 := Lib.hid g3
    clear o3 g3)
  go_ret
  exact ⟨A3, c3, rfl, O3.out, K1.out.trans (G3.out X HX.out)⟩
set_option maxRecDepth 100000 in
set_option maxHeartbeats 4000000 in
theorem text3_c (w : World) (base n : Nat) (xs X : List Value) (A : Option Addr) (c : Nat) {D : Nat → Prop} {nn : Int} {t : List UInt8} {l : List V} {ks : List (List UInt8)} {Al Ak : Option Addr} {cl ck : Nat} {css : List (Array Value)}
    (hp : VP D w 3 nn t l ks Al cl Ak ck css) (hdl : ∀ b, D b → b < base) (hown : w.ownsRow base 5 1 (.slice A n c) n xs) (hn0 : 0 < n ∨ Value.slice A n c = .slice none 0 0) (hbase : base ≤ w.heap.size) (h8 : 8 ≤ base)
    (hn : n + (decI nn).length ≤ 140737488354000) (hX : xs ++ bv (decI nn) <+: X) (hL : LaidOk w) :
    Calls Tryz.prog 73 #[.slice A n c, .agg (vcs 3 nn t Al l.length cl Ak ks.length ck)] w (AppQ base n xs (decI nn) X w) := by
  have OW := Lib.hid hown
  have H0 := Lib.hid hn0
  have HX := Lib.hid hX
  have HP := Lib.hid hp
  have HL := Lib.hid hL
  have HDL := Lib.hid hdl
  have HB := Lib.hid hp.b
  clear hown hn0 hX hp hL hdl
  go_enter Tryz.func73, Tryz.ntmps73
  go_upto_region 1 with fail
  refine abs_world (fun W => Hid (Blk W w.heap.size 25 (vcs 3 nn t Al l.length cl Ak ks.length ck)) ∧ Hid (Fr (fun _ => False) w W)) ⟨Blk.new w _ _, (Fr.refl _ w).alloc _⟩ ?_
  rintro W1 ⟨B1, F1⟩
  have CX1 : Hid (Cx base w.heap.size D 3 nn t l ks Al cl Ak ck css W1) := Lib.hid ⟨B1.out, HP.out.far F1.out, HL.out.far F1.out, Nat.le_trans hbase F1.out.size, h8, HDL.out⟩
  have O1 := Lib.hid (own_fr OW.out F1.out (fun _ _ h => h))
  have K1 : Hid (GK 5 base X w W1) := Lib.hid (GK.far F1.out)
  generalize w.heap.size = g at *
  have c0 : W1.cell? ⟨g, 0, none⟩ = some (.int .i64 3) := CX1.out.box.cell 0
  have c1' : W1.cell? ⟨g, 1, none⟩ = some (.int .i64 nn) := CX1.out.box.cell 1
  have c2' : W1.cell? ⟨g, 2, none⟩ = some (.string (strOf t)) := CX1.out.box.cell 2
  have Z1 := CX1.out.sz
  clear HP HL OW B1
  go_wp2_with fail
  refine (appendInt_c W1 base n xs X A c nn HB.out.n0 HB.out.n1 O1.out H0.out Z1 h8 (by omega) HX.out CX1.out.laid).mono ?_
  rintro e W3 ⟨A3, c3, rfl, o3, g3⟩
  have O3 := Lib.hid o3
  have G3 := Lib.hid (K1.out.trans g3)
  clear o3 g3
  go_wp2_with fail
  go_ret
  exact ⟨A3, c3, rfl, O3.out, G3.out⟩
set_option maxRecDepth 100000 in
set_option maxHeartbeats 4000000 in
theorem text4_c (w : World) (base n : Nat) (xs X : List Value) (A : Option Addr) (c : Nat) {D : Nat → Prop} {nn : Int} {t : List UInt8} {l : List V} {ks : List (List UInt8)} {Al Ak : Option Addr} {cl ck : Nat} {css : List (Array Value)}
    (hp : VP D w 4 nn t l ks Al cl Ak ck css) (hdl : ∀ b, D b → b < base) (hown : w.ownsRow base 5 1 (.slice A n c) n xs) (hn0 : 0 < n ∨ Value.slice A n c = .slice none 0 0) (hbase : base ≤ w.heap.size) (h8 : 8 ≤ base)
    (hn : n + (quoted t).length ≤ 140737488354000) (hX : xs ++ bv (quoted t) <+: X) (hL : LaidOk w) :
    Calls Tryz.prog 73 #[.slice A n c, .agg (vcs 4 nn t Al l.length cl Ak ks.length ck)] w (AppQ base n xs (quoted t) X w) := by
  have OW := Lib.hid hown
  have H0 := Lib.hid hn0
  have HX := Lib.hid hX
  have HP := Lib.hid hp
  have HL := Lib.hid hL
  have HDL := Lib.hid hdl
  have HB := Lib.hid hp.b
  clear hown hn0 hX hp hL hdl
  go_enter Tryz.func73, Tryz.ntmps73
  go_upto_region 1 with fail
  refine abs_world (fun W => Hid (Blk W w.heap.size 25 (vcs 4 nn t Al l.length cl Ak ks.length ck)) ∧ Hid (Fr (fun _ => False) w W)) ⟨Blk.new w _ _, (Fr.refl _ w).alloc _⟩ ?_
  rintro W1 ⟨B1, F1⟩
  have CX1 : Hid (Cx base w.heap.size D 4 nn t l ks Al cl Ak ck css W1) := Lib.hid ⟨B1.out, HP.out.far F1.out, HL.out.far F1.out, Nat.le_trans hbase F1.out.size, h8, HDL.out⟩
  have O1 := Lib.hid (own_fr OW.out F1.out (fun _ _ h => h))
  have K1 : Hid (GK 5 base X w W1) := Lib.hid (GK.far F1.out)
  generalize w.heap.size = g at *
  have c0 : W1.cell? ⟨g, 0, none⟩ = some (.int .i64 4) := CX1.out.box.cell 0
  have c1' : W1.cell? ⟨g, 1, none⟩ = some (.int .i64 nn) := CX1.out.box.cell 1
  have c2' : W1.cell? ⟨g, 2, none⟩ = some (.string (strOf t)) := CX1.out.box.cell 2
  have Z1 := CX1.out.sz
  clear HP HL OW B1
  go_wp2_with fail
  refine (quoted_c W1 base n xs X A c t O1.out H0.out Z1 (by omega) HX.out).mono ?_
  rintro e W3 ⟨A3, c3, rfl, o3, g3⟩
  have O3 := Lib.hid o3
  have G3 := Lib.hid (K1.out.trans g3)
  clear o3 g3
  go_wp2_with fail
  go_ret
  exact ⟨A3, c3, rfl, O3.out, G3.out⟩
set_option maxRecDepth 100000 in
set_option maxHeartbeats 4000000 in
theorem text5_c (w : World) (base n : Nat) (xs X : List Value) (A : Option Addr) (c : Nat) {D : Nat → Prop} {nn : Int} {t : List UInt8} {l : List V} {ks : List (List UInt8)} {Al Ak : Option Addr} {cl ck : Nat} {css : List (Array Value)}
    (hp : VP D w 5 nn t l ks Al cl Ak ck css) (hdl : ∀ b, D b → b < base) (hown : w.ownsRow base 5 1 (.slice A n c) n xs) (hn0 : 0 < n ∨ Value.slice A n c = .slice none 0 0) (hbase : base ≤ w.heap.size) (h8 : 8 ≤ base)
    (hn : n + (91 :: (prE false true l ks ++ [93])).length ≤ 140737488354000) (hX : xs ++ bv (91 :: (prE false true l ks ++ [93])) <+: X) (hL : LaidOk w) (hfs : fieldss l = true) (ih : TxtIH base D l) :
    Calls Tryz.prog 73 #[.slice A n c, .agg (vcs 5 nn t Al l.length cl Ak ks.length ck)] w (AppQ base n xs (91 :: (prE false true l ks ++ [93])) X w) := by
  have OW := Lib.hid hown
  have H0 := Lib.hid hn0
  have HX := Lib.hid hX
  have HP := Lib.hid hp
  have HL := Lib.hid hL
  have HDL := Lib.hid hdl
  have HB := Lib.hid hp.b
  have IH := Lib.hid ih
  have HFS := Lib.hid hfs
  have hlen : n + 1 + (prE false true l ks).length + 1 ≤ 140737488354000 := by
    simp only [List.length_cons, List.length_append, List.length_nil] at hn
    omega
  clear hown hn0 hX hp hL hdl hfs ih hn
  go_enter Tryz.func73, Tryz.ntmps73
  go_upto_region 1 with fail
  refine abs_world (fun W => Hid (Blk W w.heap.size 25 (vcs 5 nn t Al l.length cl Ak ks.length ck)) ∧ Hid (Fr (fun _ => False) w W)) ⟨Blk.new w _ _, (Fr.refl _ w).alloc _⟩ ?_
  rintro W1 ⟨B1, F1⟩
  have CX1 : Hid (Cx base w.heap.size D 5 nn t l ks Al cl Ak ck css W1) := Lib.hid ⟨B1.out, HP.out.far F1.out, HL.out.far F1.out, Nat.le_trans hbase F1.out.size, h8, HDL.out⟩
  have O1 := Lib.hid (own_fr OW.out F1.out (fun _ _ h => h))
  have K1 : Hid (GK 5 base X w W1) := Lib.hid (GK.far F1.out)
  generalize w.heap.size = g at *
  have c0 : W1.cell? ⟨g, 0, none⟩ = some (.int .i64 5) := CX1.out.box.cell 0
  have c1' : W1.cell? ⟨g, 1, none⟩ = some (.int .i64 nn) := CX1.out.box.cell 1
  have c2' : W1.cell? ⟨g, 2, none⟩ = some (.string (strOf t)) := CX1.out.box.cell 2
  have Z1 := CX1.out.sz
  clear HP HL OW B1
  go_upto_region 11 with fail
  obtain ⟨pe, hpe⟩ : ∃ pe, prE false true l ks = pe := ⟨_, rfl⟩
  have HPE := Lib.hid hpe
  rw [hpe] at HX hlen
  clear hpe c0 c1' c2'
  have HLEN := Lib.hid hlen
  have P1 : Hid (xs ++ bv [91] <+: X) := Lib.hid (pre_of HX.out ⟨pe ++ [93], by simp⟩)
  have P2 : Hid (xs ++ bv (91 :: pe) <+: X) := Lib.hid (pre_of HX.out ⟨[93], by simp⟩)
  have P0 : Hid (xs <+: X) := Lib.hid ((List.prefix_append _ _).trans HX.out)
  have HW1 : Hid (∀ W, GK 5 base X W1.drew W → GK 5 base X W1 W) := fun W h => (GK.far ((Fr.refl (fun _ => False) W1).drew)).trans h
  obtain ⟨M, hM⟩ : ∃ M, vcs 5 nn t Al l.length cl Ak ks.length ck = M := ⟨_, rfl⟩
  have HM := Lib.hid hM
  have HSM : Hid ((Tryz.prog.info? 25).map (·.size) = some M.size) := Lib.hid (by rw [← hM]; exact lw5)
  clear hM
  refine (wpIn_wide (n := 9)).1 ?_
  refine wpIn_region_factsG (ms := [0, 0, 3, 0, 15, 0, 63, 127]) (k := 7) (GK 5 base X) (txX base n pe.length A c M xs (xs ++ bv [91]) (xs ++ bv (91 :: pe)) (xs ++ bv (91 :: (pe ++ [93]))) 91 93) (fun i v W => True) (by kernel_rfl) (by kernel_rfl) (GK.refl _ _ _ _) (fun a b c h1 h2 => h1.trans h2) (fun i v w w' hg hx => txX_far P1.out P2.out HX.out hg hx) ?walk
  case walk =>
  refine factWalkG_cons (fun W hW hf K hK => ?_) (fun x0 => ?_)
  · skip
    refine ⟨by kernel_rfl, ?_⟩
    gi_step
    exact hK _ _ (GK.refl _ _ _ _) rfl trivial
  simp only [Act.put, List.setIfInBounds_toArray, List.set_cons_succ, List.set_cons_zero]
  refine factWalkG_cons (fun W hW hf K hK => ?_) (fun x1 => ?_)
  · skip
    refine ⟨by kernel_rfl, ?_⟩
    gi_step
    exact hK _ _ (GK.far ((Fr.refl _ W).alloc _)) ⟨_, rfl, Blk.new W _ _⟩ trivial
  simp only [Act.put, List.setIfInBounds_toArray, List.set_cons_succ, List.set_cons_zero]
  refine factWalkG_cons (fun W hW hf K hK => ?_) (fun x2 => ?_)
  · skip
    have e0 : x0 = .slice A n c := hf 0 (by omega) (by kernel_rfl)
    obtain ⟨q1, e1, b1⟩ : ∃ q, x1 = .slice (some ⟨q, 0, none⟩) 1 1 ∧ Blk W q 5 #[.int .u8 91] := hf 1 (by omega) (by kernel_rfl)
    subst e0 e1
    have hG := HW1.out W hW
    obtain ⟨A1, k1, W2, hr, ho1, hgk⟩ := appB (hG.row P0.out O1.out) H0.out b1 (by omega) (Nat.le_trans Z1 hG.1.lt) 79
    refine ⟨by kernel_rfl, ?_⟩
    refine operIn_append rfl _ _ _ _ rfl _ _ rfl rfl hr ?_
    exact hK _ _ (hgk X P1.out) ⟨A1, k1, rfl, ho1⟩ trivial
  simp only [Act.put, List.setIfInBounds_toArray, List.set_cons_succ, List.set_cons_zero]
  refine factWalkG_cons (fun W hW hf K hK => ?_) (fun x3 => ?_)
  · skip
    have hG := HW1.out W hW
    have hbx := (CX1.out.gk hG).box
    rw [HM.out] at hbx
    have hld := load_val (P := Tryz.prog) W g 0 M (blk_all hbx) 25 _ Tryz.underlying25 rfl HSM.out
    refine ⟨by kernel_rfl, ?_⟩
    refine operIn_load 25 _ rfl _ rfl hld ?_
    exact hK _ _ (GK.refl _ _ _ _) rfl trivial
  simp only [Act.put, List.setIfInBounds_toArray, List.set_cons_succ, List.set_cons_zero]
  refine factWalkG_cons (fun W hW hf K hK => ?_) (fun x4 => ?_)
  · skip
    obtain ⟨A1, k1, e2, o1⟩ : ∃ A1 c1, x2 = .slice A1 (n + 1) c1 ∧ W.ownsRow base 5 1 (.slice A1 (n + 1) c1) (n + 1) (xs ++ bv [91]) := hf 2 (by omega) (by kernel_rfl)
    have e3 : x3 = .agg M := hf 3 (by omega) (by kernel_rfl)
    subst e2 e3
    have hG := HW1.out W hW
    have hcx := CX1.out.gk hG
    have hc := elems5_c W base (n + 1) (xs ++ bv [91]) X A1 k1 hcx.vp HDL.out HFS.out o1 (by omega) hcx.sz h8 (by rw [HPE.out]; omega) (by rw [HPE.out, List.append_assoc, ← bv_append]; exact P2.out) hcx.laid IH.out
    rw [HM.out, HPE.out] at hc
    refine ⟨by kernel_rfl, ?_⟩
    gi_step
    refine ⟨trivial, ?_⟩
    refine (callsIn_wide.2 hc).mono ?_
    rintro e W' ⟨A2, k2, rfl, o2, g2⟩
    dsimp only
    have hx : xs ++ bv [91] ++ bv pe = xs ++ bv (91 :: pe) := by rw [List.append_assoc, ← bv_append]; rfl
    rw [hx] at o2
    exact hK _ _ g2 ⟨A2, k2, rfl, o2⟩ trivial
  simp only [Act.put, List.setIfInBounds_toArray, List.set_cons_succ, List.set_cons_zero]
  refine factWalkG_cons (fun W hW hf K hK => ?_) (fun x5 => ?_)
  · skip
    refine ⟨by kernel_rfl, ?_⟩
    gi_step
    exact hK _ _ (GK.far ((Fr.refl _ W).alloc _)) ⟨_, rfl, Blk.new W _ _⟩ trivial
  simp only [Act.put, List.setIfInBounds_toArray, List.set_cons_succ, List.set_cons_zero]
  refine factWalkG_cons (fun W hW hf K hK => ?_) (fun x6 => ?_)
  · skip
    obtain ⟨A2, k2, e4, o2⟩ : ∃ A1 c1, x4 = .slice A1 (n + 1 + pe.length) c1 ∧ W.ownsRow base 5 1 (.slice A1 (n + 1 + pe.length) c1) (n + 1 + pe.length) (xs ++ bv (91 :: pe)) := hf 4 (by omega) (by kernel_rfl)
    obtain ⟨q2, e5, b2⟩ : ∃ q, x5 = .slice (some ⟨q, 0, none⟩) 1 1 ∧ Blk W q 5 #[.int .u8 93] := hf 5 (by omega) (by kernel_rfl)
    subst e4 e5
    have hG := HW1.out W hW
    obtain ⟨A3, k3, W2, hr, ho3, hgk⟩ := appB o2 (.inl (by omega)) b2 (by omega) (Nat.le_trans Z1 hG.1.lt) 79
    have hx : xs ++ bv (91 :: pe) ++ [.int .u8 93] = xs ++ bv (91 :: (pe ++ [93])) := bv_snoc1 xs (91 :: pe) 93 93 rfl
    refine ⟨by kernel_rfl, ?_⟩
    refine operIn_append rfl _ _ _ _ rfl _ _ rfl rfl hr ?_
    exact hK _ _ (hgk X (by rw [hx]; exact HX.out)) ⟨A3, k3, rfl, hx ▸ ho3⟩ trivial
  simp only [Act.put, List.setIfInBounds_toArray, List.set_cons_succ, List.set_cons_zero]
  refine factWalkG_nil (fun W hW hf hmet => ?_)
  obtain ⟨A3, k3, e6, o3⟩ : ∃ A1 c1, x6 = .slice A1 (n + 1 + pe.length + 1) c1 ∧ W.ownsRow base 5 1 (.slice A1 (n + 1 + pe.length + 1) c1) (n + 1 + pe.length + 1) (xs ++ bv (91 :: (pe ++ [93]))) := hf 6 (by omega)
  subst e6
  have G8 := Lib.hid (K1.out.trans (HW1.out W hW))
  have O3 := Lib.hid o3
  clear hf hmet hW o3
  change wpAnyIn _ _ _ _ _ _ 1 _ _ _
  refine wpAnyIn_ready (rs := [7]) (by kernel_rfl) (by simp) ?_
  refine AllReadyIn.cons rfl (fun K hK => ?_) AllReadyIn.nil
  go_simp
  refine hK _ _ ?_
  refine wpAnyIn_done (by kernel_rfl) ?_ _
  go_wp2_with fail
  go_ret
  have hl3 : n + 1 + pe.length + 1 = n + (91 :: (prE false true l ks ++ [93])).length := by rw [HPE.out]; simp; omega
  refine ⟨A3, k3, ret_slice hl3, ?_, G8.out⟩
  have h := O3.out
  rw [hl3, ← HPE.out] at h
  exact h
set_option maxRecDepth 100000 in
set_option maxHeartbeats 4000000 in
theorem text6_c (w : World) (base n : Nat) (xs X : List Value) (A : Option Addr) (c : Nat) {D : Nat → Prop} {nn : Int} {t : List UInt8} {l : List V} {ks : List (List UInt8)} {Al Ak : Option Addr} {cl ck : Nat} {css : List (Array Value)}
    (hp : VP D w 6 nn t l ks Al cl Ak ck css) (hdl : ∀ b, D b → b < base) (hown : w.ownsRow base 5 1 (.slice A n c) n xs) (hn0 : 0 < n ∨ Value.slice A n c = .slice none 0 0) (hbase : base ≤ w.heap.size) (h8 : 8 ≤ base)
    (hn : n + (123 :: (prE true true l ks ++ [125])).length ≤ 140737488354000) (hX : xs ++ bv (123 :: (prE true true l ks ++ [125])) <+: X) (hL : LaidOk w) (hkl : ks.length = l.length) (hfs : fieldss l = true) (ih : TxtIH base D l) :
    Calls Tryz.prog 73 #[.slice A n c, .agg (vcs 6 nn t Al l.length cl Ak ks.length ck)] w (AppQ base n xs (123 :: (prE true true l ks ++ [125])) X w) := by
  have OW := Lib.hid hown
  have H0 := Lib.hid hn0
  have HX := Lib.hid hX
  have HP := Lib.hid hp
  have HL := Lib.hid hL
  have HDL := Lib.hid hdl
  have HB := Lib.hid hp.b
  have IH := Lib.hid ih
  have HFS := Lib.hid hfs
  have HKL := Lib.hid hkl
  have hlen : n + 1 + (prE true true l ks).length + 1 ≤ 140737488354000 := by
    simp only [List.length_cons, List.length_append, List.length_nil] at hn
    omega
  clear hown hn0 hX hp hL hdl hfs ih hn hkl
  go_enter Tryz.func73, Tryz.ntmps73
  go_upto_region 1 with fail
  refine abs_world (fun W => Hid (Blk W w.heap.size 25 (vcs 6 nn t Al l.length cl Ak ks.length ck)) ∧ Hid (Fr (fun _ => False) w W)) ⟨Blk.new w _ _, (Fr.refl _ w).alloc _⟩ ?_
  rintro W1 ⟨B1, F1⟩
  have CX1 : Hid (Cx base w.heap.size D 6 nn t l ks Al cl Ak ck css W1) := Lib.hid ⟨B1.out, HP.out.far F1.out, HL.out.far F1.out, Nat.le_trans hbase F1.out.size, h8, HDL.out⟩
  have O1 := Lib.hid (own_fr OW.out F1.out (fun _ _ h => h))
  have K1 : Hid (GK 5 base X w W1) := Lib.hid (GK.far F1.out)
  generalize w.heap.size = g at *
  have c0 : W1.cell? ⟨g, 0, none⟩ = some (.int .i64 6) := CX1.out.box.cell 0
  have c1' : W1.cell? ⟨g, 1, none⟩ = some (.int .i64 nn) := CX1.out.box.cell 1
  have c2' : W1.cell? ⟨g, 2, none⟩ = some (.string (strOf t)) := CX1.out.box.cell 2
  have Z1 := CX1.out.sz
  clear HP HL OW B1
  go_upto_region 13 with fail
  obtain ⟨pe, hpe⟩ : ∃ pe, prE true true l ks = pe := ⟨_, rfl⟩
  have HPE := Lib.hid hpe
  rw [hpe] at HX hlen
  clear hpe c0 c1' c2'
  have HLEN := Lib.hid hlen
  have P1 : Hid (xs ++ bv [123] <+: X) := Lib.hid (pre_of HX.out ⟨pe ++ [125], by simp⟩)
  have P2 : Hid (xs ++ bv (123 :: pe) <+: X) := Lib.hid (pre_of HX.out ⟨[125], by simp⟩)
  have P0 : Hid (xs <+: X) := Lib.hid ((List.prefix_append _ _).trans HX.out)
  have HW1 : Hid (∀ W, GK 5 base X W1.drew W → GK 5 base X W1 W) := fun W h => (GK.far ((Fr.refl (fun _ => False) W1).drew)).trans h
  obtain ⟨M, hM⟩ : ∃ M, vcs 6 nn t Al l.length cl Ak ks.length ck = M := ⟨_, rfl⟩
  have HM := Lib.hid hM
  have HSM : Hid ((Tryz.prog.info? 25).map (·.size) = some M.size) := Lib.hid (by rw [← hM]; exact lw5)
  clear hM
  refine (wpIn_wide (n := 9)).1 ?_
  refine wpIn_region_factsG (ms := [0, 0, 3, 0, 15, 0, 63, 127]) (k := 7) (GK 5 base X) (txX base n pe.length A c M xs (xs ++ bv [123]) (xs ++ bv (123 :: pe)) (xs ++ bv (123 :: (pe ++ [125]))) 123 125) (fun i v W => True) (by kernel_rfl) (by kernel_rfl) (GK.refl _ _ _ _) (fun a b c h1 h2 => h1.trans h2) (fun i v w w' hg hx => txX_far P1.out P2.out HX.out hg hx) ?walk
  case walk =>
  refine factWalkG_cons (fun W hW hf K hK => ?_) (fun x0 => ?_)
  · skip
    refine ⟨by kernel_rfl, ?_⟩
    gi_step
    exact hK _ _ (GK.refl _ _ _ _) rfl trivial
  simp only [Act.put, List.setIfInBounds_toArray, List.set_cons_succ, List.set_cons_zero]
  refine factWalkG_cons (fun W hW hf K hK => ?_) (fun x1 => ?_)
  · skip
    refine ⟨by kernel_rfl, ?_⟩
    gi_step
    exact hK _ _ (GK.far ((Fr.refl _ W).alloc _)) ⟨_, rfl, Blk.new W _ _⟩ trivial
  simp only [Act.put, List.setIfInBounds_toArray, List.set_cons_succ, List.set_cons_zero]
  refine factWalkG_cons (fun W hW hf K hK => ?_) (fun x2 => ?_)
  · skip
    have e0 : x0 = .slice A n c := hf 0 (by omega) (by kernel_rfl)
    obtain ⟨q1, e1, b1⟩ : ∃ q, x1 = .slice (some ⟨q, 0, none⟩) 1 1 ∧ Blk W q 5 #[.int .u8 123] := hf 1 (by omega) (by kernel_rfl)
    subst e0 e1
    have hG := HW1.out W hW
    obtain ⟨A1, k1, W2, hr, ho1, hgk⟩ := appB (hG.row P0.out O1.out) H0.out b1 (by omega) (Nat.le_trans Z1 hG.1.lt) 79
    refine ⟨by kernel_rfl, ?_⟩
    refine operIn_append rfl _ _ _ _ rfl _ _ rfl rfl hr ?_
    exact hK _ _ (hgk X P1.out) ⟨A1, k1, rfl, ho1⟩ trivial
  simp only [Act.put, List.setIfInBounds_toArray, List.set_cons_succ, List.set_cons_zero]
  refine factWalkG_cons (fun W hW hf K hK => ?_) (fun x3 => ?_)
  · skip
    have hG := HW1.out W hW
    have hbx := (CX1.out.gk hG).box
    rw [HM.out] at hbx
    have hld := load_val (P := Tryz.prog) W g 0 M (blk_all hbx) 25 _ Tryz.underlying25 rfl HSM.out
    refine ⟨by kernel_rfl, ?_⟩
    refine operIn_load 25 _ rfl _ rfl hld ?_
    exact hK _ _ (GK.refl _ _ _ _) rfl trivial
  simp only [Act.put, List.setIfInBounds_toArray, List.set_cons_succ, List.set_cons_zero]
  refine factWalkG_cons (fun W hW hf K hK => ?_) (fun x4 => ?_)
  · skip
    obtain ⟨A1, k1, e2, o1⟩ : ∃ A1 c1, x2 = .slice A1 (n + 1) c1 ∧ W.ownsRow base 5 1 (.slice A1 (n + 1) c1) (n + 1) (xs ++ bv [123]) := hf 2 (by omega) (by kernel_rfl)
    have e3 : x3 = .agg M := hf 3 (by omega) (by kernel_rfl)
    subst e2 e3
    have hG := HW1.out W hW
    have hcx := CX1.out.gk hG
    have hc := elems6_c W base (n + 1) (xs ++ bv [123]) X A1 k1 hcx.vp HDL.out HKL.out HFS.out o1 (by omega) hcx.sz h8 (by rw [HPE.out]; omega) (by rw [HPE.out, List.append_assoc, ← bv_append]; exact P2.out) hcx.laid IH.out
    rw [HM.out, HPE.out] at hc
    refine ⟨by kernel_rfl, ?_⟩
    gi_step
    refine ⟨trivial, ?_⟩
    refine (callsIn_wide.2 hc).mono ?_
    rintro e W' ⟨A2, k2, rfl, o2, g2⟩
    dsimp only
    have hx : xs ++ bv [123] ++ bv pe = xs ++ bv (123 :: pe) := by rw [List.append_assoc, ← bv_append]; rfl
    rw [hx] at o2
    exact hK _ _ g2 ⟨A2, k2, rfl, o2⟩ trivial
  simp only [Act.put, List.setIfInBounds_toArray, List.set_cons_succ, List.set_cons_zero]
  refine factWalkG_cons (fun W hW hf K hK => ?_) (fun x5 => ?_)
  · skip
    refine ⟨by kernel_rfl, ?_⟩
    gi_step
    exact hK _ _ (GK.far ((Fr.refl _ W).alloc _)) ⟨_, rfl, Blk.new W _ _⟩ trivial
  simp only [Act.put, List.setIfInBounds_toArray, List.set_cons_succ, List.set_cons_zero]
  refine factWalkG_cons (fun W hW hf K hK => ?_) (fun x6 => ?_)
  · skip
    obtain ⟨A2, k2, e4, o2⟩ : ∃ A1 c1, x4 = .slice A1 (n + 1 + pe.length) c1 ∧ W.ownsRow base 5 1 (.slice A1 (n + 1 + pe.length) c1) (n + 1 + pe.length) (xs ++ bv (123 :: pe)) := hf 4 (by omega) (by kernel_rfl)
    obtain ⟨q2, e5, b2⟩ : ∃ q, x5 = .slice (some ⟨q, 0, none⟩) 1 1 ∧ Blk W q 5 #[.int .u8 125] := hf 5 (by omega) (by kernel_rfl)
    subst e4 e5
    have hG := HW1.out W hW
    obtain ⟨A3, k3, W2, hr, ho3, hgk⟩ := appB o2 (.inl (by omega)) b2 (by omega) (Nat.le_trans Z1 hG.1.lt) 79
    have hx : xs ++ bv (123 :: pe) ++ [.int .u8 125] = xs ++ bv (123 :: (pe ++ [125])) := bv_snoc1 xs (123 :: pe) 125 125 rfl
    refine ⟨by kernel_rfl, ?_⟩
    refine operIn_append rfl _ _ _ _ rfl _ _ rfl rfl hr ?_
    exact hK _ _ (hgk X (by rw [hx]; exact HX.out)) ⟨A3, k3, rfl, hx ▸ ho3⟩ trivial
  simp only [Act.put, List.setIfInBounds_toArray, List.set_cons_succ, List.set_cons_zero]
  refine factWalkG_nil (fun W hW hf hmet => ?_)
  obtain ⟨A3, k3, e6, o3⟩ : ∃ A1 c1, x6 = .slice A1 (n + 1 + pe.length + 1) c1 ∧ W.ownsRow base 5 1 (.slice A1 (n + 1 + pe.length + 1) c1) (n + 1 + pe.length + 1) (xs ++ bv (123 :: (pe ++ [125]))) := hf 6 (by omega)
  subst e6
  have G8 := Lib.hid (K1.out.trans (HW1.out W hW))
  have O3 := Lib.hid o3
  clear hf hmet hW o3
  change wpAnyIn _ _ _ _ _ _ 1 _ _ _
  refine wpAnyIn_ready (rs := [7]) (by kernel_rfl) (by simp) ?_
  refine AllReadyIn.cons rfl (fun K hK => ?_) AllReadyIn.nil
  go_simp
  refine hK _ _ ?_
  refine wpAnyIn_done (by kernel_rfl) ?_ _
  go_wp2_with fail
  go_ret
  have hl3 : n + 1 + pe.length + 1 = n + (123 :: (prE true true l ks ++ [125])).length := by rw [HPE.out]; simp; omega
  refine ⟨A3, k3, ret_slice hl3, ?_, G8.out⟩
  have h := O3.out
  rw [hl3, ← HPE.out] at h
  exact h
theorem text_c : ∀ (base : Nat) (D : Nat → Prop), 8 ≤ base → (∀ b, D b → b < base) → ∀ (v : V) (W : World) (C : Array Value) (n : Nat) (xs X : List Value) (A : Option Addr) (c : Nat), RdV D W C v → fieldsV v = true → W.ownsRow base 5 1 (.slice A n c) n xs → (0 < n ∨ Value.slice A n c = .slice none 0 0) → base ≤ W.heap.size → n + (prV v).length ≤ 140737488354000 → xs ++ bv (prV v) <+: X → LaidOk W →
    Calls Tryz.prog 73 #[.slice A n c, .agg C] W (AppQ base n xs (prV v) X W) := by
  intro base D h8 hdl v
  induction v using V.ind with
  | h k nn t l ks ih =>
    intro w C n xs X A c h hf ho h0 hb hn hX hL
    obtain ⟨k1, n1, t1, l1, ks1, Al, cl, Ak, ck, css, e, rfl, hp⟩ := h.inv
    injection e with e1 e2 e3 e4 e5
    subst e1 e2 e3 e4 e5
    obtain ⟨hu, -, -, hfs⟩ := fields_kids hf
    rw [uses_iff] at hu
    have IH : TxtIH base D l := fun x hx => ih x hx
    rw [prV] at hn hX ⊢
    have k06 : k = 0 ∨ k = 1 ∨ k = 2 ∨ k = 3 ∨ k = 4 ∨ k = 5 ∨ k = 6 := by have := hu.k0; have := hu.k6; omega
    rcases k06 with rfl | rfl | rfl | rfl | rfl | rfl | rfl
    · exact text0_c w base n xs X A c hp hdl ho h0 hb h8 hn hX hL
    · exact text1_c w base n xs X A c hp hdl ho h0 hb h8 hn hX hL
    · exact text2_c w base n xs X A c hp hdl ho h0 hb h8 hn hX hL
    · exact text3_c w base n xs X A c hp hdl ho h0 hb h8 hn hX hL
    · exact text4_c w base n xs X A c hp hdl ho h0 hb h8 hn hX hL
    · exact text5_c w base n xs X A c hp hdl ho h0 hb h8 hn hX hL hfs IH
    · exact text6_c w base n xs X A c hp hdl ho h0 hb h8 hn hX hL (hu.obj rfl) hfs IH
end Go.Proofs.YtnkfkicabgajmaaGreatDoor
