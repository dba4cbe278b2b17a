/-
  CONTRACTS of value.appendText, Print. Written by gen_txt2.py.
-/
import Derived.Test.YtnkfkicabgajmaaDoorTxt
import Derived.Laws.BytesString
namespace Go.Proofs.YtnkfkicabgajmaaDoor
set_option linter.unusedSimpArgs false
set_option linter.unusedVariables false
open Go Go.RowKit

/-- What is known of the operations of '[' elements ']'. -/
def txX (base n e : Nat) (A : Option Addr) (c : Nat) (M : Array Value) (xs X1 X2 X3 : List Value) (bo bc : Int) (i : Nat) (v : Value) (W : World) : Prop := match i with
  | 0 => v = .slice A n c
  | 1 => ∃ q, v = .slice (some ⟨q, 0, none⟩) 1 1 ∧ Blk W q 5 #[.int .u8 bo]
  | 2 => ∃ A1 c1, v = .slice A1 (n + 1) c1 ∧ W.ownsRow base 5 1 (.slice A1 (n + 1) c1) (n + 1) X1
  | 3 => v = .agg M
  | 4 => ∃ A1 c1, v = .slice A1 (n + 1 + e) c1 ∧ W.ownsRow base 5 1 (.slice A1 (n + 1 + e) c1) (n + 1 + e) X2
  | 5 => ∃ q, v = .slice (some ⟨q, 0, none⟩) 1 1 ∧ Blk W q 5 #[.int .u8 bc]
  | 6 => ∃ A1 c1, v = .slice A1 (n + 1 + e + 1) c1 ∧ W.ownsRow base 5 1 (.slice A1 (n + 1 + e + 1) c1) (n + 1 + e + 1) X3
  | _ => True
theorem txX_far {base n e : Nat} {A : Option Addr} {c : Nat} {M : Array Value} {xs X1 X2 X3 X : List Value} {bo bc : Int} (h1 : X1 <+: X) (h2 : X2 <+: X) (h3 : X3 <+: X) {i : Nat} {v : Value} {W W' : World} (hg : GK 5 base X W W') (hx : txX base n e A c M xs X1 X2 X3 bo bc i v W) : txX base n e A c M xs X1 X2 X3 bo bc i v W' := by
  match i with
  | 0 => exact hx
  | 1 => obtain ⟨q, e, b⟩ := hx; exact ⟨q, e, b.gu1 hg.1 rfl⟩
  | 2 => obtain ⟨q, d, e, b⟩ := hx; exact ⟨q, d, e, hg.row h1 b⟩
  | 3 => exact hx
  | 4 => obtain ⟨q, d, e, b⟩ := hx; exact ⟨q, d, e, hg.row h2 b⟩
  | 5 => obtain ⟨q, e, b⟩ := hx; exact ⟨q, e, b.gu1 hg.1 rfl⟩
  | 6 => obtain ⟨q, d, e, b⟩ := hx; exact ⟨q, d, e, hg.row h3 b⟩
  | (n + 7) => exact hx
theorem src_b {W : World} {q : Nat} {x : Int} (h : Blk W q 5 #[.int .u8 x]) : Src Tryd.prog 1 37 (.slice (some ⟨q, 0, none⟩) 1 1) 1 [.int .u8 x] W :=
  Src.rd Tryd.underlying37 _ (Rd.of_blk h (Nat.le_refl _)) (by simp [Value.oneCell'])
theorem infoU : ∃ i0 : TypeInfo, Tryd.prog.info? 5 = some i0 ∧ i0.zero = some (.int .u8 0) ∧ i0.size = 1 ∧ i0.bytes = 1 := info_parts u8_info
theorem appB {W : World} {base n : Nat} {A : Option Addr} {c q : Nat} {xs : List Value} {x : Int} (ho : W.ownsRow base 5 1 (.slice A n c) n xs) (h0 : 0 < n ∨ Value.slice A n c = .slice none 0 0) (hb : Blk W q 5 #[.int .u8 x]) (hn : n ≤ 140737488354500) (hbase : base ≤ W.heap.size) (ty : TypeId) :
    ∃ A1 c1 W', (Builtin.append_ #[37, 37] ty #[.slice A n c, .slice (some ⟨q, 0, none⟩) 1 1]).run Tryd.prog W = .ok (.slice A1 (n + 1) c1) W' ∧ W'.ownsRow base 5 1 (.slice A1 (n + 1) c1) (n + 1) (xs ++ [.int .u8 x]) ∧ (∀ X, xs ++ [.int .u8 x] <+: X → GK 5 base X W W') := by
  obtain ⟨i0, hi, z0, z1, z2⟩ := infoU
  obtain ⟨v', W', hr, h2, h3⟩ := run_appK (P := Tryd.prog) W base 37 37 ty 5 i0 _ 1 Tryd.underlying37 hi z0 z1 z2 rfl _ n xs ho h0 _ 1 [.int .u8 x] (src_b hb) (by omega) (by unfold maxLen; omega) hbase
  obtain ⟨A1, c1, rfl, -, -⟩ := own_slice h2
  exact ⟨A1, c1, W', hr, h2, h3⟩
set_option maxRecDepth 100000 in
set_option maxHeartbeats 4000000 in
theorem text1_c (w : World) (base n : Nat) (xs X : List Value) (A : Option Addr) (c : Nat) {D : Nat → Prop} {nn : Int} {t : List UInt8} {l : List V} {ks : List (List UInt8)} {Al Ak : Option Addr} {cl ck : Nat} {css : List (Array Value)}
    (hp : VP D w 1 nn t l ks Al cl Ak ck css) (hdl : ∀ b, D b → b < base) (hown : w.ownsRow base 5 1 (.slice A n c) n xs) (hn0 : 0 < n ∨ Value.slice A n c = .slice none 0 0) (hbase : base ≤ w.heap.size) (h8 : 8 ≤ base)
    (hn : n + (tFalse).length ≤ 140737488354000) (hX : xs ++ bv (tFalse) <+: X) (hL : LaidOk w) :
    Calls Tryd.prog 12 #[.slice A n c, .agg (vcs 1 nn t Al l.length cl Ak ks.length ck)] w (AppQ base n xs (tFalse) X w) := by
  have OW := Lib.hid hown
  have H0 := Lib.hid hn0
  have HX := Lib.hid hX
  have HP := Lib.hid hp
  have HL := Lib.hid hL
  have HDL := Lib.hid hdl
  have HB := Lib.hid hp.b
  obtain ⟨i0, hi0, hz0', hz1', hz2'⟩ := info_parts u8_info
  have HI0 := Lib.hid hi0
  have SRC := Lib.hid (fun W : World => (Src.ofString W Tryd.underlying9 ⟨#[102, 97, 108, 115, 101]⟩ : Src Tryd.prog 1 9 (.string ⟨#[102, 97, 108, 115, 101]⟩) 5 (bv [102, 97, 108, 115, 101]) W))
  have hnl : n ≤ 140737488354000 := by omega
  clear hown hn0 hX hp hL hdl hi0 hn
  go_enter Tryd.func12, Tryd.ntmps12
  go_upto_region 1 with fail
  refine abs_world (fun W => Hid (Blk W w.heap.size 25 (vcs 1 nn t Al l.length cl Ak ks.length ck)) ∧ Hid (Fr (fun _ => False) w W)) ⟨Blk.new w _ _, (Fr.refl _ w).alloc _⟩ ?_
  rintro W1 ⟨B1, F1⟩
  have CX1 : Hid (Cx base w.heap.size D 1 nn t l ks Al cl Ak ck css W1) := Lib.hid ⟨B1.out, HP.out.far F1.out, HL.out.far F1.out, Nat.le_trans hbase F1.out.size, h8, HDL.out⟩
  have O1 := Lib.hid (own_fr OW.out F1.out (fun _ _ h => h))
  have K1 : Hid (GK 5 base X w W1) := Lib.hid (GK.far F1.out)
  generalize w.heap.size = g at *
  have c0 : W1.cell? ⟨g, 0, none⟩ = some (.int .i64 1) := CX1.out.box.cell 0
  have c1' : W1.cell? ⟨g, 1, none⟩ = some (.int .i64 nn) := CX1.out.box.cell 1
  have c2' : W1.cell? ⟨g, 2, none⟩ = some (.string (strOf t)) := CX1.out.box.cell 2
  have Z1 := CX1.out.sz
  clear HP HL OW B1
  go_wp2_with (
    at_builtin
    refine wpList_appK rfl _ _ _ _ rfl base 5 i0 _ 1 Tryd.underlying37 HI0.out hz0' hz1' hz2' rfl (.slice A n c) n xs rfl O1.out H0.out _ 5 (bv [102, 97, 108, 115, 101]) rfl (SRC.out _) (by omega) (by unfold maxLen; omega) Z1 ?_
    intro v3 W3 o3 g3
    obtain ⟨A3, c3, rfl, -, -⟩ := own_slice o3
    have O3 := Lib.hid o3
    have G3 := Lib.hid g3
    clear o3 g3)
  go_ret
  exact ⟨A3, c3, rfl, O3.out, K1.out.trans (G3.out X HX.out)⟩
set_option maxRecDepth 100000 in
set_option maxHeartbeats 4000000 in
theorem text2_c (w : World) (base n : Nat) (xs X : List Value) (A : Option Addr) (c : Nat) {D : Nat → Prop} {nn : Int} {t : List UInt8} {l : List V} {ks : List (List UInt8)} {Al Ak : Option Addr} {cl ck : Nat} {css : List (Array Value)}
    (hp : VP D w 2 nn t l ks Al cl Ak ck css) (hdl : ∀ b, D b → b < base) (hown : w.ownsRow base 5 1 (.slice A n c) n xs) (hn0 : 0 < n ∨ Value.slice A n c = .slice none 0 0) (hbase : base ≤ w.heap.size) (h8 : 8 ≤ base)
    (hn : n + (tTrue).length ≤ 140737488354000) (hX : xs ++ bv (tTrue) <+: X) (hL : LaidOk w) :
    Calls Tryd.prog 12 #[.slice A n c, .agg (vcs 2 nn t Al l.length cl Ak ks.length ck)] w (AppQ base n xs (tTrue) X w) := by
  have OW := Lib.hid hown
  have H0 := Lib.hid hn0
  have HX := Lib.hid hX
  have HP := Lib.hid hp
  have HL := Lib.hid hL
  have HDL := Lib.hid hdl
  have HB := Lib.hid hp.b
  obtain ⟨i0, hi0, hz0', hz1', hz2'⟩ := info_parts u8_info
  have HI0 := Lib.hid hi0
  have SRC := Lib.hid (fun W : World => (Src.ofString W Tryd.underlying9 ⟨#[116, 114, 117, 101]⟩ : Src Tryd.prog 1 9 (.string ⟨#[116, 114, 117, 101]⟩) 4 (bv [116, 114, 117, 101]) W))
  have hnl : n ≤ 140737488354000 := by omega
  clear hown hn0 hX hp hL hdl hi0 hn
  go_enter Tryd.func12, Tryd.ntmps12
  go_upto_region 1 with fail
  refine abs_world (fun W => Hid (Blk W w.heap.size 25 (vcs 2 nn t Al l.length cl Ak ks.length ck)) ∧ Hid (Fr (fun _ => False) w W)) ⟨Blk.new w _ _, (Fr.refl _ w).alloc _⟩ ?_
  rintro W1 ⟨B1, F1⟩
  have CX1 : Hid (Cx base w.heap.size D 2 nn t l ks Al cl Ak ck css W1) := Lib.hid ⟨B1.out, HP.out.far F1.out, HL.out.far F1.out, Nat.le_trans hbase F1.out.size, h8, HDL.out⟩
  have O1 := Lib.hid (own_fr OW.out F1.out (fun _ _ h => h))
  have K1 : Hid (GK 5 base X w W1) := Lib.hid (GK.far F1.out)
  generalize w.heap.size = g at *
  have c0 : W1.cell? ⟨g, 0, none⟩ = some (.int .i64 2) := CX1.out.box.cell 0
  have c1' : W1.cell? ⟨g, 1, none⟩ = some (.int .i64 nn) := CX1.out.box.cell 1
  have c2' : W1.cell? ⟨g, 2, none⟩ = some (.string (strOf t)) := CX1.out.box.cell 2
  have Z1 := CX1.out.sz
  clear HP HL OW B1
  go_wp2_with (
    at_builtin
    refine wpList_appK rfl _ _ _ _ rfl base 5 i0 _ 1 Tryd.underlying37 HI0.out hz0' hz1' hz2' rfl (.slice A n c) n xs rfl O1.out H0.out _ 4 (bv [116, 114, 117, 101]) rfl (SRC.out _) (by omega) (by unfold maxLen; omega) Z1 ?_
    intro v3 W3 o3 g3
    obtain ⟨A3, c3, rfl, -, -⟩ := own_slice o3
    have O3 := Lib.hid o3
    have G3 := Lib.hid g3
    clear o3 g3)
  go_ret
  exact ⟨A3, c3, rfl, O3.out, K1.out.trans (G3.out X HX.out)⟩
set_option maxRecDepth 100000 in
set_option maxHeartbeats 4000000 in
theorem text0_c (w : World) (base n : Nat) (xs X : List Value) (A : Option Addr) (c : Nat) {D : Nat → Prop} {nn : Int} {t : List UInt8} {l : List V} {ks : List (List UInt8)} {Al Ak : Option Addr} {cl ck : Nat} {css : List (Array Value)}
    (hp : VP D w 0 nn t l ks Al cl Ak ck css) (hdl : ∀ b, D b → b < base) (hown : w.ownsRow base 5 1 (.slice A n c) n xs) (hn0 : 0 < n ∨ Value.slice A n c = .slice none 0 0) (hbase : base ≤ w.heap.size) (h8 : 8 ≤ base)
    (hn : n + (tNull).length ≤ 140737488354000) (hX : xs ++ bv (tNull) <+: X) (hL : LaidOk w) :
    Calls Tryd.prog 12 #[.slice A n c, .agg (vcs 0 nn t Al l.length cl Ak ks.length ck)] w (AppQ base n xs (tNull) X w) := by
  have OW := Lib.hid hown
  have H0 := Lib.hid hn0
  have HX := Lib.hid hX
  have HP := Lib.hid hp
  have HL := Lib.hid hL
  have HDL := Lib.hid hdl
  have HB := Lib.hid hp.b
  obtain ⟨i0, hi0, hz0', hz1', hz2'⟩ := info_parts u8_info
  have HI0 := Lib.hid hi0
  have SRC := Lib.hid (fun W : World => (Src.ofString W Tryd.underlying9 ⟨#[110, 117, 108, 108]⟩ : Src Tryd.prog 1 9 (.string ⟨#[110, 117, 108, 108]⟩) 4 (bv [110, 117, 108, 108]) W))
  have hnl : n ≤ 140737488354000 := by omega
  clear hown hn0 hX hp hL hdl hi0 hn
  go_enter Tryd.func12, Tryd.ntmps12
  go_upto_region 1 with fail
  refine abs_world (fun W => Hid (Blk W w.heap.size 25 (vcs 0 nn t Al l.length cl Ak ks.length ck)) ∧ Hid (Fr (fun _ => False) w W)) ⟨Blk.new w _ _, (Fr.refl _ w).alloc _⟩ ?_
  rintro W1 ⟨B1, F1⟩
  have CX1 : Hid (Cx base w.heap.size D 0 nn t l ks Al cl Ak ck css W1) := Lib.hid ⟨B1.out, HP.out.far F1.out, HL.out.far F1.out, Nat.le_trans hbase F1.out.size, h8, HDL.out⟩
  have O1 := Lib.hid (own_fr OW.out F1.out (fun _ _ h => h))
  have K1 : Hid (GK 5 base X w W1) := Lib.hid (GK.far F1.out)
  generalize w.heap.size = g at *
  have c0 : W1.cell? ⟨g, 0, none⟩ = some (.int .i64 0) := CX1.out.box.cell 0
  have c1' : W1.cell? ⟨g, 1, none⟩ = some (.int .i64 nn) := CX1.out.box.cell 1
  have c2' : W1.cell? ⟨g, 2, none⟩ = some (.string (strOf t)) := CX1.out.box.cell 2
  have Z1 := CX1.out.sz
  clear HP HL OW B1
  go_wp2_with (
    at_builtin
    refine wpList_appK rfl _ _ _ _ rfl base 5 i0 _ 1 Tryd.underlying37 HI0.out hz0' hz1' hz2' rfl (.slice A n c) n xs rfl O1.out H0.out _ 4 (bv [110, 117, 108, 108]) rfl (SRC.out _) (by omega) (by unfold maxLen; omega) Z1 ?_
    intro v3 W3 o3 g3
    obtain ⟨A3, c3, rfl, -, -⟩ := own_slice o3
    have O3 := Lib.hid o3
    have G3 := Lib.hid g3
    clear o3 g3)
  go_ret
  exact ⟨A3, c3, rfl, O3.out, K1.out.trans (G3.out X HX.out)⟩
set_option maxRecDepth 100000 in
set_option maxHeartbeats 4000000 in
theorem text3_c (w : World) (base n : Nat) (xs X : List Value) (A : Option Addr) (c : Nat) {D : Nat → Prop} {nn : Int} {t : List UInt8} {l : List V} {ks : List (List UInt8)} {Al Ak : Option Addr} {cl ck : Nat} {css : List (Array Value)}
    (hp : VP D w 3 nn t l ks Al cl Ak ck css) (hdl : ∀ b, D b → b < base) (hown : w.ownsRow base 5 1 (.slice A n c) n xs) (hn0 : 0 < n ∨ Value.slice A n c = .slice none 0 0) (hbase : base ≤ w.heap.size) (h8 : 8 ≤ base)
    (hn : n + (decI nn).length ≤ 140737488354000) (hX : xs ++ bv (decI nn) <+: X) (hL : LaidOk w) :
    Calls Tryd.prog 12 #[.slice A n c, .agg (vcs 3 nn t Al l.length cl Ak ks.length ck)] w (AppQ base n xs (decI nn) X w) := by
  have OW := Lib.hid hown
  have H0 := Lib.hid hn0
  have HX := Lib.hid hX
  have HP := Lib.hid hp
  have HL := Lib.hid hL
  have HDL := Lib.hid hdl
  have HB := Lib.hid hp.b
  clear hown hn0 hX hp hL hdl
  go_enter Tryd.func12, Tryd.ntmps12
  go_upto_region 1 with fail
  refine abs_world (fun W => Hid (Blk W w.heap.size 25 (vcs 3 nn t Al l.length cl Ak ks.length ck)) ∧ Hid (Fr (fun _ => False) w W)) ⟨Blk.new w _ _, (Fr.refl _ w).alloc _⟩ ?_
  rintro W1 ⟨B1, F1⟩
  have CX1 : Hid (Cx base w.heap.size D 3 nn t l ks Al cl Ak ck css W1) := Lib.hid ⟨B1.out, HP.out.far F1.out, HL.out.far F1.out, Nat.le_trans hbase F1.out.size, h8, HDL.out⟩
  have O1 := Lib.hid (own_fr OW.out F1.out (fun _ _ h => h))
  have K1 : Hid (GK 5 base X w W1) := Lib.hid (GK.far F1.out)
  generalize w.heap.size = g at *
  have c0 : W1.cell? ⟨g, 0, none⟩ = some (.int .i64 3) := CX1.out.box.cell 0
  have c1' : W1.cell? ⟨g, 1, none⟩ = some (.int .i64 nn) := CX1.out.box.cell 1
  have c2' : W1.cell? ⟨g, 2, none⟩ = some (.string (strOf t)) := CX1.out.box.cell 2
  have Z1 := CX1.out.sz
  clear HP HL OW B1
  go_wp2_with fail
  refine (appendInt_c W1 base n xs X A c nn HB.out.n0 HB.out.n1 O1.out H0.out Z1 h8 (by omega) HX.out CX1.out.laid).mono ?_
  rintro e W3 ⟨A3, c3, rfl, o3, g3⟩
  have O3 := Lib.hid o3
  have G3 := Lib.hid (K1.out.trans g3)
  clear o3 g3
  go_wp2_with fail
  go_ret
  exact ⟨A3, c3, rfl, O3.out, G3.out⟩
set_option maxRecDepth 100000 in
set_option maxHeartbeats 4000000 in
theorem text4_c (w : World) (base n : Nat) (xs X : List Value) (A : Option Addr) (c : Nat) {D : Nat → Prop} {nn : Int} {t : List UInt8} {l : List V} {ks : List (List UInt8)} {Al Ak : Option Addr} {cl ck : Nat} {css : List (Array Value)}
    (hp : VP D w 4 nn t l ks Al cl Ak ck css) (hdl : ∀ b, D b → b < base) (hown : w.ownsRow base 5 1 (.slice A n c) n xs) (hn0 : 0 < n ∨ Value.slice A n c = .slice none 0 0) (hbase : base ≤ w.heap.size) (h8 : 8 ≤ base)
    (hn : n + (quoted t).length ≤ 140737488354000) (hX : xs ++ bv (quoted t) <+: X) (hL : LaidOk w) :
    Calls Tryd.prog 12 #[.slice A n c, .agg (vcs 4 nn t Al l.length cl Ak ks.length ck)] w (AppQ base n xs (quoted t) X w) := by
  have OW := Lib.hid hown
  have H0 := Lib.hid hn0
  have HX := Lib.hid hX
  have HP := Lib.hid hp
  have HL := Lib.hid hL
  have HDL := Lib.hid hdl
  have HB := Lib.hid hp.b
  clear hown hn0 hX hp hL hdl
  go_enter Tryd.func12, Tryd.ntmps12
  go_upto_region 1 with fail
  refine abs_world (fun W => Hid (Blk W w.heap.size 25 (vcs 4 nn t Al l.length cl Ak ks.length ck)) ∧ Hid (Fr (fun _ => False) w W)) ⟨Blk.new w _ _, (Fr.refl _ w).alloc _⟩ ?_
  rintro W1 ⟨B1, F1⟩
  have CX1 : Hid (Cx base w.heap.size D 4 nn t l ks Al cl Ak ck css W1) := Lib.hid ⟨B1.out, HP.out.far F1.out, HL.out.far F1.out, Nat.le_trans hbase F1.out.size, h8, HDL.out⟩
  have O1 := Lib.hid (own_fr OW.out F1.out (fun _ _ h => h))
  have K1 : Hid (GK 5 base X w W1) := Lib.hid (GK.far F1.out)
  generalize w.heap.size = g at *
  have c0 : W1.cell? ⟨g, 0, none⟩ = some (.int .i64 4) := CX1.out.box.cell 0
  have c1' : W1.cell? ⟨g, 1, none⟩ = some (.int .i64 nn) := CX1.out.box.cell 1
  have c2' : W1.cell? ⟨g, 2, none⟩ = some (.string (strOf t)) := CX1.out.box.cell 2
  have Z1 := CX1.out.sz
  clear HP HL OW B1
  go_wp2_with fail
  refine (quoted_c W1 base n xs X A c t O1.out H0.out Z1 (by omega) HX.out).mono ?_
  rintro e W3 ⟨A3, c3, rfl, o3, g3⟩
  have O3 := Lib.hid o3
  have G3 := Lib.hid (K1.out.trans g3)
  clear o3 g3
  go_wp2_with fail
  go_ret
  exact ⟨A3, c3, rfl, O3.out, G3.out⟩
set_option maxRecDepth 100000 in
set_option maxHeartbeats 4000000 in
theorem text5_c (w : World) (base n : Nat) (xs X : List Value) (A : Option Addr) (c : Nat) {D : Nat → Prop} {nn : Int} {t : List UInt8} {l : List V} {ks : List (List UInt8)} {Al Ak : Option Addr} {cl ck : Nat} {css : List (Array Value)}
    (hp : VP D w 5 nn t l ks Al cl Ak ck css) (hdl : ∀ b, D b → b < base) (hown : w.ownsRow base 5 1 (.slice A n c) n xs) (hn0 : 0 < n ∨ Value.slice A n c = .slice none 0 0) (hbase : base ≤ w.heap.size) (h8 : 8 ≤ base)
    (hn : n + (91 :: (prE false true l ks ++ [93])).length ≤ 140737488354000) (hX : xs ++ bv (91 :: (prE false true l ks ++ [93])) <+: X) (hL : LaidOk w) (hfs : fieldss l = true) (ih : TxtIH base D l) :
    Calls Tryd.prog 12 #[.slice A n c, .agg (vcs 5 nn t Al l.length cl Ak ks.length ck)] w (AppQ base n xs (91 :: (prE false true l ks ++ [93])) X w) := by
  have OW := Lib.hid hown
  have H0 := Lib.hid hn0
  have HX := Lib.hid hX
  have HP := Lib.hid hp
  have HL := Lib.hid hL
  have HDL := Lib.hid hdl
  have HB := Lib.hid hp.b
  have IH := Lib.hid ih
  have HFS := Lib.hid hfs
  have hlen : n + 1 + (prE false true l ks).length + 1 ≤ 140737488354000 := by
    simp only [List.length_cons, List.length_append, List.length_nil] at hn
    omega
  clear hown hn0 hX hp hL hdl hfs ih hn
  go_enter Tryd.func12, Tryd.ntmps12
  go_upto_region 1 with fail
  refine abs_world (fun W => Hid (Blk W w.heap.size 25 (vcs 5 nn t Al l.length cl Ak ks.length ck)) ∧ Hid (Fr (fun _ => False) w W)) ⟨Blk.new w _ _, (Fr.refl _ w).alloc _⟩ ?_
  rintro W1 ⟨B1, F1⟩
  have CX1 : Hid (Cx base w.heap.size D 5 nn t l ks Al cl Ak ck css W1) := Lib.hid ⟨B1.out, HP.out.far F1.out, HL.out.far F1.out, Nat.le_trans hbase F1.out.size, h8, HDL.out⟩
  have O1 := Lib.hid (own_fr OW.out F1.out (fun _ _ h => h))
  have K1 : Hid (GK 5 base X w W1) := Lib.hid (GK.far F1.out)
  generalize w.heap.size = g at *
  have c0 : W1.cell? ⟨g, 0, none⟩ = some (.int .i64 5) := CX1.out.box.cell 0
  have c1' : W1.cell? ⟨g, 1, none⟩ = some (.int .i64 nn) := CX1.out.box.cell 1
  have c2' : W1.cell? ⟨g, 2, none⟩ = some (.string (strOf t)) := CX1.out.box.cell 2
  have Z1 := CX1.out.sz
  clear HP HL OW B1
  go_upto_region 11 with fail
  obtain ⟨pe, hpe⟩ : ∃ pe, prE false true l ks = pe := ⟨_, rfl⟩
  have HPE := Lib.hid hpe
  rw [hpe] at HX hlen
  clear hpe c0 c1' c2'
  have HLEN := Lib.hid hlen
  have P1 : Hid (xs ++ bv [91] <+: X) := Lib.hid (pre_of HX.out ⟨pe ++ [93], by simp⟩)
  have P2 : Hid (xs ++ bv (91 :: pe) <+: X) := Lib.hid (pre_of HX.out ⟨[93], by simp⟩)
  have P0 : Hid (xs <+: X) := Lib.hid ((List.prefix_append _ _).trans HX.out)
  have HW1 : Hid (∀ W, GK 5 base X W1.drew W → GK 5 base X W1 W) := fun W h => (GK.far ((Fr.refl (fun _ => False) W1).drew)).trans h
  obtain ⟨M, hM⟩ : ∃ M, vcs 5 nn t Al l.length cl Ak ks.length ck = M := ⟨_, rfl⟩
  have HM := Lib.hid hM
  have HSM : Hid ((Tryd.prog.info? 25).map (·.size) = some M.size) := Lib.hid (by rw [← hM]; exact lw5)
  clear hM
  refine (wpIn_wide (n := 9)).1 ?_
  refine wpIn_region_factsG (ms := [0, 0, 3, 0, 15, 0, 63, 127]) (k := 7) (GK 5 base X) (txX base n pe.length A c M xs (xs ++ bv [91]) (xs ++ bv (91 :: pe)) (xs ++ bv (91 :: (pe ++ [93]))) 91 93) (fun i v W => True) (by kernel_rfl) (by kernel_rfl) (GK.refl _ _ _ _) (fun a b c h1 h2 => h1.trans h2) (fun i v w w' hg hx => txX_far P1.out P2.out HX.out hg hx) ?walk
  case walk =>
  refine factWalkG_cons (fun W hW hf K hK => ?_) (fun x0 => ?_)
  · skip
    refine ⟨by kernel_rfl, ?_⟩
    gi_step
    exact hK _ _ (GK.refl _ _ _ _) rfl trivial
  simp only [Act.put, List.setIfInBounds_toArray, List.set_cons_succ, List.set_cons_zero]
  refine factWalkG_cons (fun W hW hf K hK => ?_) (fun x1 => ?_)
  · skip
    refine ⟨by kernel_rfl, ?_⟩
    gi_step
    exact hK _ _ (GK.far ((Fr.refl _ W).alloc _)) ⟨_, rfl, Blk.new W _ _⟩ trivial
  simp only [Act.put, List.setIfInBounds_toArray, List.set_cons_succ, List.set_cons_zero]
  refine factWalkG_cons (fun W hW hf K hK => ?_) (fun x2 => ?_)
  · skip
    have e0 : x0 = .slice A n c := hf 0 (by omega) (by kernel_rfl)
    obtain ⟨q1, e1, b1⟩ : ∃ q, x1 = .slice (some ⟨q, 0, none⟩) 1 1 ∧ Blk W q 5 #[.int .u8 91] := hf 1 (by omega) (by kernel_rfl)
    subst e0 e1
    have hG := HW1.out W hW
    obtain ⟨A1, k1, W2, hr, ho1, hgk⟩ := appB (hG.row P0.out O1.out) H0.out b1 (by omega) (Nat.le_trans Z1 hG.1.lt) 37
    refine ⟨by kernel_rfl, ?_⟩
    refine operIn_append rfl _ _ _ _ rfl _ _ rfl rfl hr ?_
    exact hK _ _ (hgk X P1.out) ⟨A1, k1, rfl, ho1⟩ trivial
  simp only [Act.put, List.setIfInBounds_toArray, List.set_cons_succ, List.set_cons_zero]
  refine factWalkG_cons (fun W hW hf K hK => ?_) (fun x3 => ?_)
  · skip
    have hG := HW1.out W hW
    have hbx := (CX1.out.gk hG).box
    rw [HM.out] at hbx
    have hld := load_val (P := Tryd.prog) W g 0 M (blk_all hbx) 25 _ Tryd.underlying25 rfl HSM.out
    refine ⟨by kernel_rfl, ?_⟩
    refine operIn_load 25 _ rfl _ rfl hld ?_
    exact hK _ _ (GK.refl _ _ _ _) rfl trivial
  simp only [Act.put, List.setIfInBounds_toArray, List.set_cons_succ, List.set_cons_zero]
  refine factWalkG_cons (fun W hW hf K hK => ?_) (fun x4 => ?_)
  · skip
    obtain ⟨A1, k1, e2, o1⟩ : ∃ A1 c1, x2 = .slice A1 (n + 1) c1 ∧ W.ownsRow base 5 1 (.slice A1 (n + 1) c1) (n + 1) (xs ++ bv [91]) := hf 2 (by omega) (by kernel_rfl)
    have e3 : x3 = .agg M := hf 3 (by omega) (by kernel_rfl)
    subst e2 e3
    have hG := HW1.out W hW
    have hcx := CX1.out.gk hG
    have hc := elems5_c W base (n + 1) (xs ++ bv [91]) X A1 k1 hcx.vp HDL.out HFS.out o1 (by omega) hcx.sz h8 (by rw [HPE.out]; omega) (by rw [HPE.out, List.append_assoc, ← bv_append]; exact P2.out) hcx.laid IH.out
    rw [HM.out, HPE.out] at hc
    refine ⟨by kernel_rfl, ?_⟩
    gi_step
    refine ⟨trivial, ?_⟩
    refine (callsIn_wide.2 hc).mono ?_
    rintro e W' ⟨A2, k2, rfl, o2, g2⟩
    dsimp only
    have hx : xs ++ bv [91] ++ bv pe = xs ++ bv (91 :: pe) := by rw [List.append_assoc, ← bv_append]; rfl
    rw [hx] at o2
    exact hK _ _ g2 ⟨A2, k2, rfl, o2⟩ trivial
  simp only [Act.put, List.setIfInBounds_toArray, List.set_cons_succ, List.set_cons_zero]
  refine factWalkG_cons (fun W hW hf K hK => ?_) (fun x5 => ?_)
  · skip
    refine ⟨by kernel_rfl, ?_⟩
    gi_step
    exact hK _ _ (GK.far ((Fr.refl _ W).alloc _)) ⟨_, rfl, Blk.new W _ _⟩ trivial
  simp only [Act.put, List.setIfInBounds_toArray, List.set_cons_succ, List.set_cons_zero]
  refine factWalkG_cons (fun W hW hf K hK => ?_) (fun x6 => ?_)
  · skip
    obtain ⟨A2, k2, e4, o2⟩ : ∃ A1 c1, x4 = .slice A1 (n + 1 + pe.length) c1 ∧ W.ownsRow base 5 1 (.slice A1 (n + 1 + pe.length) c1) (n + 1 + pe.length) (xs ++ bv (91 :: pe)) := hf 4 (by omega) (by kernel_rfl)
    obtain ⟨q2, e5, b2⟩ : ∃ q, x5 = .slice (some ⟨q, 0, none⟩) 1 1 ∧ Blk W q 5 #[.int .u8 93] := hf 5 (by omega) (by kernel_rfl)
    subst e4 e5
    have hG := HW1.out W hW
    obtain ⟨A3, k3, W2, hr, ho3, hgk⟩ := appB o2 (.inl (by omega)) b2 (by omega) (Nat.le_trans Z1 hG.1.lt) 37
    have hx : xs ++ bv (91 :: pe) ++ [.int .u8 93] = xs ++ bv (91 :: (pe ++ [93])) := bv_snoc1 xs (91 :: pe) 93 93 rfl
    refine ⟨by kernel_rfl, ?_⟩
    refine operIn_append rfl _ _ _ _ rfl _ _ rfl rfl hr ?_
    exact hK _ _ (hgk X (by rw [hx]; exact HX.out)) ⟨A3, k3, rfl, hx ▸ ho3⟩ trivial
  simp only [Act.put, List.setIfInBounds_toArray, List.set_cons_succ, List.set_cons_zero]
  refine factWalkG_nil (fun W hW hf hmet => ?_)
  obtain ⟨A3, k3, e6, o3⟩ : ∃ A1 c1, x6 = .slice A1 (n + 1 + pe.length + 1) c1 ∧ W.ownsRow base 5 1 (.slice A1 (n + 1 + pe.length + 1) c1) (n + 1 + pe.length + 1) (xs ++ bv (91 :: (pe ++ [93]))) := hf 6 (by omega)
  subst e6
  have G8 := Lib.hid (K1.out.trans (HW1.out W hW))
  have O3 := Lib.hid o3
  clear hf hmet hW o3
  change wpAnyIn _ _ _ _ _ _ 1 _ _ _
  refine wpAnyIn_ready (rs := [7]) (by kernel_rfl) (by simp) ?_
  refine AllReadyIn.cons rfl (fun K hK => ?_) AllReadyIn.nil
  go_simp
  refine hK _ _ ?_
  refine wpAnyIn_done (by kernel_rfl) ?_ _
  go_wp2_with fail
  go_ret
  have hl3 : n + 1 + pe.length + 1 = n + (91 :: (prE false true l ks ++ [93])).length := by rw [HPE.out]; simp; omega
  refine ⟨A3, k3, ret_slice hl3, ?_, G8.out⟩
  have h := O3.out
  rw [hl3, ← HPE.out] at h
  exact h
set_option maxRecDepth 100000 in
set_option maxHeartbeats 4000000 in
theorem text6_c (w : World) (base n : Nat) (xs X : List Value) (A : Option Addr) (c : Nat) {D : Nat → Prop} {nn : Int} {t : List UInt8} {l : List V} {ks : List (List UInt8)} {Al Ak : Option Addr} {cl ck : Nat} {css : List (Array Value)}
    (hp : VP D w 6 nn t l ks Al cl Ak ck css) (hdl : ∀ b, D b → b < base) (hown : w.ownsRow base 5 1 (.slice A n c) n xs) (hn0 : 0 < n ∨ Value.slice A n c = .slice none 0 0) (hbase : base ≤ w.heap.size) (h8 : 8 ≤ base)
    (hn : n + (123 :: (prE true true l ks ++ [125])).length ≤ 140737488354000) (hX : xs ++ bv (123 :: (prE true true l ks ++ [125])) <+: X) (hL : LaidOk w) (hkl : ks.length = l.length) (hfs : fieldss l = true) (ih : TxtIH base D l) :
    Calls Tryd.prog 12 #[.slice A n c, .agg (vcs 6 nn t Al l.length cl Ak ks.length ck)] w (AppQ base n xs (123 :: (prE true true l ks ++ [125])) X w) := by
  have OW := Lib.hid hown
  have H0 := Lib.hid hn0
  have HX := Lib.hid hX
  have HP := Lib.hid hp
  have HL := Lib.hid hL
  have HDL := Lib.hid hdl
  have HB := Lib.hid hp.b
  have IH := Lib.hid ih
  have HFS := Lib.hid hfs
  have HKL := Lib.hid hkl
  have hlen : n + 1 + (prE true true l ks).length + 1 ≤ 140737488354000 := by
    simp only [List.length_cons, List.length_append, List.length_nil] at hn
    omega
  clear hown hn0 hX hp hL hdl hfs ih hn hkl
  go_enter Tryd.func12, Tryd.ntmps12
  go_upto_region 1 with fail
  refine abs_world (fun W => Hid (Blk W w.heap.size 25 (vcs 6 nn t Al l.length cl Ak ks.length ck)) ∧ Hid (Fr (fun _ => False) w W)) ⟨Blk.new w _ _, (Fr.refl _ w).alloc _⟩ ?_
  rintro W1 ⟨B1, F1⟩
  have CX1 : Hid (Cx base w.heap.size D 6 nn t l ks Al cl Ak ck css W1) := Lib.hid ⟨B1.out, HP.out.far F1.out, HL.out.far F1.out, Nat.le_trans hbase F1.out.size, h8, HDL.out⟩
  have O1 := Lib.hid (own_fr OW.out F1.out (fun _ _ h => h))
  have K1 : Hid (GK 5 base X w W1) := Lib.hid (GK.far F1.out)
  generalize w.heap.size = g at *
  have c0 : W1.cell? ⟨g, 0, none⟩ = some (.int .i64 6) := CX1.out.box.cell 0
  have c1' : W1.cell? ⟨g, 1, none⟩ = some (.int .i64 nn) := CX1.out.box.cell 1
  have c2' : W1.cell? ⟨g, 2, none⟩ = some (.string (strOf t)) := CX1.out.box.cell 2
  have Z1 := CX1.out.sz
  clear HP HL OW B1
  go_upto_region 13 with fail
  obtain ⟨pe, hpe⟩ : ∃ pe, prE true true l ks = pe := ⟨_, rfl⟩
  have HPE := Lib.hid hpe
  rw [hpe] at HX hlen
  clear hpe c0 c1' c2'
  have HLEN := Lib.hid hlen
  have P1 : Hid (xs ++ bv [123] <+: X) := Lib.hid (pre_of HX.out ⟨pe ++ [125], by simp⟩)
  have P2 : Hid (xs ++ bv (123 :: pe) <+: X) := Lib.hid (pre_of HX.out ⟨[125], by simp⟩)
  have P0 : Hid (xs <+: X) := Lib.hid ((List.prefix_append _ _).trans HX.out)
  have HW1 : Hid (∀ W, GK 5 base X W1.drew W → GK 5 base X W1 W) := fun W h => (GK.far ((Fr.refl (fun _ => False) W1).drew)).trans h
  obtain ⟨M, hM⟩ : ∃ M, vcs 6 nn t Al l.length cl Ak ks.length ck = M := ⟨_, rfl⟩
  have HM := Lib.hid hM
  have HSM : Hid ((Tryd.prog.info? 25).map (·.size) = some M.size) := Lib.hid (by rw [← hM]; exact lw5)
  clear hM
  refine (wpIn_wide (n := 9)).1 ?_
  refine wpIn_region_factsG (ms := [0, 0, 3, 0, 15, 0, 63, 127]) (k := 7) (GK 5 base X) (txX base n pe.length A c M xs (xs ++ bv [123]) (xs ++ bv (123 :: pe)) (xs ++ bv (123 :: (pe ++ [125]))) 123 125) (fun i v W => True) (by kernel_rfl) (by kernel_rfl) (GK.refl _ _ _ _) (fun a b c h1 h2 => h1.trans h2) (fun i v w w' hg hx => txX_far P1.out P2.out HX.out hg hx) ?walk
  case walk =>
  refine factWalkG_cons (fun W hW hf K hK => ?_) (fun x0 => ?_)
  · skip
    refine ⟨by kernel_rfl, ?_⟩
    gi_step
    exact hK _ _ (GK.refl _ _ _ _) rfl trivial
  simp only [Act.put, List.setIfInBounds_toArray, List.set_cons_succ, List.set_cons_zero]
  refine factWalkG_cons (fun W hW hf K hK => ?_) (fun x1 => ?_)
  · skip
    refine ⟨by kernel_rfl, ?_⟩
    gi_step
    exact hK _ _ (GK.far ((Fr.refl _ W).alloc _)) ⟨_, rfl, Blk.new W _ _⟩ trivial
  simp only [Act.put, List.setIfInBounds_toArray, List.set_cons_succ, List.set_cons_zero]
  refine factWalkG_cons (fun W hW hf K hK => ?_) (fun x2 => ?_)
  · skip
    have e0 : x0 = .slice A n c := hf 0 (by omega) (by kernel_rfl)
    obtain ⟨q1, e1, b1⟩ : ∃ q, x1 = .slice (some ⟨q, 0, none⟩) 1 1 ∧ Blk W q 5 #[.int .u8 123] := hf 1 (by omega) (by kernel_rfl)
    subst e0 e1
    have hG := HW1.out W hW
    obtain ⟨A1, k1, W2, hr, ho1, hgk⟩ := appB (hG.row P0.out O1.out) H0.out b1 (by omega) (Nat.le_trans Z1 hG.1.lt) 37
    refine ⟨by kernel_rfl, ?_⟩
    refine operIn_append rfl _ _ _ _ rfl _ _ rfl rfl hr ?_
    exact hK _ _ (hgk X P1.out) ⟨A1, k1, rfl, ho1⟩ trivial
  simp only [Act.put, List.setIfInBounds_toArray, List.set_cons_succ, List.set_cons_zero]
  refine factWalkG_cons (fun W hW hf K hK => ?_) (fun x3 => ?_)
  · skip
    have hG := HW1.out W hW
    have hbx := (CX1.out.gk hG).box
    rw [HM.out] at hbx
    have hld := load_val (P := Tryd.prog) W g 0 M (blk_all hbx) 25 _ Tryd.underlying25 rfl HSM.out
    refine ⟨by kernel_rfl, ?_⟩
    refine operIn_load 25 _ rfl _ rfl hld ?_
    exact hK _ _ (GK.refl _ _ _ _) rfl trivial
  simp only [Act.put, List.setIfInBounds_toArray, List.set_cons_succ, List.set_cons_zero]
  refine factWalkG_cons (fun W hW hf K hK => ?_) (fun x4 => ?_)
  · skip
    obtain ⟨A1, k1, e2, o1⟩ : ∃ A1 c1, x2 = .slice A1 (n + 1) c1 ∧ W.ownsRow base 5 1 (.slice A1 (n + 1) c1) (n + 1) (xs ++ bv [123]) := hf 2 (by omega) (by kernel_rfl)
    have e3 : x3 = .agg M := hf 3 (by omega) (by kernel_rfl)
    subst e2 e3
    have hG := HW1.out W hW
    have hcx := CX1.out.gk hG
    have hc := elems6_c W base (n + 1) (xs ++ bv [123]) X A1 k1 hcx.vp HDL.out HKL.out HFS.out o1 (by omega) hcx.sz h8 (by rw [HPE.out]; omega) (by rw [HPE.out, List.append_assoc, ← bv_append]; exact P2.out) hcx.laid IH.out
    rw [HM.out, HPE.out] at hc
    refine ⟨by kernel_rfl, ?_⟩
    gi_step
    refine ⟨trivial, ?_⟩
    refine (callsIn_wide.2 hc).mono ?_
    rintro e W' ⟨A2, k2, rfl, o2, g2⟩
    dsimp only
    have hx : xs ++ bv [123] ++ bv pe = xs ++ bv (123 :: pe) := by rw [List.append_assoc, ← bv_append]; rfl
    rw [hx] at o2
    exact hK _ _ g2 ⟨A2, k2, rfl, o2⟩ trivial
  simp only [Act.put, List.setIfInBounds_toArray, List.set_cons_succ, List.set_cons_zero]
  refine factWalkG_cons (fun W hW hf K hK => ?_) (fun x5 => ?_)
  · skip
    refine ⟨by kernel_rfl, ?_⟩
    gi_step
    exact hK _ _ (GK.far ((Fr.refl _ W).alloc _)) ⟨_, rfl, Blk.new W _ _⟩ trivial
  simp only [Act.put, List.setIfInBounds_toArray, List.set_cons_succ, List.set_cons_zero]
  refine factWalkG_cons (fun W hW hf K hK => ?_) (fun x6 => ?_)
  · skip
    obtain ⟨A2, k2, e4, o2⟩ : ∃ A1 c1, x4 = .slice A1 (n + 1 + pe.length) c1 ∧ W.ownsRow base 5 1 (.slice A1 (n + 1 + pe.length) c1) (n + 1 + pe.length) (xs ++ bv (123 :: pe)) := hf 4 (by omega) (by kernel_rfl)
    obtain ⟨q2, e5, b2⟩ : ∃ q, x5 = .slice (some ⟨q, 0, none⟩) 1 1 ∧ Blk W q 5 #[.int .u8 125] := hf 5 (by omega) (by kernel_rfl)
    subst e4 e5
    have hG := HW1.out W hW
    obtain ⟨A3, k3, W2, hr, ho3, hgk⟩ := appB o2 (.inl (by omega)) b2 (by omega) (Nat.le_trans Z1 hG.1.lt) 37
    have hx : xs ++ bv (123 :: pe) ++ [.int .u8 125] = xs ++ bv (123 :: (pe ++ [125])) := bv_snoc1 xs (123 :: pe) 125 125 rfl
    refine ⟨by kernel_rfl, ?_⟩
    refine operIn_append rfl _ _ _ _ rfl _ _ rfl rfl hr ?_
    exact hK _ _ (hgk X (by rw [hx]; exact HX.out)) ⟨A3, k3, rfl, hx ▸ ho3⟩ trivial
  simp only [Act.put, List.setIfInBounds_toArray, List.set_cons_succ, List.set_cons_zero]
  refine factWalkG_nil (fun W hW hf hmet => ?_)
  obtain ⟨A3, k3, e6, o3⟩ : ∃ A1 c1, x6 = .slice A1 (n + 1 + pe.length + 1) c1 ∧ W.ownsRow base 5 1 (.slice A1 (n + 1 + pe.length + 1) c1) (n + 1 + pe.length + 1) (xs ++ bv (123 :: (pe ++ [125]))) := hf 6 (by omega)
  subst e6
  have G8 := Lib.hid (K1.out.trans (HW1.out W hW))
  have O3 := Lib.hid o3
  clear hf hmet hW o3
  change wpAnyIn _ _ _ _ _ _ 1 _ _ _
  refine wpAnyIn_ready (rs := [7]) (by kernel_rfl) (by simp) ?_
  refine AllReadyIn.cons rfl (fun K hK => ?_) AllReadyIn.nil
  go_simp
  refine hK _ _ ?_
  refine wpAnyIn_done (by kernel_rfl) ?_ _
  go_wp2_with fail
  go_ret
  have hl3 : n + 1 + pe.length + 1 = n + (123 :: (prE true true l ks ++ [125])).length := by rw [HPE.out]; simp; omega
  refine ⟨A3, k3, ret_slice hl3, ?_, G8.out⟩
  have h := O3.out
  rw [hl3, ← HPE.out] at h
  exact h
theorem text_c : ∀ (base : Nat) (D : Nat → Prop), 8 ≤ base → (∀ b, D b → b < base) → ∀ (v : V) (W : World) (C : Array Value) (n : Nat) (xs X : List Value) (A : Option Addr) (c : Nat), RdV D W C v → fieldsV v = true → W.ownsRow base 5 1 (.slice A n c) n xs → (0 < n ∨ Value.slice A n c = .slice none 0 0) → base ≤ W.heap.size → n + (prV v).length ≤ 140737488354000 → xs ++ bv (prV v) <+: X → LaidOk W →
    Calls Tryd.prog 12 #[.slice A n c, .agg C] W (AppQ base n xs (prV v) X W) := by
  intro base D h8 hdl v
  induction v using V.ind with
  | h k nn t l ks ih =>
    intro w C n xs X A c h hf ho h0 hb hn hX hL
    obtain ⟨k1, n1, t1, l1, ks1, Al, cl, Ak, ck, css, e, rfl, hp⟩ := h.inv
    injection e with e1 e2 e3 e4 e5
    subst e1 e2 e3 e4 e5
    obtain ⟨hu, -, -, hfs⟩ := fields_kids hf
    rw [uses_iff] at hu
    have IH : TxtIH base D l := fun x hx => ih x hx
    rw [prV] at hn hX ⊢
    have k06 : k = 0 ∨ k = 1 ∨ k = 2 ∨ k = 3 ∨ k = 4 ∨ k = 5 ∨ k = 6 := by have := hu.k0; have := hu.k6; omega
    rcases k06 with rfl | rfl | rfl | rfl | rfl | rfl | rfl
    · exact text0_c w base n xs X A c hp hdl ho h0 hb h8 hn hX hL
    · exact text1_c w base n xs X A c hp hdl ho h0 hb h8 hn hX hL
    · exact text2_c w base n xs X A c hp hdl ho h0 hb h8 hn hX hL
    · exact text3_c w base n xs X A c hp hdl ho h0 hb h8 hn hX hL
    · exact text4_c w base n xs X A c hp hdl ho h0 hb h8 hn hX hL
    · exact text5_c w base n xs X A c hp hdl ho h0 hb h8 hn hX hL hfs IH
    · exact text6_c w base n xs X A c hp hdl ho h0 hb h8 hn hX hL (hu.obj rfl) hfs IH
end Go.Proofs.YtnkfkicabgajmaaDoor
