/-
  Pu, Print, Parse, in one text (merge.py).
-/
import Derived.Test.YtjaocgmicdnghaaGreatDoorSh
import Derived.Shelf.Pu.ParseUintPublic10
import Derived.Ground.MpProg
import Derived.Test.YtjaocgmicdnghaaGreatDoorApp
import Derived.Test.YtjaocgmicdnghaaGreatDoorSum
import Derived.Deep.MidRow
import Derived.IntWalk
import Derived.Lib.ParseIntBCases

/-
  CONTRACT of strconv.ParseUint at base ten, off the shelf.
-/
namespace Go.Proofs
set_option linter.unusedSimpArgs false
set_option linter.unusedVariables false
open Go.Shelf
def Tryz.laysPu14_ren : Go.Shelf.Ren := ⟨fun | 14 => 25 | 16 => 39 | 17 => 40 | 19 => 61 | 20 => 62 | 21 => 63 | 22 => 64 | 23 => 65 | 24 => 66 | 25 => 81 | 27 => 83 | 26 => 82 | 28 => 97 | 29 => 88 | 30 => 84 | 31 => 85 | 32 => 86 | 33 => 87 | 35 => 99 | 34 => 98 | 36 => 100 | 37 => 101 | 38 => 102 | 39 => 110 | 40 => 111 | n => n, fun | 9 => 9 | 3 => 3 | 22 => 22 | 24 => 55 | 25 => 56 | 4 => 4 | 34 => 87 | 5 => 5 | 36 => 45 | 37 => 43 | 0 => 0 | 39 => 89 | 21 => 21 | 44 => 102 | 47 => 125 | 50 => 128 | 48 => 126 | 2 => 2 | 52 => 105 | 55 => 108 | 59 => 130 | 60 => 76 | 20 => 20 | 61 => 131 | 65 => 143 | 66 => 95 | 67 => 146 | n => n, fun | 0 => 2 | 1 => 3 | 2 => 5 | 3 => 6 | 4 => 7 | n => n⟩
theorem Tryz.laysPu14 : Go.Proofs.LaysPu.n14 Tryz.prog Tryz.laysPu14_ren := {
  mixed := by kernel_rfl
  f14 := Tryz.func25.trans (congrArg some (by kernel_rfl))
  f16 := Tryz.func39.trans (congrArg some (by kernel_rfl))
  f17 := Tryz.func40.trans (congrArg some (by kernel_rfl))
  f19 := Tryz.func61.trans (congrArg some (by kernel_rfl))
  f20 := Tryz.func62.trans (congrArg some (by kernel_rfl))
  f21 := Tryz.func63.trans (congrArg some (by kernel_rfl))
  f22 := Tryz.func64.trans (congrArg some (by kernel_rfl))
  f23 := Tryz.func65.trans (congrArg some (by kernel_rfl))
  f24 := Tryz.func66.trans (congrArg some (by kernel_rfl))
  f25 := Tryz.func81.trans (congrArg some (by kernel_rfl))
  f26 := Tryz.func82.trans (congrArg some (by kernel_rfl))
  f27 := Tryz.func83.trans (congrArg some (by kernel_rfl))
  f28 := Tryz.func97.trans (congrArg some (by kernel_rfl))
  f29 := Tryz.func88.trans (congrArg some (by kernel_rfl))
  f30 := Tryz.func84.trans (congrArg some (by kernel_rfl))
  f31 := Tryz.func85.trans (congrArg some (by kernel_rfl))
  f32 := Tryz.func86.trans (congrArg some (by kernel_rfl))
  f33 := Tryz.func87.trans (congrArg some (by kernel_rfl))
  f34 := Tryz.func98.trans (congrArg some (by kernel_rfl))
  f35 := Tryz.func99.trans (congrArg some (by kernel_rfl))
  f36 := Tryz.func100.trans (congrArg some (by kernel_rfl))
  f37 := Tryz.func101.trans (congrArg some (by kernel_rfl))
  f38 := Tryz.func102.trans (congrArg some (by kernel_rfl))
  f39 := Tryz.func110.trans (congrArg some (by kernel_rfl))
  f40 := Tryz.func111.trans (congrArg some (by kernel_rfl))
  t0 := Tryz.underlying0
  a0 := Tryz.isAgg0
  z0 := Tryz.sizeOf0
  v0 := Tryz.zeroValue0
  i0 := by kernel_rfl
  t2 := Tryz.underlying2
  a2 := Tryz.isAgg2
  z2 := Tryz.sizeOf2
  v2 := Tryz.zeroValue2
  i2 := by kernel_rfl
  t3 := Tryz.underlying3
  a3 := Tryz.isAgg3
  z3 := Tryz.sizeOf3
  v3 := Tryz.zeroValue3
  i3 := by kernel_rfl
  t4 := Tryz.underlying4
  a4 := Tryz.isAgg4
  z4 := Tryz.sizeOf4
  v4 := Tryz.zeroValue4
  i4 := by kernel_rfl
  t5 := Tryz.underlying5
  a5 := Tryz.isAgg5
  z5 := Tryz.sizeOf5
  v5 := Tryz.zeroValue5
  i5 := by kernel_rfl
  t9 := Tryz.underlying9
  a9 := Tryz.isAgg9
  z9 := Tryz.sizeOf9
  v9 := Tryz.zeroValue9
  i9 := by kernel_rfl
  t20 := Tryz.underlying20
  a20 := Tryz.isAgg20
  z20 := Tryz.sizeOf20
  v20 := Tryz.zeroValue20
  i20 := by kernel_rfl
  t21 := Tryz.underlying21
  a21 := Tryz.isAgg21
  z21 := Tryz.sizeOf21
  v21 := Tryz.zeroValue21
  i21 := by kernel_rfl
  t22 := Tryz.underlying22
  a22 := Tryz.isAgg22
  z22 := Tryz.sizeOf22
  v22 := Tryz.zeroValue22
  i22 := by kernel_rfl
  t24 := Tryz.underlying55
  a24 := Tryz.isAgg55
  z24 := Tryz.sizeOf55
  v24 := Tryz.zeroValue55
  i24 := by kernel_rfl
  t25 := Tryz.underlying56
  a25 := Tryz.isAgg56
  z25 := Tryz.sizeOf56
  v25 := Tryz.zeroValue56
  i25 := by kernel_rfl
  t34 := Tryz.underlying87
  a34 := Tryz.isAgg87
  z34 := Tryz.sizeOf87
  v34 := Tryz.zeroValue87
  i34 := by kernel_rfl
  c34 := by kernel_rfl
  t36 := Tryz.underlying45
  a36 := Tryz.isAgg45
  z36 := Tryz.sizeOf45
  v36 := Tryz.zeroValue45
  i36 := by kernel_rfl
  t37 := Tryz.underlying43
  a37 := Tryz.isAgg43
  z37 := Tryz.sizeOf43
  v37 := Tryz.zeroValue43
  i37 := by kernel_rfl
  t39 := Tryz.underlying89
  a39 := Tryz.isAgg89
  z39 := Tryz.sizeOf89
  v39 := Tryz.zeroValue89
  i39 := by kernel_rfl
  t44 := Tryz.underlying102
  a44 := Tryz.isAgg102
  z44 := Tryz.sizeOf102
  v44 := Tryz.zeroValue102
  i44 := by kernel_rfl
  t47 := Tryz.underlying125
  a47 := Tryz.isAgg125
  z47 := Tryz.sizeOf125
  v47 := Tryz.zeroValue125
  i47 := by kernel_rfl
  t48 := Tryz.underlying126
  a48 := Tryz.isAgg126
  z48 := Tryz.sizeOf126
  v48 := Tryz.zeroValue126
  i48 := by kernel_rfl
  t50 := Tryz.underlying128
  a50 := Tryz.isAgg128
  z50 := Tryz.sizeOf128
  v50 := Tryz.zeroValue128
  i50 := by kernel_rfl
  t52 := Tryz.underlying105
  a52 := Tryz.isAgg105
  z52 := Tryz.sizeOf105
  v52 := Tryz.zeroValue105
  i52 := by kernel_rfl
  t55 := Tryz.underlying108
  a55 := Tryz.isAgg108
  z55 := Tryz.sizeOf108
  v55 := Tryz.zeroValue108
  i55 := by kernel_rfl
  t59 := Tryz.underlying130
  a59 := Tryz.isAgg130
  z59 := Tryz.sizeOf130
  v59 := Tryz.zeroValue130
  i59 := by kernel_rfl
  t60 := Tryz.underlying76
  a60 := Tryz.isAgg76
  z60 := Tryz.sizeOf76
  v60 := Tryz.zeroValue76
  i60 := by kernel_rfl
  t61 := Tryz.underlying131
  a61 := Tryz.isAgg131
  z61 := Tryz.sizeOf131
  t65 := Tryz.underlying143
  a65 := Tryz.isAgg143
  z65 := Tryz.sizeOf143
  v65 := Tryz.zeroValue143
  i65 := by kernel_rfl
  t66 := Tryz.underlying95
  a66 := Tryz.isAgg95
  z66 := Tryz.sizeOf95
  v66 := Tryz.zeroValue95
  i66 := by kernel_rfl
  t67 := Tryz.underlying146
  a67 := Tryz.isAgg146
  z67 := Tryz.sizeOf146
  v67 := Tryz.zeroValue146
  i67 := by kernel_rfl
  g0 := by kernel_rfl
  m0 := by kernel_rfl
  g1 := by kernel_rfl
  m1 := by kernel_rfl
  g2 := by kernel_rfl
  m2 := by kernel_rfl
  g3 := by kernel_rfl
  m3 := by kernel_rfl
  g4 := by kernel_rfl
  m4 := by kernel_rfl }
end Go.Proofs
namespace Go.Proofs.YtjaocgmicdnghaaGreatDoor
set_option linter.unusedSimpArgs false
set_option linter.unusedVariables false
open Go Go.RowKit Go.Shelf

theorem parseUint_c (w : World) (s : List UInt8) (hs : s.length ≤ 1000) (hL : LaidOk w) :
    Calls Tryz.prog 25 #[.string (strOf s), .int .i64 10, .int .i64 64] w fun e w' => ∃ x, e = .returned (.tuple #[.int .u64 (genOf s : Nat), x]) ∧ Fr (fun _ => False) w w' := by
  cases h : Lib.parseUintB 64 s
  · rename_i u
    refine (Any.strconv_ParseUint_10_at64_ok Tryz.laysPu14 (strOf s) (by rw [strOf_size]; omega) u h w).mono ?_
    rintro e w' ⟨rfl, h2⟩
    refine ⟨_, by unfold genOf; rw [h], ?_⟩
    rcases h2 with rfl | rfl
    · exact Fr.refl _ _
    · exact fr_below (Lib.bytesWorld_below _ _ _)
  · obtain ⟨t, p, hp⟩ := hL.syn
    refine (Any.strconv_ParseUint_10_at64_syntax Tryz.laysPu14 (strOf s) (by rw [strOf_size]; omega) h _ w hp (.inr ⟨t, p, rfl⟩)).mono ?_
    rintro e w' ⟨N, rfl, h1, h2, h3⟩
    exact ⟨_, by unfold genOf; rw [h]; rfl, fr_below h3⟩
  · obtain ⟨t, p, hp⟩ := hL.rng
    refine (Any.strconv_ParseUint_10_at64_range Tryz.laysPu14 (strOf s) (by rw [strOf_size]; omega) h _ w hp (.inr ⟨t, p, rfl⟩)).mono ?_
    rintro e w' ⟨N, rfl, h1, h2, h3⟩
    exact ⟨_, by unfold genOf; rw [h]; rfl, fr_below h3⟩
end Go.Proofs.YtjaocgmicdnghaaGreatDoor

/-
  CONTRACT of rev.Print.
-/
namespace Go.Proofs.YtjaocgmicdnghaaGreatDoor
set_option linter.unusedSimpArgs false
set_option linter.unusedVariables false
open Go Go.RowKit Go.Shelf
attribute [local go_sem] Oper.semAt_some

theorem run_index_agg (W : World) (C : Array Value) (i : Nat) (h : i < C.size) (hC : C.size = 16) : (Instr.index 23 (.agg C) (.int .i64 (i : Nat))).run Tryz.prog W = .ok C[i] W := by
  have h2 : (0 : Int) ≤ (i : Int) ∧ (i : Int) < 16 := by omega
  have h3 : ¬ 16 ≤ i := by omega
  simp [Instr.index, run_underlying Tryz.underlying23, asIntOf, go_sem, h2, h, h3]
theorem run_index_hexs (W : World) (k : Nat) (h : k < 16) : (Instr.index 9 (.string ⟨#[48, 49, 50, 51, 52, 53, 54, 55, 56, 57, 97, 98, 99, 100, 101, 102]⟩) (.int .u8 (k : Nat))).run Tryz.prog W = .ok (.int .u8 ((hxd k).toNat : Nat)) W := by
  rw [run_index_string W _ _ _ _ Tryz.underlying9]
  rw [dif_pos ⟨by omega, by show (k : Int) < 16; omega⟩]
  congr 2
  have : ∀ k : Fin 16, ((⟨#[48, 49, 50, 51, 52, 53, 54, 55, 56, 57, 97, 98, 99, 100, 101, 102]⟩ : ByteArray)[((k.val : Nat) : Int).toNat]'(by have := k.2; simp [ByteArray.size])).toNat = (hxd k.val).toNat := by decide +kernel
  rw [this ⟨k, h⟩]
theorem hexL_snoc (l : List UInt8) (c : UInt8) : hexL (l ++ [c]) = hexL l ++ [hxd (c.toNat / 16), hxd (c.toNat % 16)] := by rw [hexL_append]; rfl

theorem print_no (w : World) (g : Nat) (s : List UInt8) (hs : s.length = 16) (hg64 : g < 18446744073709551616) (hg : mayG g = false) :
    Calls Tryz.prog 26 #[.agg (rc g s).toArray] w fun e w' => e = .returned (.tuple #[.string ⟨#[]⟩, .int .i64 1]) ∧ Fr (fun _ => False) w w' := by
  have hmay := fun W => may_c W g s hs hg64
  simp only [hg] at hmay
  have hinf : (Tryz.prog.info? 25).map (·.size) = some (rc g s).toArray.size := by rw [List.size_toArray, rc_len hs]; kernel_rfl
  obtain ⟨C, hC⟩ : ∃ C, (rc g s).toArray = C := ⟨_, rfl⟩
  rw [hC] at hmay hinf ⊢
  have HM := Lib.hid hmay
  have HI := Lib.hid hinf
  clear hmay hC hg hinf hs
  go_enter Tryz.func26, Tryz.ntmps26
  go_upto_region 1 with fail
  refine abs_world (fun W => Hid (Blk W w.heap.size 25 C) ∧ Hid (Fr (fun _ => False) w W)) ⟨Blk.new w _ _, (Fr.refl _ w).alloc _⟩ ?_
  rintro W1 ⟨B0, F1⟩
  go_wp2_with (refine wpList_load_row rfl 25 _ rfl w.heap.size rfl 25 C (0, 0) _ B0.out Tryz.underlying25 rfl HI.out ?_)
  refine (HM.out W1).mono ?_
  rintro e w2 ⟨rfl, f2⟩
  have F2 := Lib.hid (F1.out.trans f2 (fun _ _ h => h))
  clear f2
  go_wp2_with fail
  go_ret2
  exact ⟨rfl, F2.out⟩
def prX (Aq : Option Addr) (p cq x : Nat) (i : Nat) (v : Value) (W : World) : Prop := match i with
  | 0 => v = .slice Aq p cq
  | 1 => v = .int .u8 (x : Nat)
  | 2 => v = .int .u8 ((x / 16 : Nat) : Int)
  | 3 => v = .int .u8 ((hxd (x / 16)).toNat : Nat)
  | 4 => v = .int .u8 (x : Nat)
  | 5 => v = .int .u8 ((x % 16 : Nat) : Int)
  | 6 => v = .int .u8 ((hxd (x % 16)).toNat : Nat)
  | 7 => ∃ g, v = .slice (some ⟨g, 0, none⟩) 2 2 ∧ Blk W g 5 #[.int .u8 ((hxd (x / 16)).toNat : Nat), .int .u8 ((hxd (x % 16)).toNat : Nat)]
  | _ => True
theorem prX_far {Aq : Option Addr} {p cq x : Nat} {i : Nat} {v : Value} {W W' : World} (hg : Fr (fun _ => False) W W') (hx : prX Aq p cq x i v W) : prX Aq p cq x i v W' := by
  match i with
  | 0 => exact hx
  | 1 => exact hx
  | 2 => exact hx
  | 3 => exact hx
  | 4 => exact hx
  | 5 => exact hx
  | 6 => exact hx
  | 7 => obtain ⟨g, e, b⟩ := hx; exact ⟨g, e, b.fr hg (fun h => h)⟩
  | (n + 8) => exact hx
set_option maxRecDepth 100000 in
set_option maxHeartbeats 2000000 in
theorem print_yes (w : World) (g : Nat) (s : List UInt8) (hs : s.length = 16) (hg : mayG g = true) (hL : LaidOk w) :
    Calls Tryz.prog 26 #[.agg (rc g s).toArray] w fun e w' => e = .returned (.tuple #[.string (strOf (txt g s)), .int .i64 0]) ∧ Fr (fun _ => False) w w' := by
  have hg1 : 1 ≤ g ∧ g ≤ 4611686018427387903 := by unfold mayG at hg; simpa using hg
  have hmay := fun W => may_c W g s hs (by omega)
  simp only [hg] at hmay
  have hap := fun W (hW : Fr (fun _ => False) w W) => appendUint_c W g (by omega) (hL.far hW)
  have hinf : (Tryz.prog.info? 25).map (·.size) = some (rc g s).toArray.size := by rw [List.size_toArray, rc_len hs]; kernel_rfl
  have hc0 : (rc g s).toArray[0]? = some (.int .u64 (g : Nat)) := rfl
  have hrow : ∀ W b, Blk W b 25 (rc g s).toArray → W.rangeAt b 1 (bv s) := fun W b hb j u hu => by
    rw [hb.cell, List.getElem?_toArray, Nat.add_comm]
    exact hu
  have hlen : (Lib.decDigits g).length ≤ 20 := by
    rw [Lib.decDigits_length]
    exact Lib.nDigits_le20 g (by omega)
  obtain ⟨C, hC⟩ : ∃ C, (rc g s).toArray = C := ⟨_, rfl⟩
  rw [hC] at hmay hinf hc0 hrow ⊢
  obtain ⟨D, hD⟩ : ∃ D, Lib.decDigits g = D := ⟨_, rfl⟩
  rw [hD] at hap hlen
  obtain ⟨i0, hi0, hz0', hz1', hz2'⟩ := info_parts u8_info
  have HI0 := Lib.hid hi0
  have HM := Lib.hid hmay
  have HI := Lib.hid hinf
  have HAP := Lib.hid hap
  have HROW := Lib.hid hrow
  have HC0 := Lib.hid hc0
  have HS := Lib.hid hs
  have HD := Lib.hid hD
  have HL := Lib.hid hlen
  clear hmay hC hg hinf hs hap hrow hc0 hL hD hlen hi0
  go_enter Tryz.func26, Tryz.ntmps26
  go_upto_region 1 with fail
  refine abs_world (fun W => Hid (Blk W w.heap.size 25 C) ∧ Hid (Fr (fun _ => False) w W)) ⟨Blk.new w _ _, (Fr.refl _ w).alloc _⟩ ?_
  rintro W1 ⟨B0, F1⟩
  go_wp2_with (refine wpList_load_row rfl 25 _ rfl w.heap.size rfl 25 C (0, 0) _ B0.out Tryz.underlying25 rfl HI.out ?_)
  refine (HM.out W1).mono ?_
  rintro e w2 ⟨rfl, f2⟩
  have F2 := Lib.hid (F1.out.trans f2 (fun _ _ h => h))
  have B2 := Lib.hid (B0.out.fr f2 (fun h => h))
  have c0 : w2.cell? ⟨w.heap.size, 0, none⟩ = some (.int .u64 (g : Nat)) := by rw [B2.out.cell]; exact HC0.out
  clear f2 F1 B0
  go_wp2_with fail
  refine (HAP.out w2 F2.out).mono ?_
  rintro e w3 ⟨v3, rfl, o3, f3⟩
  have F3 := Lib.hid (F2.out.trans f3 (fun _ _ h => h))
  have B3 := Lib.hid (B2.out.fr f3 (fun h => h))
  have O3 := Lib.hid (own_base o3 (base' := w.heap.size) (fun k hk => Nat.le_trans F2.out.size (o3.lt k hk).1))
  clear f3 o3 F2 B2 c0
  obtain ⟨A3, c3, rfl, -, -⟩ := own_slice O3.out
  have hrow3 := HROW.out w3 _ B3.out
  have hsl : (Tryz.prog.info? 23).map (·.size) = some (bv s).length := by rw [bv_length, HS.out]; kernel_rfl
  obtain ⟨d, hd⟩ : ∃ d, D.length = d := ⟨_, rfl⟩
  rw [hd] at O3 HL ⊢
  have hd20 : d ≤ 20 := HL.out
  have HDL := Lib.hid hd
  have HSL := Lib.hid hsl
  have HZ3 := Lib.hid F3.out.size
  clear hd hsl hrow3
  go_wp2_with (first
    | (at_builtin
       refine wpList_app rfl (.tmp 12) (.tmp 13) _ _ rfl w.heap.size 5 i0 _ 1 1 Tryz.underlying43 HI0.out hz0' hz1' hz2' rfl _ d _ rfl (own_fr O3.out ((Fr.refl (fun _ => False) w3).alloc _) (fun _ _ h => h)) _ 1 [.int .u8 45] rfl (Src.rd Tryz.underlying43 _ (Rd.of_blk (Blk.new w3 5 #[.int .u8 45]) (Nat.le_refl _)) (by simp [Value.oneCell'])) (by omega) (by unfold maxLen; omega) (by rw [World.size_alloc]; exact Nat.le_succ_of_le HZ3.out) ?_
       intro v4 w4 o4 f4 hn4
       have F4 := Lib.hid ((F3.out.alloc (.cells #[.int .u8 45] 5)).trans f4 (fun i hi hq => by have := (O3.out.lt i hq).1; omega))
       have B4 := Lib.hid ((B3.out.alloc (.cells #[.int .u8 45] 5)).fr f4 (fun hq => by have := own_blk_ne O3.out B3.out (by decide); exact this hq))
       have O4 := Lib.hid o4
       obtain ⟨A4, c4, rfl, -, -⟩ := own_slice o4
       have HR4 := Lib.hid (HROW.out w4 _ B4.out)
       clear o4 f4 hn4)
    | refine wpList_load_mid rfl 23 _ rfl w.heap.size 1 rfl (bv s) _ HR4.out Tryz.underlying23 rfl HSL.out ?_)
  generalize w3.heap.size = q3 at *
  have hr4 : Hid (D = Lib.decDigits g) := HD.out.symm
  clear HM HI HAP HROW HC0 HD B3 B4 HR4 O3 HSL HZ3 F3
  have hs16 := HS.out
  go_loopw [4, 17] (fun av iv wr => ∃ (k : Nat) (Aq : Option Addr) (cq : Nat), av = .slice Aq (d + 1 + 2 * k) cq ∧ iv = .int .i64 (k : Int) ∧ k ≤ 16 ∧ Hid (wr.ownsRow w.heap.size 5 1 (.slice Aq (d + 1 + 2 * k) cq) (d + 1 + 2 * k) (bv (D ++ 45 :: hexL (s.take k)))) ∧ Hid (Fr (fun _ => False) w wr)) (fun _ iv _ => 16 - (intOf iv).toNat)
  case atStart => exact ⟨0, A4, c4, rfl, rfl, by omega, by have := O4.out; rw [show bv (D ++ 45 :: hexL (s.take 0)) = bv D ++ [.int .u8 45] by simp [bv, hexL]]; exact this, F4.out⟩
  case round =>
    obtain ⟨k, Aq, cq, rfl, rfl, hk, ho, hf⟩ := hrel
    by_cases hlt : k < 16
    case pos =>
      have hdl : decide ((k : Int) < 16) = true := decide_eq_true (by omega)
      have hks : k < s.length := by omega
      have hix := fun W => run_index_agg W (bv s).toArray k (by rw [List.size_toArray, bv_length]; exact hks) (by rw [List.size_toArray, bv_length]; exact hs16)
      have hsk : (bv s).toArray[k]'(by rw [List.size_toArray, bv_length]; exact hks) = .int .u8 ((s[k]'hks).toNat : Nat) := by simp [bv]
      have htk : s.take (k + 1) = s.take k ++ [s[k]'hks] := by rw [List.take_succ_eq_append_getElem hks]
      have hx256 := (s[k]'hks).toNat_lt
      simp only [hsk] at hix
      have hsn : hexL (s.take (k + 1)) = hexL (s.take k) ++ [hxd ((s[k]'hks).toNat / 16), hxd ((s[k]'hks).toNat % 16)] := by rw [htk, hexL_snoc]
      obtain ⟨x, hx⟩ : ∃ x, (s[k]'hks).toNat = x := ⟨_, rfl⟩
      rw [hx] at hx256 hsn
      simp only [hx] at hix
      have HSN := Lib.hid hsn
      clear hsk htk hx hsn
      obtain ⟨p, hp⟩ : ∃ p, d + 1 + 2 * k = p := ⟨_, rfl⟩
      rw [hp] at ho ⊢
      have HP := Lib.hid hp
      have hp60 : p ≤ 60 := by omega
      clear hp
      go_upto_region 7 with fail
      clear hix hdl
      refine (wpIn_wide (n := 9)).1 ?_
      refine wpIn_region_factsG (ms := [0, 0, 2, 6, 0, 16, 48, 126, 255, 511]) (k := 8) (Fr (fun _ => False)) (prX Aq p cq x) (fun i v W => True) (by kernel_rfl) (by kernel_rfl) (Fr.refl _ _) (fun a b c h1 h2 => h1.trans h2 (fun _ _ h => h)) (fun i v w w' hg hx => prX_far hg hx) ?walk7
      case walk7 =>
      have hdr : ∀ W, Fr (fun _ => False) wr.drew W → Fr (fun _ => False) wr W := fun W h => ((Fr.refl (fun _ => False) wr).drew).trans h (fun _ _ h => h)
      have HDR := Lib.hid hdr
      clear hdr
      refine factWalkG_cons (fun W hW hf K hK => ?_) (fun x0 => ?_)
      · skip
        refine ⟨by kernel_rfl, ?_⟩
        gi_step
        exact hK _ _ (Fr.refl _ _) rfl trivial
      simp only [Act.put, List.setIfInBounds_toArray, List.set_cons_succ, List.set_cons_zero]
      refine factWalkG_cons (fun W hW hf K hK => ?_) (fun x1 => ?_)
      · skip
        refine ⟨by kernel_rfl, ?_⟩
        gi_step
        exact hK _ _ (Fr.refl _ _) rfl trivial
      simp only [Act.put, List.setIfInBounds_toArray, List.set_cons_succ, List.set_cons_zero]
      refine factWalkG_cons (fun W hW hf K hK => ?_) (fun x2 => ?_)
      · skip
        have e1 : x1 = .int .u8 (x : Nat) := hf 1 (by omega) (by kernel_rfl)
        subst e1
        refine ⟨by kernel_rfl, ?_⟩
        gi_step
        exact hK _ _ (Fr.refl _ _) rfl trivial
      simp only [Act.put, List.setIfInBounds_toArray, List.set_cons_succ, List.set_cons_zero]
      refine factWalkG_cons (fun W hW hf K hK => ?_) (fun x3 => ?_)
      · skip
        have e2 : x2 = .int .u8 ((x / 16 : Nat) : Int) := hf 2 (by omega) (by kernel_rfl)
        subst e2
        have hq := run_index_hexs W (x / 16) (by omega); rw [show ((x / 16 : Nat) : Int) = (x : Int) / 16 by omega] at hq
        refine ⟨by kernel_rfl, ?_⟩
        gi_step
        exact hK _ _ (Fr.refl _ _) rfl trivial
      simp only [Act.put, List.setIfInBounds_toArray, List.set_cons_succ, List.set_cons_zero]
      refine factWalkG_cons (fun W hW hf K hK => ?_) (fun x4 => ?_)
      · skip
        refine ⟨by kernel_rfl, ?_⟩
        gi_step
        exact hK _ _ (Fr.refl _ _) rfl trivial
      simp only [Act.put, List.setIfInBounds_toArray, List.set_cons_succ, List.set_cons_zero]
      refine factWalkG_cons (fun W hW hf K hK => ?_) (fun x5 => ?_)
      · skip
        have e4 : x4 = .int .u8 (x : Nat) := hf 4 (by omega) (by kernel_rfl)
        subst e4
        refine ⟨by kernel_rfl, ?_⟩
        gi_step
        exact hK _ _ (Fr.refl _ _) rfl trivial
      simp only [Act.put, List.setIfInBounds_toArray, List.set_cons_succ, List.set_cons_zero]
      refine factWalkG_cons (fun W hW hf K hK => ?_) (fun x6 => ?_)
      · skip
        have e5 : x5 = .int .u8 ((x % 16 : Nat) : Int) := hf 5 (by omega) (by kernel_rfl)
        subst e5
        have hq := run_index_hexs W (x % 16) (by omega); rw [show ((x % 16 : Nat) : Int) = (x : Int) % 16 by omega] at hq
        refine ⟨by kernel_rfl, ?_⟩
        gi_step
        exact hK _ _ (Fr.refl _ _) rfl trivial
      simp only [Act.put, List.setIfInBounds_toArray, List.set_cons_succ, List.set_cons_zero]
      refine factWalkG_cons (fun W hW hf K hK => ?_) (fun x7 => ?_)
      · skip
        have e3 : x3 = .int .u8 ((hxd (x / 16)).toNat : Nat) := hf 3 (by omega) (by kernel_rfl)
        have e6 : x6 = .int .u8 ((hxd (x % 16)).toNat : Nat) := hf 6 (by omega) (by kernel_rfl)
        subst e3 e6
        refine ⟨by kernel_rfl, ?_⟩
        gi_step
        exact hK _ _ ((Fr.refl _ _).alloc _) ⟨_, rfl, Blk.new _ _ _⟩ trivial
      simp only [Act.put, List.setIfInBounds_toArray, List.set_cons_succ, List.set_cons_zero]
      refine factWalkG_nil (fun W hW hf7 hmet => ?_)
      obtain ⟨gg, e7, b7⟩ : ∃ g, x7 = .slice (some ⟨g, 0, none⟩) 2 2 ∧ Blk W g 5 #[.int .u8 ((hxd (x / 16)).toNat : Nat), .int .u8 ((hxd (x % 16)).toNat : Nat)] := hf7 7 (by omega)
      have e0 : x0 = .slice Aq p cq := hf7 0 (by omega)
      subst e0 e7
      have hWf := HDR.out W hW
      have oW := own_fr ho.out hWf (fun _ _ h => h)
      have zW : w.heap.size ≤ W.heap.size := Nat.le_trans hf.out.size hWf.size
      obtain ⟨v9, w9, hr9, o9, f9, n9⟩ := run_app (P := Tryz.prog) W w.heap.size 43 43 43 5 i0 _ 1 1 Tryz.underlying43 HI0.out hz0' hz1' hz2' rfl (.slice Aq p cq) p _ oW (.slice (some ⟨gg, 0, none⟩) 2 2) 2 [.int .u8 ((hxd (x / 16)).toNat : Nat), .int .u8 ((hxd (x % 16)).toNat : Nat)] (Src.rd Tryz.underlying43 _ (Rd.of_blk b7 (Nat.le_refl _)) (by simp [Value.oneCell'])) (by omega) (by unfold maxLen; omega) zW
      have F9 := Lib.hid ((hf.out.trans hWf (fun _ _ h => h)).trans f9 (fun i hi hq => by have := (ho.out.lt i hq).1; omega))
      have O9 := Lib.hid o9
      clear o9 f9 n9 oW hWf b7 hmet hf7 HDR hW zW ho hf
      change wpAnyIn _ _ _ _ _ _ 2 _ _ _
      refine wpAnyIn_ready (rs := [8]) (by kernel_rfl) (by simp) ?_
      refine AllReadyIn.cons rfl (fun K hK => ?_) AllReadyIn.nil
      refine stepIn_append rfl (.tmp 20) (.tmp 27) _ _ rfl _ _ rfl rfl hr9 ?_
      refine hK _ _ ?_
      clear hK K hr9
      simp only [Act.put, List.setIfInBounds_toArray, List.set_cons_succ, List.set_cons_zero]
      refine wpAnyIn_ready (rs := [9]) (by kernel_rfl) (by simp) ?_
      refine AllReadyIn.cons rfl (fun K hK => ?_) AllReadyIn.nil
      go_simp
      refine hK _ _ ?_
      refine wpAnyIn_done (by kernel_rfl) ?_ _
      clear hK K
      obtain ⟨A9, c9, rfl, -, -⟩ := own_slice O9.out
      go_wp2_with fail
      have O10 : Hid (w9.ownsRow w.heap.size 5 1 (.slice A9 (p + 2) c9) (p + 2) (bv (D ++ 45 :: hexL (s.take (k + 1))))) := by
        have h := O9.out
        rw [HSN.out, show bv (D ++ 45 :: (hexL (s.take k) ++ [hxd (x / 16), hxd (x % 16)])) = bv (D ++ 45 :: hexL (s.take k)) ++ [.int .u8 ((hxd (x / 16)).toNat : Nat), .int .u8 ((hxd (x % 16)).toNat : Nat)] by simp [bv]]
        exact h
      have hp2 : p + 2 = d + 1 + 2 * (k + 1) := by have := HP.out; omega
      rw [hp2] at O10 ⊢
      exact ⟨⟨k + 1, A9, c9, rfl, by go_num, by omega, O10, F9.out⟩, by simp [intOf]; omega⟩
    case neg =>
      obtain rfl : k = 16 := by omega
      have hcv := fun W (h : Rd W Aq (d + 1 + 2 * 16) (bv (D ++ 45 :: hexL (s.take 16)))) => conv_str W Aq (d + 1 + 2 * 16) cq _ h
      have hcw := hcv wr (Rd.of_own ho.out)
      have e16 : D ++ 45 :: hexL (s.take 16) = txt g s := by rw [List.take_of_length_le (by omega), hr4.out]; rfl
      rw [e16] at hcw
      clear hcv e16 hs16
      go_wp2_with fail
      go_ret2
      exact ⟨rfl, hf.out⟩
end Go.Proofs.YtjaocgmicdnghaaGreatDoor

/-
  CONTRACT of rev.Parse.
-/
namespace Go.Proofs.YtjaocgmicdnghaaGreatDoor
set_option linter.unusedSimpArgs false
set_option linter.unusedVariables false
open Go Go.RowKit Go.Shelf
attribute [local go_sem] Oper.semAt_some

theorem run_index_strOf (W : World) (l : List UInt8) (i : Nat) (h : i < l.length) : (Instr.index 9 (.string (strOf l)) (.int .i64 (i : Nat))).run Tryz.prog W = .ok (.int .u8 ((l[i]'h).toNat : Nat)) W := by
  rw [run_index_string W _ _ _ _ Tryz.underlying9]
  rw [dif_pos ⟨by omega, by rw [strOf_size]; omega⟩]
  rfl
theorem dgt_index : ∀ c : UInt8, ((Lib.indexByte hexs c) % 256) % 16 = (dgt c : Nat) := by
  intro c
  have : ∀ k : Fin 256, ((Lib.indexByte hexs (UInt8.ofNat k.val)) % 256) % 16 = (dgt (UInt8.ofNat k.val) : Nat) := by decide +kernel
  have h := this ⟨c.toNat, c.toNat_lt⟩
  simpa using h
set_option maxRecDepth 100000 in
theorem digit_c (w : World) (b i : Nat) (l : List UInt8) (hb : w.cell? ⟨b, 0, none⟩ = some (.string (strOf l))) (hi : i < l.length) (hl : l.length ≤ 1000) :
    Calls Tryz.prog 23 #[.int .i64 (i : Nat), .pointer (some ⟨b, 0, none⟩)] w fun e w' => e = .returned (.int .u8 (dgt (l[i]'hi) : Nat)) ∧ w = w' := by
  have hix := fun W => run_index_strOf W l i hi
  have hdg := dgt_index (l[i]'hi)
  have h256 := (l[i]'hi).toNat_lt
  have hc := fun W => index_c W (l[i]'hi).toNat
  have e1 : Nat.toUInt8 (l[i]'hi).toNat = l[i]'hi := UInt8.ofNat_toNat
  simp only [e1] at hc
  obtain ⟨n, hn⟩ : ∃ n, Lib.indexByte hexs (l[i]'hi) = n := ⟨_, rfl⟩
  obtain ⟨d, hd⟩ : ∃ d, dgt (l[i]'hi) = d := ⟨_, rfl⟩
  rw [hn, hd] at hdg
  rw [hd]
  simp only [hn] at hc
  obtain ⟨x, hx⟩ : ∃ x, (l[i]'hi).toNat = x := ⟨_, rfl⟩
  rw [hx] at h256
  simp only [hx] at hc hix
  have HC := Lib.hid hc
  have HD := Lib.hid hdg
  clear hn hd hx hc hdg e1
  go_enter Tryz.func23, Tryz.ntmps23
  go_wp2_with fail
  refine (HC.out w).mono ?_
  rintro e w' ⟨rfl, rfl⟩
  go_wp2_with fail
  go_ret
  exact ⟨by rw [← HD.out]; rfl, rfl⟩

theorem results_two {P : Program} {fn : Func} {p q : Tmp} {ty : TypeId} (h : fn.results = #[.cell p ty, .tmp q]) (tmps : Array Value) (w : World) (g : Nat) (t : TypeId) (cs : Array Value) (fr : Nat × Nat) (d : TypeDesc)
    (hp : tmps.getD p undef = .pointer (some ⟨g, 0, none⟩)) (hg : w.heap[g]? = some (.cells cs t fr))
    (hu : P.underlying ty = some d) (hd : (match d with | .struct _ | .array _ _ => true | _ => false) = true) (hi : (P.info? ty).map (·.size) = some cs.size) :
    (results fn tmps).run P w = .ok (.tuple #[.agg cs, tmps.getD q undef]) w := by
  have hp' : tmps[p]?.getD undef = .pointer (some ⟨g, 0, none⟩) := by simpa using hp
  simp [results, h, hp', asAddr, run_loadVar_row w g t ty cs fr d hg hu hd hi]

def zN : List UInt8 := List.replicate 16 0
def parseV : Option (Nat × List UInt8) → Value
  | some x => .tuple #[.agg (rc x.1 x.2).toArray, .int .i64 0]
  | none => .tuple #[.agg (rc 0 zN).toArray, .int .i64 2]
theorem cut1_len (s : List UInt8) : (cut1 s).1.length ≤ s.length ∧ (cut1 s).2.length ≤ s.length := by
  unfold cut1 Lib.cut
  split <;> simp <;> omega
theorem rc_one (g : Nat) (s : List UInt8) : ∀ u ∈ rc g s, u.oneCell' = true := by
  intro u hu
  rcases List.mem_cons.1 hu with rfl | hu
  · rfl
  · exact bv_one s u hu
theorem rc_all (g : Nat) (s : List UInt8) : (rc g s).toArray.all (·.oneCell') = true := all_oneCell_toArray (rc_one g s)
theorem parse_none32 {s : List UInt8} (h : (cut1 s).2.length ≠ 32) : parse s = none := by
  cases hp : parse s with
  | none => rfl
  | some x =>
    obtain ⟨g, sum⟩ := x
    obtain ⟨h1, h2, rfl⟩ := parse_some hp
    rw [cut1_txt, hexL_length, h2] at h
    exact absurd rfl h
theorem rc_set (g : Nat) (l : List UInt8) (k : Nat) (c : UInt8) : (rc g l).toArray.setIfInBounds (1 + k) (.int .u8 (c.toNat : Nat)) = (rc g (l.set k c)).toArray := by
  rw [Nat.add_comm]
  simp [rc, bv, List.map_set]
theorem genOf_lt (l : List UInt8) : genOf l < 18446744073709551616 := by
  unfold genOf
  cases h : Lib.parseUintB 64 l
  · have := Lib.parseUintB_le h
    rename_i u
    show u < 18446744073709551616
    omega
  · show 0 < 18446744073709551616
    omega
  · show 18446744073709551615 < 18446744073709551616
    omega
theorem or_nib : ∀ a b : Fin 16, bits .or .u8 ((a.val : Int) * 16) (b.val : Int) = ((a.val * 16 + b.val : Nat) : Int) := by decide +kernel
def mid (L : List UInt8) (k : Nat) : List UInt8 := unhex (L.take (2 * k)) ++ List.replicate (16 - k) 0
theorem unhex_snoc2 : ∀ (l : List UInt8) (a b : UInt8), l.length % 2 = 0 → unhex (l ++ [a, b]) = unhex l ++ [UInt8.ofNat (dgt a * 16 + dgt b)]
  | [], a, b, _ => rfl
  | [x], _, _, h => by simp at h
  | x :: y :: l, a, b, h => by
    simp only [List.cons_append, unhex]
    rw [unhex_snoc2 l a b (by simp at h; omega)]
theorem mid_zero (L : List UInt8) : mid L 0 = zN := rfl
theorem mid_end {L : List UInt8} (h : L.length = 32) : mid L 16 = unhex L := by
  unfold mid
  rw [List.take_of_length_le (by omega)]
  simp
theorem mid_len {L : List UInt8} (h : L.length = 32) {k : Nat} (hk : k ≤ 16) : (mid L k).length = 16 := by
  unfold mid
  rw [List.length_append, unhex_length, List.length_take, List.length_replicate]
  omega
theorem mid_succ {L : List UInt8} (h : L.length = 32) {k : Nat} (hk : k < 16) : (mid L k).set k (UInt8.ofNat (dgt (L[2 * k]'(by omega)) * 16 + dgt (L[2 * k + 1]'(by omega)))) = mid L (k + 1) := by
  unfold mid
  have hl : (unhex (L.take (2 * k))).length = k := by rw [unhex_length, List.length_take]; omega
  rw [List.set_append_right _ _ (by omega), hl, Nat.sub_self, show 16 - k = (15 - k) + 1 by omega, List.replicate_succ, List.set_cons_zero]
  have ht : L.take (2 * (k + 1)) = L.take (2 * k) ++ [L[2 * k]'(by omega), L[2 * k + 1]'(by omega)] := by
    rw [show 2 * (k + 1) = 2 * k + 1 + 1 by omega, List.take_succ_eq_append_getElem (by omega), List.take_succ_eq_append_getElem (by omega), List.append_assoc]
    rfl
  rw [ht, unhex_snoc2 _ _ _ (by rw [List.length_take]; omega), List.append_assoc, show 16 - (k + 1) = 15 - k by omega]
  rfl
theorem tRev_size {g : Nat} {s : List UInt8} (hs : s.length = 16) : (Tryz.prog.info? 25).map (·.size) = some (rc g s).toArray.size := by rw [List.size_toArray, rc_len hs]; kernel_rfl

set_option maxRecDepth 100000 in
set_option maxHeartbeats 600000 in
theorem parse_c (w : World) (s : List UInt8) (hs : s.length ≤ 1000) (hL : LaidOk w) :
    Calls Tryz.prog 13 #[.string (strOf s)] w fun e w' => e = .returned (parseV (parse s)) ∧ Fr (fun _ => False) w w' := by
  have hcl := cut1_len s
  have hcut := fun W (hW : Fr (fun _ => False) w W) => cut_c W s hs (hL.far hW)
  have hpn := @parse_none32 s
  have hpd : parse s = if isName (genOf (cut1 s).1) (unhex (cut1 s).2) s then some (genOf (cut1 s).1, unhex (cut1 s).2) else none := rfl
  obtain ⟨D, hD⟩ : ∃ D, (cut1 s).1 = D := ⟨_, rfl⟩
  obtain ⟨L, hLL⟩ : ∃ L, (cut1 s).2 = L := ⟨_, rfl⟩
  rw [hD, hLL] at hcl
  simp only [hD, hLL] at hcut hpn hpd
  have hpu := fun W (hW : Fr (fun _ => False) w W) => parseUint_c W D (by omega) (hL.far hW)
  have HCUT := Lib.hid hcut
  have HPN := Lib.hid hpn
  have HPD := Lib.hid hpd
  have HPU := Lib.hid hpu
  have HL := Lib.hid hL
  have hl1000 : L.length ≤ 1000 := by omega
  clear hcut hpn hpd hpu hD hLL hcl hL hs
  go_enter Tryz.func13, Tryz.ntmps13
  go_upto_region 1 with fail
  refine abs_world (fun W => Hid (Blk W w.heap.size 25 (rc 0 zN).toArray) ∧ Hid (Fr (fun _ => False) w W)) ⟨Blk.new w _ _, (Fr.refl _ w).alloc _⟩ ?_
  rintro W1 ⟨B0, F1⟩
  go_wp2_with fail
  refine (HCUT.out W1 F1.out).mono ?_
  rintro e w2 ⟨rfl, f2⟩
  have F2 := Lib.hid (F1.out.trans f2 (fun _ _ h => h))
  have B2 := Lib.hid (B0.out.fr f2 (fun h => h))
  clear f2 F1 B0 HCUT
  go_upto_region 3 with fail
  have hlt2 : w.heap.size < w2.heap.size := B2.out.lt
  refine abs_world (fun W => Hid (Blk W w.heap.size 25 (rc 0 zN).toArray) ∧ Hid (Blk W w2.heap.size 9 #[.string (strOf L)]) ∧ Hid (Blk W (w2.heap.size + 1) 25 (rc 0 zN).toArray) ∧ Hid (Fr (fun _ => False) w W)) ⟨(B2.out.alloc _).alloc _, (Blk.new w2 _ _).alloc _, by have h := Blk.new (w2.alloc (.cells #[.string (strOf L)] 9)) 25 (rc 0 zN).toArray; rw [World.size_alloc] at h; exact h, (F2.out.alloc _).alloc _⟩ ?_
  rintro W3 ⟨B3, S3, R3, F3⟩
  obtain ⟨b5, hb5⟩ : ∃ b, w2.heap.size = b := ⟨_, rfl⟩
  rw [hb5] at S3 R3 hlt2 ⊢
  obtain ⟨b7, hb7⟩ : ∃ b, b5 + 1 = b := ⟨_, rfl⟩
  rw [hb7] at R3 ⊢
  obtain ⟨b2, hb2⟩ : ∃ b, w.heap.size = b := ⟨_, rfl⟩
  rw [hb2] at B3 hlt2 ⊢
  have HB := Lib.hid (And.intro hb2 (show b5 < b7 by omega))
  clear hb5 hb7 hb2 F2 B2
  have c5 : W3.cell? ⟨b5, 0, none⟩ = some (.string (strOf L)) := S3.out.cell 0
  by_cases h32 : L.length = 32
  case neg =>
    have hne : (((strOf L).size : Int) != 32) = true := by rw [strOf_size]; simp; omega
    have HSZ := Lib.hid (tRev_size (g := 0) (s := zN) rfl)
    have HTH : Hid (W3.there b2 0 (rc 0 zN).toArray.size) := B3.out.there
    have HST := Lib.hid (B3.out.setAll (ds := (rc 0 zN).toArray) rfl)
    have HONE := Lib.hid (rc_all 0 zN)
    have FST := Lib.hid (Fr.setCells (fp := fun k => k = b2) (a := W3) (g := b2) (fun _ => rfl) (rc 0 zN) 0 W3 (Fr.refl _ _))
    go_wp2_with (refine wpList_store_mid rfl 25 _ _ rfl b2 0 (rc 0 zN).toArray rfl rfl HTH.out HSZ.out HONE.out ?_)
    generalize W3.setCells b2 0 (rc 0 zN).toArray.toList = w9 at *
    refine bodyPost_ret (v := parseV none) (results_two Tryz.results13 _ _ b2 25 (rc 0 zN).toArray (0, 0) _ rfl HST.out Tryz.underlying25 rfl HSZ.out) rfl ⟨by rw [HPN.out h32], F3.out.trans FST.out (fun k hk e => by have := HB.out.1; omega)⟩
  case pos =>
    have heq : (((strOf L).size : Int) != 32) = false := by rw [strOf_size, h32]; rfl
    go_wp2_with fail
    clear heq c5
    go_loopw [23] (fun iv wr => ∃ k : Nat, iv = .int .i64 (k : Int) ∧ k ≤ 16 ∧ Hid (Blk wr b7 25 (rc 0 (mid L k)).toArray) ∧ Hid (Blk wr b5 9 #[.string (strOf L)]) ∧ Hid (Blk wr b2 25 (rc 0 zN).toArray) ∧ Hid (Fr (fun _ => False) w wr)) (fun iv _ => 16 - (intOf iv).toNat)
    case atStart => exact ⟨0, rfl, by omega, R3.out, S3.out, B3.out, F3.out⟩
    case round =>
      obtain ⟨k, rfl, hk, R4, S4, B4, F4⟩ := hrel
      have c5 : wr.cell? ⟨b5, 0, none⟩ = some (.string (strOf L)) := S4.out.cell 0
      by_cases hlt : k < 16
      case pos =>
        have hdl : decide ((k : Int) < 16) = true := decide_eq_true (by omega)
        have hml := mid_len h32 hk
        have hms := mid_succ h32 hlt
        obtain ⟨x0, cK⟩ : ∃ x0 : Nat, wr.cell? ⟨b7, 1 + k, none⟩ = some (.int .u8 (x0 : Nat)) := ⟨_, by
          rw [R4.out.cell, List.getElem?_toArray, Nat.add_comm]
          exact bv_get _ _ (by omega)⟩
        have mK := R4.out.frozen (1 + k)
        have dg1 := digit_c wr b5 (2 * k) L c5 (by omega) hl1000
        have dg2 := digit_c wr b5 (2 * k + 1) L c5 (by omega) hl1000
        have d1 := dgt_lt (L[2 * k]'(by omega))
        have d2 := dgt_lt (L[2 * k + 1]'(by omega))
        obtain ⟨x1, hx1⟩ : ∃ x, dgt (L[2 * k]'(by omega)) = x := ⟨_, rfl⟩
        obtain ⟨x2, hx2⟩ : ∃ x, dgt (L[2 * k + 1]'(by omega)) = x := ⟨_, rfl⟩
        rw [hx1] at dg1 d1 hms
        rw [hx2] at dg2 d2 hms
        rw [show ((2 * k : Nat) : Int) = 2 * (k : Int) by omega] at dg1
        rw [show ((2 * k + 1 : Nat) : Int) = 2 * (k : Int) + 1 by omega] at dg2
        have HMS := Lib.hid hms
        have HD1 := Lib.hid dg1
        have HD2 := Lib.hid dg2
        have HH := Lib.hid h32
        clear hms dg1 dg2 hx1 hx2 hml h32
        go_wp2_with fail
        refine HD1.out.mono ?_
        rintro e w' ⟨rfl, rfl⟩
        go_wp2_with fail
        refine HD2.out.mono ?_
        rintro e w' ⟨rfl, rfl⟩
        go_wp2_with fail
        have hor := or_nib ⟨x1, by omega⟩ ⟨x2, by omega⟩
        dsimp only at hor
        rw [hor]
        have hcv : ((x1 * 16 + x2 : Nat) : Int) = ((UInt8.ofNat (x1 * 16 + x2)).toNat : Nat) := by rw [UInt8.toNat_ofNat', Nat.mod_eq_of_lt (by omega)]
        rw [hcv]
        have R5 := R4.out.set_ (1 + k) (.int .u8 ((UInt8.ofNat (x1 * 16 + x2)).toNat : Nat))
        rw [rc_set, HMS.out] at R5
        have hbb := HB.out
        exact ⟨⟨k + 1, by go_num, by omega, R5, S4.out.far (by show b5 ≠ b7; omega) _, B4.out.far (by show b2 ≠ b7; omega) _, F4.out.setCell (fun h => by have : b7 < w.heap.size := h; omega) _⟩, by simp [intOf]; omega⟩
      case neg =>
        obtain rfl : k = 16 := by omega
        have hdl : decide (((16 : Nat) : Int) < 16) = false := by decide
        have hme := mid_end h32
        have R5 := Lib.hid (show Blk wr b7 25 (rc 0 (unhex L)).toArray by rw [← hme]; exact R4.out)
        have hul : (unhex L).length = 16 := by rw [unhex_length]; omega
        obtain ⟨U, hU⟩ : ∃ U, unhex L = U := ⟨_, rfl⟩
        have hpd := HPD.out
        rw [hU] at R5 hul hpd
        obtain ⟨G, hG⟩ : ∃ G, genOf D = G := ⟨_, rfl⟩
        have hG64 := genOf_lt D
        rw [hG] at hpd hG64
        have hpu := HPU.out
        rw [hG] at hpu
        have HPU2 := Lib.hid hpu
        have HPD2 := Lib.hid hpd
        have HUL := Lib.hid hul
        clear hme R4 hU hG hpd hpu hul HPU HPD HPN h32 hlt hk
        go_wp2_with fail
        refine (HPU2.out wr F4.out).mono ?_
        rintro e w5 ⟨xe, rfl, f5⟩
        have F5 := Lib.hid (F4.out.trans f5 (fun _ _ h => h))
        have R6 := Lib.hid (R5.out.fr f5 (fun h => h))
        have B6 := Lib.hid (B4.out.fr f5 (fun h => h))
        clear f5 F4 R5 B4 S4 c5
        have c0 : w5.cell? ⟨b7, 0, none⟩ = some (.int .u64 0) := R6.out.cell 0
        have m0 := R6.out.frozen 0
        go_upto_region 12 with fail
        refine abs_world (fun W => Hid (Blk W b7 25 (rc G U).toArray) ∧ Hid (Blk W b2 25 (rc 0 zN).toArray) ∧ Hid (Fr (fun _ => False) w W)) ⟨R6.out.set_ 0 (.int .u64 (G : Nat)), B6.out.far (by have := HB.out; show b2 ≠ b7; omega) _, F5.out.setCell (fun h => by have hbb := HB.out; have : b7 < w.heap.size := h; omega) _⟩ ?_
        rintro w7 ⟨R7, B7, F7⟩
        clear F5 R6 B6 c0 m0
        have HSR := Lib.hid (tRev_size (g := G) (s := U) HUL.out)
        cases hg : mayG G
        case false =>
          have hpr := print_no w7 G U HUL.out hG64 hg
          have hpn : parse s = none := by
            rw [HPD2.out, if_neg]
            rintro ⟨h, -, -⟩
            unfold mayG at hg
            simp at hg
            omega
          have HPN := Lib.hid hpn
          have HPR := Lib.hid hpr
          clear hpr hpn hg hG64
          go_wp2_with (refine wpList_load_row rfl 25 _ rfl b7 rfl 25 (rc G U).toArray (0, 0) _ R7.out Tryz.underlying25 rfl HSR.out ?_)
          refine HPR.out.mono ?_
          rintro e w8 ⟨rfl, f8⟩
          have F8 := Lib.hid (F7.out.trans f8 (fun _ _ h => h))
          have B8 := Lib.hid (B7.out.fr f8 (fun h => h))
          clear f8 F7 B7 R7 HPR
          have HSZ := Lib.hid (tRev_size (g := 0) (s := zN) rfl)
          have HTH : Hid (w8.there b2 0 (rc 0 zN).toArray.size) := B8.out.there
          have HST := Lib.hid (B8.out.setAll (ds := (rc 0 zN).toArray) rfl)
          have HONE := Lib.hid (rc_all 0 zN)
          have FST := Lib.hid (Fr.setCells (fp := fun k => k = b2) (a := w8) (g := b2) (fun _ => rfl) (rc 0 zN) 0 w8 (Fr.refl _ _))
          go_wp2_with (refine wpList_store_mid rfl 25 _ _ rfl b2 0 (rc 0 zN).toArray rfl rfl HTH.out HSZ.out HONE.out ?_)
          generalize w8.setCells b2 0 (rc 0 zN).toArray.toList = w9 at *
          refine bodyPost_ret (v := parseV none) (results_two Tryz.results13 _ _ b2 25 (rc 0 zN).toArray (0, 0) _ rfl HST.out Tryz.underlying25 rfl HSZ.out) rfl ⟨by rw [HPN.out], F8.out.trans FST.out (fun k hk e => by have := HB.out.1; omega)⟩
        case true =>
          have hpr := print_yes w7 G U HUL.out hg (HL.out.far F7.out)
          have hg2 : 1 ≤ G ∧ G ≤ 4611686018427387903 := by unfold mayG at hg; simpa using hg
          have HG2 := Lib.hid hg2
          have HPR := Lib.hid hpr
          clear hpr hg hG64 hg2
          go_wp2_with (refine wpList_load_row rfl 25 _ rfl b7 rfl 25 (rc G U).toArray (0, 0) _ R7.out Tryz.underlying25 rfl HSR.out ?_)
          refine HPR.out.mono ?_
          rintro e w8 ⟨rfl, f8⟩
          have F8 := Lib.hid (F7.out.trans f8 (fun _ _ h => h))
          have B8 := Lib.hid (B7.out.fr f8 (fun h => h))
          have R8 := Lib.hid (R7.out.fr f8 (fun h => h))
          clear f8 F7 B7 R7 HPR
          by_cases ht : txt G U = s
          case neg =>
            have hpn : parse s = none := by
              rw [HPD2.out, if_neg]
              rintro ⟨-, -, h⟩
              exact ht h
            have HPN := Lib.hid hpn
            have hne : ((strOf (txt G U)).toList != (strOf s).toList) = true := by rw [strOf_toList, strOf_toList]; simpa using ht
            have hne2 : ((strOf (txt G U)).toList == (strOf s).toList) = false := by rw [strOf_toList, strOf_toList]; simpa using ht
            obtain ⟨T, hT⟩ : ∃ T, txt G U = T := ⟨_, rfl⟩
            rw [hT] at hne hne2 ⊢
            go_upto_region 13 with fail
            clear HG2 HSR R8
            go_upto_region 14 with fail
            clear hT ht hpn
            have HSZ := Lib.hid (tRev_size (g := 0) (s := zN) rfl)
            have HTH : Hid (w8.there b2 0 (rc 0 zN).toArray.size) := B8.out.there
            have HST := Lib.hid (B8.out.setAll (ds := (rc 0 zN).toArray) rfl)
            have HONE := Lib.hid (rc_all 0 zN)
            have FST := Lib.hid (Fr.setCells (fp := fun k => k = b2) (a := w8) (g := b2) (fun _ => rfl) (rc 0 zN) 0 w8 (Fr.refl _ _))
            go_wp2_with (refine wpList_store_mid rfl 25 _ _ rfl b2 0 (rc 0 zN).toArray rfl rfl HTH.out HSZ.out HONE.out ?_)
            generalize w8.setCells b2 0 (rc 0 zN).toArray.toList = w9 at *
            refine bodyPost_ret (v := parseV none) (results_two Tryz.results13 _ _ b2 25 (rc 0 zN).toArray (0, 0) _ rfl HST.out Tryz.underlying25 rfl HSZ.out) rfl ⟨by rw [HPN.out], F8.out.trans FST.out (fun k hk e => by have := HB.out.1; omega)⟩
          case pos =>
            have hpn : parse s = some (G, U) := by rw [HPD2.out, if_pos ⟨HG2.out, HUL.out, ht⟩]
            have HPN := Lib.hid hpn
            rw [ht]
            have heq : ((strOf s).toList != (strOf s).toList) = false := by simp
            have HTH : Hid (w8.there b2 0 (rc G U).toArray.size) := by have h := B8.out.there; rw [List.size_toArray, rc_len HUL.out]; exact h
            have HST := Lib.hid (B8.out.setAll (ds := (rc G U).toArray) (by rw [List.size_toArray, List.size_toArray, rc_len HUL.out]; rfl))
            have HONE := Lib.hid (rc_all G U)
            have FST := Lib.hid (Fr.setCells (fp := fun k => k = b2) (a := w8) (g := b2) (fun _ => rfl) (rc G U) 0 w8 (Fr.refl _ _))
            obtain ⟨C, hC⟩ : ∃ C, (rc G U).toArray = C := ⟨_, rfl⟩
            have hCl : C.toList = rc G U := by rw [← hC]
            rw [hC] at R8 HTH HST HONE HSR
            rw [← hCl] at FST
            have HC := Lib.hid hC
            clear hpn hC hCl ht
            go_wp2_with (first
              | refine wpList_load_row rfl 25 _ rfl b7 rfl 25 C (0, 0) _ R8.out Tryz.underlying25 rfl HSR.out ?_
              | refine wpList_store_mid rfl 25 _ _ rfl b2 0 C rfl rfl HTH.out HSR.out HONE.out ?_)
            generalize w8.setCells b2 0 C.toList = w9 at *
            refine bodyPost_ret (v := .tuple #[.agg C, .int .i64 0]) (results_two Tryz.results13 _ _ b2 25 C (0, 0) _ rfl HST.out Tryz.underlying25 rfl HSR.out) rfl ⟨by rw [HPN.out, ← HC.out]; rfl, F8.out.trans FST.out (fun k hk e => by have := HB.out.1; omega)⟩
end Go.Proofs.YtjaocgmicdnghaaGreatDoor
