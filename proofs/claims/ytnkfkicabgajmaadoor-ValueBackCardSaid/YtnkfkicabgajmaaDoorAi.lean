/-
  CONTRACT of strconv.AppendInt at base ten, onto a row of bytes that grows at its end.
-/
import Derived.Test.YtnkfkicabgajmaaDoorQuo
import Derived.Test.YtnkfkicabgajmaaDoorSh
import Derived.Shelf.Strconv.AppendInt10
namespace Go.Proofs
set_option linter.unusedSimpArgs false
set_option linter.unusedVariables false
open Go.Shelf
def Tryd.laysM284_ren : Go.Shelf.Ren := ⟨fun | 284 => 58 | 129 => 72 | 317 => 71 | 318 => 73 | n => n, fun | 53 => 75 | 3 => 3 | 212 => 94 | 0 => 0 | 4 => 4 | 46 => 91 | 5 => 5 | 9 => 9 | n => n, fun | 17 => 0 | n => n⟩
theorem Tryd.laysM284 : Go.Proofs.LaysM.n284 Tryd.prog Tryd.laysM284_ren := {
  mixed := by kernel_rfl
  f129 := Tryd.func72.trans (congrArg some (by kernel_rfl))
  f284 := Tryd.func58.trans (congrArg some (by kernel_rfl))
  f317 := Tryd.func71.trans (congrArg some (by kernel_rfl))
  f318 := Tryd.func73.trans (congrArg some (by kernel_rfl))
  t0 := Tryd.underlying0
  a0 := Tryd.isAgg0
  z0 := Tryd.sizeOf0
  v0 := Tryd.zeroValue0
  t3 := Tryd.underlying3
  a3 := Tryd.isAgg3
  z3 := Tryd.sizeOf3
  v3 := Tryd.zeroValue3
  t4 := Tryd.underlying4
  a4 := Tryd.isAgg4
  z4 := Tryd.sizeOf4
  v4 := Tryd.zeroValue4
  t5 := Tryd.underlying5
  a5 := Tryd.isAgg5
  z5 := Tryd.sizeOf5
  v5 := Tryd.zeroValue5
  t9 := Tryd.underlying9
  a9 := Tryd.isAgg9
  z9 := Tryd.sizeOf9
  v9 := Tryd.zeroValue9
  t46 := Tryd.underlying91
  a46 := Tryd.isAgg91
  z46 := Tryd.sizeOf91
  v46 := Tryd.zeroValue91
  t53 := Tryd.underlying75
  a53 := Tryd.isAgg75
  z53 := Tryd.sizeOf75
  v53 := Tryd.zeroValue75
  t212 := Tryd.underlying94
  a212 := Tryd.isAgg94
  z212 := Tryd.sizeOf94
  v212 := Tryd.zeroValue94
  g17 := by kernel_rfl
  i0 := by kernel_rfl
  i3 := by kernel_rfl
  i4 := by kernel_rfl
  i5 := by kernel_rfl
  i9 := by kernel_rfl
  i46 := by kernel_rfl
  i53 := by kernel_rfl
  i212 := by kernel_rfl
  m17 := by kernel_rfl }
def Tryd.lays285_ren : Go.Shelf.Ren := ⟨fun | 285 => 59 | n => n, fun | 37 => 37 | 53 => 75 | 3 => 3 | 4 => 4 | 51 => 95 | 9 => 9 | 5 => 5 | 0 => 0 | n => n, fun | n => n⟩
theorem Tryd.lays285 : Go.Proofs.Lays.n285 Tryd.prog Tryd.lays285_ren := {
  mixed := by kernel_rfl
  f285 := Tryd.func59.trans (congrArg some (by kernel_rfl))
  t0 := Tryd.underlying0
  a0 := Tryd.isAgg0
  z0 := Tryd.sizeOf0
  v0 := Tryd.zeroValue0
  t3 := Tryd.underlying3
  a3 := Tryd.isAgg3
  z3 := Tryd.sizeOf3
  v3 := Tryd.zeroValue3
  t4 := Tryd.underlying4
  a4 := Tryd.isAgg4
  z4 := Tryd.sizeOf4
  v4 := Tryd.zeroValue4
  t5 := Tryd.underlying5
  a5 := Tryd.isAgg5
  z5 := Tryd.sizeOf5
  v5 := Tryd.zeroValue5
  t9 := Tryd.underlying9
  a9 := Tryd.isAgg9
  z9 := Tryd.sizeOf9
  v9 := Tryd.zeroValue9
  t37 := Tryd.underlying37
  a37 := Tryd.isAgg37
  z37 := Tryd.sizeOf37
  v37 := Tryd.zeroValue37
  t51 := Tryd.underlying95
  a51 := Tryd.isAgg95
  z51 := Tryd.sizeOf95
  v51 := Tryd.zeroValue95
  t53 := Tryd.underlying75
  a53 := Tryd.isAgg75
  z53 := Tryd.sizeOf75
  v53 := Tryd.zeroValue75 }
def Tryd.lays283_ren : Go.Shelf.Ren := ⟨fun | 283 => 57 | n => n, fun | 3 => 3 | 9 => 9 | 4 => 4 | n => n, fun | n => n⟩
theorem Tryd.lays283 : Go.Proofs.Lays.n283 Tryd.prog Tryd.lays283_ren := {
  mixed := by kernel_rfl
  f283 := Tryd.func57.trans (congrArg some (by kernel_rfl))
  t3 := Tryd.underlying3
  a3 := Tryd.isAgg3
  z3 := Tryd.sizeOf3
  v3 := Tryd.zeroValue3
  t4 := Tryd.underlying4
  a4 := Tryd.isAgg4
  z4 := Tryd.sizeOf4
  v4 := Tryd.zeroValue4
  t9 := Tryd.underlying9
  a9 := Tryd.isAgg9
  z9 := Tryd.sizeOf9
  v9 := Tryd.zeroValue9 }
end Go.Proofs
namespace Go.Proofs.YtnkfkicabgajmaaDoor
open Go Go.RowKit Go.Shelf

theorem abs_calls_k {R : World → Prop} {w : World} (Φ : World → Prop) (h : Φ w) (k : ∀ W, Φ W → R W) : R w := k w h
theorem bv_byteCells (l : List UInt8) : Lib.byteCells l = bv l := rfl
theorem nDig20 (u : Nat) (h1 : 1 ≤ u) (hu : u < 18446744073709551616) : Lib.nDigits u ≤ 20 := by
  have := Lib.numDigits_eq u h1 hu
  split at this <;> omega
theorem zeros_holds (W : World) (t : TypeId) (q : Nat) (hq : q ≤ 24) : Sort.Holds (fun (b : UInt8) => Value.int .u8 (b.toNat : Int)) (W.alloc (.cells Lib.zeros24 t)) W.heap.size 0 (Array.replicate q 0) := Lib.holds_zero0 W t q hq
set_option maxRecDepth 100000 in
set_option maxHeartbeats 2000000 in
theorem appendUint_c (w : World) (base n : Nat) (xs X : List Value) (A : Option Addr) (c : Nat) (u : Nat) (hu : u < 18446744073709551616) (hown : w.ownsRow base 5 1 (.slice A n c) n xs) (hq0 : 0 < n ∨ Value.slice A n c = .slice none 0 0) (hbase : base ≤ w.heap.size) (hn : n ≤ 140737488355000) (hX : xs ++ bv (Lib.decDigits u) <+: X) (hL : LaidOk w) :
    Calls Tryd.prog 54 #[.slice A n c, .int .u64 (u : Nat), .int .i64 10] w (AppQ base n xs (Lib.decDigits u) X w) := by
  obtain ⟨i0, hi0, hz0', hz1', hz2'⟩ := info_parts u8_info
  have HI0 := Lib.hid hi0
  have OW := Lib.hid hown
  have H0 := Lib.hid hq0
  have HX := Lib.hid hX
  have hdl := Lib.decDigits_length u
  by_cases h100 : u < 100
  · have hlen : (Lib.decDigits u).length ≤ 20 := by
      rw [hdl]
      by_cases h10 : u < 10
      · rw [Lib.nDigits_small h10]; omega
      · rw [Lib.nDigits_big h10, Lib.nDigits_small (show u / 10 < 10 by omega)]; omega
    have SM := Lib.hid (fun W => Any.internal_strconv_small Tryd.lays283 u h100 W)
    have iu : (u : Int) < 100 := by omega
    obtain ⟨D, hD⟩ : ∃ D, Lib.decDigits u = D := ⟨_, rfl⟩
    rw [hD] at SM HX hlen ⊢
    have SRC := Lib.hid (fun W : World => (Src.ofString W Tryd.underlying9 ⟨D.toArray⟩ : Src Tryd.prog 1 9 (.string ⟨D.toArray⟩) (⟨D.toArray⟩ : ByteArray).size _ W))
    have hsz : (⟨D.toArray⟩ : ByteArray).size = D.length := by simp [ByteArray.size]
    rw [hsz] at SRC
    clear hi0 hown hq0 hX hD hdl hL hsz
    go_enter Tryd.func54, Tryd.ntmps54
    go_wp2_with fail
    refine (SM.out w).mono ?_
    rintro e w1 ⟨rfl, rfl⟩
    go_wp2_with (
      at_builtin
      refine wpList_appK rfl _ _ _ _ rfl base 5 i0 _ 1 Tryd.underlying37 HI0.out hz0' hz1' hz2' rfl (.slice A n c) n xs rfl OW.out H0.out _ D.length (bv D) rfl (SRC.out _) (by omega) (by unfold maxLen; omega) hbase ?_
      intro v3 W3 o3 g3
      obtain ⟨A3, c3, rfl, -, -⟩ := own_slice o3
      have O3 := Lib.hid o3
      have G3 := Lib.hid g3
      clear o3 g3)
    go_ret
    exact ⟨A3, c3, rfl, O3.out, G3.out X HX.out⟩
  · have hnd := nDig20 u (by omega) hu
    have hal : Tryd.prog.arrayLen 77 = 24 := by kernel_rfl
    have hsl : ∀ W, (Instr.sliceAt 77 (.pointer (some ⟨w.heap.size, 0, none⟩)) none (some (.int .i64 (Lib.nDigits u : Int))) none).run Tryd.prog W = .ok (.slice (some ⟨w.heap.size, 0, none⟩) (Lib.nDigits u) 24) W := fun W => by
      rw [run_sliceAt_array_h W 77 ⟨w.heap.size, 0, none⟩ (by kernel_rfl) .i64 (Lib.nDigits u : Int) (by omega) (by rw [hal]; omega)]
      go_simp
    have hH0 := zeros_holds w 77 (Lib.nDigits u) (by omega)
    have hfmt := Any.internal_strconv_formatBase10 Tryd.lays285 w.heap.size 0 24 u (Array.replicate (Lib.nDigits u) 0) (w.alloc (.cells Lib.zeros24 77)) hH0 (by rw [Array.size_replicate]; exact Lib.lt_pow_nDigits u) hu (by rw [Array.size_replicate]; omega)
    rw [Array.size_replicate] at hfmt
    have ND := Lib.hid (fun W (hW : Fr (fun _ => False) w W) => Any.internal_strconv_numDigits Tryd.laysM284 u (by omega) hu W (hL.far hW).pow)
    have HH0 := Lib.hid hH0
    have HF := Lib.hid hfmt
    have HDL := Lib.hid hdl
    have iu : (100 : Int) ≤ (u : Int) := by omega
    clear hi0 hown hq0 hX hH0 hfmt hal hL hdl
    go_enter Tryd.func54, Tryd.ntmps54
    go_wp2_with fail
    refine (ND.out _ ((Fr.refl _ w).alloc _)).mono ?_
    rintro e w1 ⟨rfl, rfl⟩
    go_wp2_with fail
    refine HF.out.mono ?_
    rintro e w2 ⟨rfl, k, v', dk, rfl, hF⟩
    have hcells : ∀ j u', (bv (Lib.decDigits u))[j]? = some u' → ((Sort.putRow (fun (b : UInt8) => Value.int .u8 (b.toNat : Int)) (w.alloc (.cells Lib.zeros24 77)) w.heap.size 0 dk).drewN k).cell? ⟨w.heap.size, j, none⟩ = some u' := by
      intro j u' hj
      have hjl : j < (Lib.decDigits u).length := by
        have h5 := (List.getElem?_eq_some_iff.1 hj).1
        rwa [bv_length] at h5
      rw [bv_get _ j hjl] at hj
      cases hj
      rw [Lib.row_is_numeral hF j hjl, World.cell?_drewN]
      have := Sort.cell?_putRow (fun (b : UInt8) => Value.int .u8 (b.toNat : Int)) _ w.heap.size 0 _ dk HH0.out (by rw [hF.size, Array.size_replicate]) j (by rw [hF.size]; rw [Lib.decDigits_length] at hjl; exact hjl)
      rw [Nat.zero_add] at this
      exact this
    obtain ⟨os, eo⟩ := Lib.fin_at w (.cells Lib.zeros24 77) dk k 0
    have hfr : Fr (fun _ => False) w ((Sort.putRow (fun (b : UInt8) => Value.int .u8 (b.toNat : Int)) (w.alloc (.cells Lib.zeros24 77)) w.heap.size 0 dk).drewN k) := by
      rw [eo]
      exact fr_below (Lib.below_grow w.heap.size w (Nat.le_refl _) k os)
    refine abs_calls_k (fun W => (∀ j u', (bv (Lib.decDigits u))[j]? = some u' → W.cell? ⟨w.heap.size, j, none⟩ = some u') ∧ Hid (Fr (fun _ => False) w W)) ⟨hcells, hfr⟩ ?_
    clear hcells hfr eo os hF dk v' HH0 HF ND
    rintro W2 ⟨hcells, F2⟩
    have SRC := Lib.hid (Src.rd (P := Tryd.prog) (w := W2) Tryd.underlying37 (A := some ⟨w.heap.size, 0, none⟩) (n := Lib.nDigits u) 24 (xs := bv (Lib.decDigits u)) ⟨by rw [bv_length]; exact HDL.out, fun _ => ⟨_, rfl, fun j u' hj => by rw [Addr.add_lit, Nat.zero_add]; exact hcells j u' hj⟩⟩ (bv_one _))
    have HCL := Lib.hid hcells
    have hz := F2.out.size
    clear hcells
    go_wp2_with (
      at_builtin
      refine wpList_appK rfl _ _ _ _ rfl base 5 i0 _ 1 Tryd.underlying37 HI0.out hz0' hz1' hz2' rfl (.slice A n c) n xs rfl (own_fr OW.out F2.out (fun _ _ h => h)) H0.out _ (Lib.nDigits u) (bv (Lib.decDigits u)) rfl SRC.out (by omega) (by unfold maxLen; omega) (by omega) ?_
      intro v3 W3 o3 g3
      obtain ⟨A3, c3, rfl, -, -⟩ := own_slice o3
      have O3 := Lib.hid o3
      have G3 := Lib.hid g3
      clear o3 g3)
    go_ret
    refine ⟨A3, c3, ret_slice (by rw [HDL.out]), ?_, (GK.far F2.out).trans (G3.out X HX.out)⟩
    rw [HDL.out]
    exact O3.out
set_option maxRecDepth 100000 in
set_option maxHeartbeats 2000000 in
theorem appendInt_c (w : World) (base n : Nat) (xs X : List Value) (A : Option Addr) (c : Nat) (i : Int) (h0 : -9223372036854775808 ≤ i) (h1 : i ≤ 9223372036854775807) (hown : w.ownsRow base 5 1 (.slice A n c) n xs) (hq0 : 0 < n ∨ Value.slice A n c = .slice none 0 0) (hbase : base ≤ w.heap.size) (h8 : 8 ≤ base) (hn : n ≤ 140737488354000) (hX : xs ++ bv (decI i) <+: X) (hL : LaidOk w) :
    Calls Tryd.prog 22 #[.slice A n c, .int .i64 i, .int .i64 10] w (AppQ base n xs (decI i) X w) := by
  obtain ⟨i0, hi0, hz0', hz1', hz2'⟩ := info_parts u8_info
  have HI0 := Lib.hid hi0
  have OW := Lib.hid hown
  have H0 := Lib.hid hq0
  have HX := Lib.hid hX
  have HL := Lib.hid hL
  have inner : Calls Tryd.prog 40 #[.slice A n c, .int .i64 i, .int .i64 10] w (AppQ base n xs (decI i) X w) := by
    clear hi0 hown hq0 hX hL
    by_cases hneg : i < 0
    · obtain ⟨u, rfl⟩ : ∃ u : Nat, i = -(u : Int) := ⟨i.natAbs, by omega⟩
      have hu1 : 1 ≤ u := by omega
      have hwr : IntKind.u64.wrap (-IntKind.u64.wrap (-(u : Int))) = (u : Int) := by rw [IntKind.wrap_u64, IntKind.wrap_u64]; omega
      have hd : decI (-(u : Int)) = 45 :: Lib.decDigits u := Lib.itoa_neg u hu1
      have HD := Lib.hid hd
      have P1 : Hid (xs ++ bv [45] <+: X) := Lib.hid (pre_of HX.out ⟨Lib.decDigits u, by rw [hd]; rfl⟩)
      have hu2 : u < 18446744073709551616 := by omega
      clear hd
      go_enter Tryd.func40, Tryd.ntmps40
      go_wp2_with (at_builtin
                   refine wpList_appK rfl _ _ _ _ rfl base 5 i0 _ 1 Tryd.underlying37 HI0.out hz0' hz1' hz2' rfl (.slice A n c) n xs rfl (own_al OW.out _) H0.out _ 1 [.int .u8 45] rfl (src1 w 45) (by omega) (by unfold maxLen; omega) (by rw [World.size_alloc]; omega) ?_
                   intro v1 W1 o1 g1
                   obtain ⟨A1, c1, rfl, -, -⟩ := own_slice o1
                   have O1 := Lib.hid o1
                   have G1 := Lib.hid g1
                   clear o1 g1)
      have K1 : Hid (GK 5 base X w W1) := Lib.hid (G1.out X P1.out).alloc1
      have hz := K1.out.1.lt
      have hL1 := HL.out.fr K1.out.1.old (fun k hk h => by omega)
      have hx : xs ++ [.int .u8 45] ++ bv (Lib.decDigits u) = xs ++ bv (decI (-(u : Int))) := by rw [HD.out, List.append_assoc]; rfl
      have CALL := Lib.hid (appendUint_c W1 base (n + 1) (xs ++ [.int .u8 45]) X A1 c1 u hu2 O1.out (.inl (by omega)) (by omega) (by omega) (by rw [hx]; exact HX.out) hL1)
      have HXX := Lib.hid hx
      clear hx hL1
      refine CALL.out.mono ?_
      rintro e W2 ⟨A2, c2, rfl, o2, g2⟩
      have O2 := Lib.hid o2
      have K2 := Lib.hid (K1.out.trans g2)
      clear o2 g2 CALL hwr
      go_wp2_with fail
      go_ret
      have hlen : n + 1 + (Lib.decDigits u).length = n + (decI (-(u : Int))).length := by rw [HD.out]; simp; omega
      refine ⟨A2, c2, ret_slice hlen, ?_, K2.out⟩
      have := O2.out
      rw [HXX.out, hlen] at this
      exact this
    · obtain ⟨u, rfl⟩ : ∃ u : Nat, i = u := ⟨i.toNat, by omega⟩
      have hd : decI (u : Int) = Lib.decDigits u := Lib.itoa_nonneg u
      rw [hd] at HX ⊢
      have hu2 : u < 18446744073709551616 := by omega
      clear hd
      have CALL := Lib.hid (appendUint_c w base n xs X A c u hu2 OW.out H0.out (by omega) (by omega) HX.out HL.out)
      go_enter Tryd.func40, Tryd.ntmps40
      go_wp2_with fail
      refine CALL.out.mono ?_
      rintro e W2 ⟨A2, c2, rfl, o2, g2⟩
      have O2 := Lib.hid o2
      have K2 := Lib.hid g2
      clear o2 g2 CALL
      go_wp2_with fail
      go_ret
      exact ⟨A2, c2, rfl, O2.out, K2.out⟩
  have INN := Lib.hid inner
  clear inner hi0 hown hq0 hX hL
  go_enter Tryd.func22, Tryd.ntmps22
  go_wp2_with fail
  refine INN.out.mono ?_
  rintro e W2 ⟨A2, c2, rfl, o2, g2⟩
  have O2 := Lib.hid o2
  have K2 := Lib.hid g2
  clear o2 g2 INN
  go_wp2_with fail
  go_ret
  exact ⟨A2, c2, rfl, O2.out, K2.out⟩
end Go.Proofs.YtnkfkicabgajmaaDoor
