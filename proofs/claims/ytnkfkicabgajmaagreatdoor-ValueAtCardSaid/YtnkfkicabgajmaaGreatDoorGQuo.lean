/-
  Quo, Ai, in one text (merge.py).
-/
import Derived.Test.YtnkfkicabgajmaaGreatDoorKeep
import Derived.Test.YtnkfkicabgajmaaGreatDoorGMay
import Derived.Test.YtnkfkicabgajmaaGreatDoorSh
import Derived.Shelf.Strconv.AppendInt10

/-
  CONTRACT of value.appendQuoted. Written by gen_print.py.
-/
namespace Go.Proofs.YtnkfkicabgajmaaGreatDoor
set_option linter.unusedSimpArgs false
set_option linter.unusedVariables false
open Go Go.RowKit

theorem u8_info : (Tryz.prog.info? 5).map (fun i => (i.zero, i.size, i.bytes)) = some (some (.int .u8 0), 1, 1) := by kernel_rfl
theorem ret_slice {A : Option Addr} {a b c : Nat} (h : a = b) : Ending.returned (.slice A a c) = .returned (.slice A b c) := by rw [h]
/-- What an appender of text leaves. -/
def AppQ (base n : Nat) (xs : List Value) (text : List UInt8) (X : List Value) (w : World) (e : Ending) (w' : World) : Prop :=
  ∃ A c, e = .returned (.slice A (n + text.length) c) ∧ w'.ownsRow base 5 1 (.slice A (n + text.length) c) (n + text.length) (xs ++ bv text) ∧ GK 5 base X w w'
theorem escs_snoc (l : List UInt8) (c : UInt8) : escs (l ++ [c]) = escs l ++ esc1 c := by simp [escs]
theorem escs_take (s : List UInt8) (i : Nat) (h : i < s.length) : escs (s.take (i + 1)) = escs (s.take i) ++ esc1 s[i] := by
  rw [List.take_succ_eq_append_getElem h, escs_snoc]
theorem escs_pre (s : List UInt8) (i : Nat) : escs (s.take i) <+: escs s := by
  refine ⟨escs (s.drop i), ?_⟩
  unfold escs
  rw [← List.flatMap_append, List.take_append_drop]
theorem pre_of {xs : List Value} {a b : List UInt8} {X : List Value} (h : xs ++ bv b <+: X) (hp : a <+: b) : xs ++ bv a <+: X := by
  obtain ⟨r, rfl⟩ := hp
  rw [bv_append, ← List.append_assoc] at h
  exact (List.prefix_append _ _).trans h
theorem bv1 (c : UInt8) : bv [c] = [.int .u8 (c.toNat : Nat)] := rfl
theorem src1 (w : World) (x : Int) : Src Tryz.prog 1 79 (.slice (some ⟨w.heap.size, 0, none⟩) 1 1) 1 [.int .u8 x] (w.alloc (.cells #[.int .u8 x] 5)) :=
  Src.rd Tryz.underlying79 _ (Rd.of_blk (Blk.new w 5 #[.int .u8 x]) (Nat.le_refl _)) (by simp [Value.oneCell'])
theorem GK.alloc1 {t : TypeId} {base : Nat} {X : List Value} {w w' : World} {o : Obj} (h : GK t base X (w.alloc o) w') : GK t base X w w' := (GK.far ((Fr.refl _ w).alloc o)).trans h
theorem own_al {w : World} {base : Nat} {e : TypeId} {size : Nat} {v : Value} {n : Nat} {xs : List Value} (h : w.ownsRow base e size v n xs) (o : Obj) : (w.alloc o).ownsRow base e size v n xs := own_fr h ((Fr.refl (fun _ => False) w).alloc o) (fun _ _ h => h)
set_option maxRecDepth 100000 in
set_option maxHeartbeats 2000000 in
theorem quoted_c (w : World) (base n : Nat) (xs X : List Value) (A : Option Addr) (c : Nat) (s : List UInt8) (hown : w.ownsRow base 5 1 (.slice A n c) n xs) (h0 : 0 < n ∨ Value.slice A n c = .slice none 0 0) (hbase : base ≤ w.heap.size) (hn : n + (quoted s).length ≤ 140737488355000) (hX : xs ++ bv (quoted s) <+: X) :
    Calls Tryz.prog 91 #[.slice A n c, .string (strOf s)] w (AppQ base n xs (quoted s) X w) := by
  obtain ⟨i0, hi0, hz0', hz1', hz2'⟩ := info_parts u8_info
  have HI0 := Lib.hid hi0
  have OW := Lib.hid hown
  have H0 := Lib.hid h0
  have HX := Lib.hid hX
  have hql := quoted_len s
  have hsz := strOf_size s
  have hne := nesc_le s
  clear hi0 hown hX h0
  rw [hql] at hn
  clear hql
  go_enter Tryz.func91, Tryz.ntmps91
  go_upto_region 2 with (first
    | (at_builtin
       refine wpList_appK rfl _ _ _ _ rfl base 5 i0 _ 1 Tryz.underlying79 HI0.out hz0' hz1' hz2' rfl (.slice A n c) n xs rfl (own_al OW.out _) H0.out _ 1 [.int .u8 34] rfl (src1 w 34) (by omega) (by unfold maxLen; omega) (by rw [World.size_alloc]; omega) ?_
       intro v1 W1 o1 g1
       obtain ⟨A1, c1, rfl, -, -⟩ := own_slice o1
       have O1 := Lib.hid o1
       have G1 := Lib.hid g1
       clear o1 g1))
  have P1 : Hid (xs ++ bv (34 :: escs (s.take 0)) <+: X) := Lib.hid (pre_of HX.out ⟨escs s ++ [34], by simp [quoted, escs]⟩)
  have K1 : Hid (GK 5 base X w W1) := Lib.hid (G1.out X P1.out).alloc1
  have Z1 := Lib.hid K1.out.1.lt
  clear G1 OW
  go_wp2_with fail
  go_loopw [0, 11] (fun ov iv wr => ∃ (i m : Nat) (A2 : Option Addr) (c2 : Nat), i ≤ s.length ∧ iv = .int .i64 (i : Int) ∧ ov = .slice A2 (n + m) c2 ∧ 0 < n + m ∧ Hid (m = 1 + (escs (s.take i)).length) ∧ Hid (wr.ownsRow base 5 1 (.slice A2 (n + m) c2) (n + m) (xs ++ bv (34 :: escs (s.take i)))) ∧ Hid (GK 5 base X w wr)) (fun _ iv _ => s.length - (intOf iv).toNat)
  case atStart => exact ⟨0, 1, A1, c1, Nat.zero_le _, rfl, rfl, by omega, rfl, O1.out, K1.out⟩
  case round =>
    obtain ⟨i, m, A2, c2, hi, rfl, rfl, hm0, hm, ho, hk⟩ := hrel
    have hz := hk.out.1.lt
    have hml : m ≤ 1 + s.length + nesc s := by
      have h1 := hm.out
      have h2 := (escs_pre s i).length_le
      have h3 := escs_len s
      omega
    by_cases hlt : i < s.length
    case neg =>
      obtain rfl : i = s.length := by omega
      have hdl : decide ((s.length : Int) < (s.length : Int)) = false := decide_eq_false (by omega)
      have hdl' : decide (s.length < s.length) = false := decide_eq_false (by omega)
      have htk : s.take s.length = s := List.take_length
      rw [htk] at ho hm
      clear htk hdl'
      go_wp2_with (first
        | (at_builtin
           refine wpList_appK rfl _ _ _ _ rfl base 5 i0 _ 1 Tryz.underlying79 HI0.out hz0' hz1' hz2' rfl (.slice A2 (n + m) c2) (n + m) (xs ++ bv (34 :: escs s)) rfl (own_al ho.out _) (.inl (by omega)) _ 1 [.int .u8 34] rfl (src1 wr 34) (by omega) (by unfold maxLen; omega) (by rw [World.size_alloc]; omega) ?_
           intro v3 W3 o3 g3
           obtain ⟨A3, c3, rfl, -, -⟩ := own_slice o3
           have O3 := Lib.hid o3
           have G3 := Lib.hid g3
           clear o3 g3))
      have hq : (34 :: escs s) ++ [34] = quoted s := rfl
      have hx3 : xs ++ bv (34 :: escs s) ++ [.int .u8 34] = xs ++ bv (quoted s) := by rw [← hq, bv_append, List.append_assoc]; rfl
      have hl3 : n + m + 1 = n + (quoted s).length := by rw [← hq, hm.out]; simp; omega
      have K3 : Hid (GK 5 base X w W3) := Lib.hid (hk.out.trans (G3.out X (by rw [hx3]; exact HX.out)).alloc1)
      have O3' := O3.out
      rw [hx3, hl3] at O3'
      have O4 := Lib.hid O3'
      have HL3 := Lib.hid hl3
      clear O3' hq hx3 G3 O3 hl3
      go_wp2_with fail
      go_ret
      exact ⟨A3, c3, ret_slice HL3.out, O4.out, K3.out⟩
    have hdl : decide ((i : Int) < (s.length : Int)) = true := decide_eq_true (by omega)
    have hdl' : decide (i < s.length) = true := decide_eq_true hlt
    have hix := fun W => run_index_str W s i hlt
    have hes := escs_take s i hlt
    have hsm : ((escs (s.take (i + 1))).length : Nat) ≤ s.length + nesc s := by
      have h2 := (escs_pre s (i + 1)).length_le
      have h3 := escs_len s
      omega
    have PN : Hid (xs ++ bv (34 :: escs (s.take (i + 1))) <+: X) := Lib.hid (pre_of HX.out (by
      obtain ⟨r, hr⟩ := escs_pre s (i + 1)
      exact ⟨r ++ [34], by rw [quoted, List.cons_append, ← List.append_assoc, hr]⟩))
    have HM := Lib.hid hsm
    obtain ⟨x, hx⟩ : ∃ x, s[i] = x := ⟨_, rfl⟩
    simp only [hx] at hix hes
    have HES := Lib.hid hes
    clear hx hes hsm
    by_cases he : x = 34 ∨ x = 92
    case pos =>
      have hxt : x.toNat = 34 ∨ x.toNat = 92 := by rcases he with rfl | rfl <;> simp
      have he1 : esc1 x = [92, x] := by rcases he with rfl | rfl <;> rfl
      have HE1 := Lib.hid he1
      clear he1
      have hm2 : m + 2 ≤ 1 + s.length + nesc s := by
        have h1 := HM.out
        rw [HES.out, HE1.out] at h1
        simp at h1
        have := hm.out
        omega
      obtain ⟨y, hy⟩ : ∃ y, x.toNat = y := ⟨_, rfl⟩
      rw [hy] at hxt
      simp only [hy] at hix
      have HY := Lib.hid hy
      clear hy he
      rcases hxt with rfl | rfl
      all_goals
        go_upto_region 7 with (first
          | (at_builtin
             refine wpList_appK rfl _ _ _ _ rfl base 5 i0 _ 1 Tryz.underlying79 HI0.out hz0' hz1' hz2' rfl (.slice A2 (n + m) c2) (n + m) (xs ++ bv (34 :: escs (s.take i))) rfl (own_al ho.out _) (.inl (by omega)) _ 1 [.int .u8 92] rfl (src1 wr 92) (by omega) (by unfold maxLen; omega) (by rw [World.size_alloc]; omega) ?_
             intro v3 W3 o3 g3
             obtain ⟨A3, c3, rfl, -, -⟩ := own_slice o3
             have O3 := Lib.hid o3
             have G3 := Lib.hid g3
             clear o3 g3))
        have hx3 : xs ++ bv (34 :: escs (s.take i)) ++ [.int .u8 92] = xs ++ bv (34 :: escs (s.take i) ++ [92]) := by rw [bv_append, List.append_assoc]; rfl
        have K3 : Hid (GK 5 base X w W3) := Lib.hid (hk.out.trans (G3.out X (by
          rw [hx3]
          have h := PN.out
          rw [HES.out, HE1.out] at h
          exact pre_of h ⟨[x], by simp⟩)).alloc1)
        have Z3 := K3.out.1.lt
        have O3' := O3.out
        rw [hx3] at O3'
        have O4 := Lib.hid O3'
        clear O3' hx3 G3 O3
        go_wp2_with (first
          | (at_builtin
             refine wpList_appK rfl _ _ _ _ rfl base 5 i0 _ 1 Tryz.underlying79 HI0.out hz0' hz1' hz2' rfl (.slice A3 (n + m + 1) c3) (n + m + 1) (xs ++ bv (34 :: escs (s.take i) ++ [92])) rfl (own_al O4.out _) (.inl (by omega)) _ 1 [.int .u8 _] rfl (src1 W3 _) (by omega) (by unfold maxLen; omega) (by rw [World.size_alloc]; omega) ?_
             intro v5 W5 o5 g5
             obtain ⟨A5, c5, rfl, -, -⟩ := own_slice o5
             have O5 := Lib.hid o5
             have G5 := Lib.hid g5
             clear o5 g5))
        have hx5 : ∀ z : Int, z = (x.toNat : Int) → xs ++ bv (34 :: escs (s.take i) ++ [92]) ++ [.int .u8 z] = xs ++ bv (34 :: escs (s.take (i + 1))) := by
          intro z hz
          rw [HES.out, HE1.out, hz, List.append_assoc, ← bv1, ← bv_append, List.append_assoc]
          rfl
        have O6 : Hid (W5.ownsRow base 5 1 (.slice A5 (n + m + 1 + 1) c5) (n + m + 1 + 1) (xs ++ bv (34 :: escs (s.take (i + 1))))) := by
          refine Lib.hid ?_
          have h := O5.out
          rw [hx5] at h
          · exact h
          · rw [HY.out]; rfl
        have K5 : Hid (GK 5 base X w W5) := Lib.hid (K3.out.trans (G5.out X (by
          rw [hx5]
          · exact PN.out
          · rw [HY.out]; rfl)).alloc1)
        have hm5 : Hid (m + 2 = 1 + (escs (s.take (i + 1))).length) := by
          refine Lib.hid ?_
          rw [HES.out, HE1.out, hm.out]
          simp
          omega
        clear hx5 G5 O5 hix
        go_wp2_with fail
        go_roundw
        case rel => exact ⟨i + 1, m + 2, A5, c5, by omega, by go_num, rfl, by omega, hm5.out, O6.out, K5.out⟩
        case measure => simp [intOf]; omega
    case neg =>
      simp only [not_or] at he
      have he1 : esc1 x = [x] := by unfold esc1; simp [he.1, he.2]
      have hxt : x.toNat ≠ 34 ∧ x.toNat ≠ 92 := ⟨fun h => he.1 (UInt8.toNat_inj.1 h), fun h => he.2 (UInt8.toNat_inj.1 h)⟩
      have HE1 := Lib.hid he1
      clear he1 he
      have hm2 : m + 1 ≤ 1 + s.length + nesc s := by
        have h1 := HM.out
        rw [HES.out, HE1.out] at h1
        simp at h1
        have := hm.out
        omega
      obtain ⟨y, hy⟩ : ∃ y, x.toNat = y := ⟨_, rfl⟩
      rw [hy] at hxt
      simp only [hy] at hix
      have HY := Lib.hid hy
      clear hy
      have e1 : ((y : Int) == 34) = false := by simp; omega
      have e2 : ((y : Int) == 92) = false := by simp; omega
      have e1' : (y == 34) = false := by simp; omega
      have e2' : (y == 92) = false := by simp; omega
      clear hxt
      go_wp2_with (first
        | (at_builtin
           refine wpList_appK rfl _ _ _ _ rfl base 5 i0 _ 1 Tryz.underlying79 HI0.out hz0' hz1' hz2' rfl (.slice A2 (n + m) c2) (n + m) (xs ++ bv (34 :: escs (s.take i))) rfl (own_al ho.out _) (.inl (by omega)) _ 1 [.int .u8 _] rfl (src1 wr _) (by omega) (by unfold maxLen; omega) (by rw [World.size_alloc]; omega) ?_
           intro v5 W5 o5 g5
           obtain ⟨A5, c5, rfl, -, -⟩ := own_slice o5
           have O5 := Lib.hid o5
           have G5 := Lib.hid g5
           clear o5 g5))
      have hx5 : xs ++ bv (34 :: escs (s.take i)) ++ [.int .u8 (y : Nat)] = xs ++ bv (34 :: escs (s.take (i + 1))) := by
        rw [HES.out, HE1.out, ← HY.out, List.append_assoc, ← bv1, ← bv_append]
        simp
      have O5' := O5.out
      rw [hx5] at O5'
      have K5 : Hid (GK 5 base X w W5) := Lib.hid (hk.out.trans (G5.out X (by rw [hx5]; exact PN.out)).alloc1)
      have O6 := Lib.hid O5'
      have hm5 : Hid (m + 1 = 1 + (escs (s.take (i + 1))).length) := by
        refine Lib.hid ?_
        rw [HES.out, HE1.out, hm.out]
        simp
        omega
      clear O5' hx5 G5 O5 hix
      go_wp2_with fail
      go_roundw
      case rel => exact ⟨i + 1, m + 1, A5, c5, by omega, by go_num, rfl, by omega, hm5.out, O6.out, K5.out⟩
      case measure => simp [intOf]; omega
end Go.Proofs.YtnkfkicabgajmaaGreatDoor

/-
  CONTRACT of strconv.AppendInt at base ten, onto a row of bytes that grows at its end.
-/
namespace Go.Proofs
set_option linter.unusedSimpArgs false
set_option linter.unusedVariables false
open Go.Shelf
def Tryz.laysM284_ren : Go.Shelf.Ren := ⟨fun | 284 => 105 | 129 => 120 | 317 => 119 | 318 => 121 | n => n, fun | 53 => 109 | 3 => 3 | 212 => 120 | 0 => 0 | 4 => 4 | 46 => 80 | 5 => 5 | 9 => 9 | n => n, fun | 17 => 3 | n => n⟩
theorem Tryz.laysM284 : Go.Proofs.LaysM.n284 Tryz.prog Tryz.laysM284_ren := {
  mixed := by kernel_rfl
  f129 := Tryz.func120.trans (congrArg some (by kernel_rfl))
  f284 := Tryz.func105.trans (congrArg some (by kernel_rfl))
  f317 := Tryz.func119.trans (congrArg some (by kernel_rfl))
  f318 := Tryz.func121.trans (congrArg some (by kernel_rfl))
  t0 := Tryz.underlying0
  a0 := Tryz.isAgg0
  z0 := Tryz.sizeOf0
  v0 := Tryz.zeroValue0
  t3 := Tryz.underlying3
  a3 := Tryz.isAgg3
  z3 := Tryz.sizeOf3
  v3 := Tryz.zeroValue3
  t4 := Tryz.underlying4
  a4 := Tryz.isAgg4
  z4 := Tryz.sizeOf4
  v4 := Tryz.zeroValue4
  t5 := Tryz.underlying5
  a5 := Tryz.isAgg5
  z5 := Tryz.sizeOf5
  v5 := Tryz.zeroValue5
  t9 := Tryz.underlying9
  a9 := Tryz.isAgg9
  z9 := Tryz.sizeOf9
  v9 := Tryz.zeroValue9
  t46 := Tryz.underlying80
  a46 := Tryz.isAgg80
  z46 := Tryz.sizeOf80
  v46 := Tryz.zeroValue80
  t53 := Tryz.underlying109
  a53 := Tryz.isAgg109
  z53 := Tryz.sizeOf109
  v53 := Tryz.zeroValue109
  t212 := Tryz.underlying120
  a212 := Tryz.isAgg120
  z212 := Tryz.sizeOf120
  v212 := Tryz.zeroValue120
  g17 := by kernel_rfl
  i0 := by kernel_rfl
  i3 := by kernel_rfl
  i4 := by kernel_rfl
  i5 := by kernel_rfl
  i9 := by kernel_rfl
  i46 := by kernel_rfl
  i53 := by kernel_rfl
  i212 := by kernel_rfl
  m17 := by kernel_rfl }
def Tryz.lays285_ren : Go.Shelf.Ren := ⟨fun | 285 => 106 | n => n, fun | 37 => 79 | 53 => 109 | 3 => 3 | 4 => 4 | 51 => 121 | 9 => 9 | 5 => 5 | 0 => 0 | n => n, fun | n => n⟩
theorem Tryz.lays285 : Go.Proofs.Lays.n285 Tryz.prog Tryz.lays285_ren := {
  mixed := by kernel_rfl
  f285 := Tryz.func106.trans (congrArg some (by kernel_rfl))
  t0 := Tryz.underlying0
  a0 := Tryz.isAgg0
  z0 := Tryz.sizeOf0
  v0 := Tryz.zeroValue0
  t3 := Tryz.underlying3
  a3 := Tryz.isAgg3
  z3 := Tryz.sizeOf3
  v3 := Tryz.zeroValue3
  t4 := Tryz.underlying4
  a4 := Tryz.isAgg4
  z4 := Tryz.sizeOf4
  v4 := Tryz.zeroValue4
  t5 := Tryz.underlying5
  a5 := Tryz.isAgg5
  z5 := Tryz.sizeOf5
  v5 := Tryz.zeroValue5
  t9 := Tryz.underlying9
  a9 := Tryz.isAgg9
  z9 := Tryz.sizeOf9
  v9 := Tryz.zeroValue9
  t37 := Tryz.underlying79
  a37 := Tryz.isAgg79
  z37 := Tryz.sizeOf79
  v37 := Tryz.zeroValue79
  t51 := Tryz.underlying121
  a51 := Tryz.isAgg121
  z51 := Tryz.sizeOf121
  v51 := Tryz.zeroValue121
  t53 := Tryz.underlying109
  a53 := Tryz.isAgg109
  z53 := Tryz.sizeOf109
  v53 := Tryz.zeroValue109 }
def Tryz.lays283_ren : Go.Shelf.Ren := ⟨fun | 283 => 104 | n => n, fun | 3 => 3 | 9 => 9 | 4 => 4 | n => n, fun | n => n⟩
theorem Tryz.lays283 : Go.Proofs.Lays.n283 Tryz.prog Tryz.lays283_ren := {
  mixed := by kernel_rfl
  f283 := Tryz.func104.trans (congrArg some (by kernel_rfl))
  t3 := Tryz.underlying3
  a3 := Tryz.isAgg3
  z3 := Tryz.sizeOf3
  v3 := Tryz.zeroValue3
  t4 := Tryz.underlying4
  a4 := Tryz.isAgg4
  z4 := Tryz.sizeOf4
  v4 := Tryz.zeroValue4
  t9 := Tryz.underlying9
  a9 := Tryz.isAgg9
  z9 := Tryz.sizeOf9
  v9 := Tryz.zeroValue9 }
end Go.Proofs
namespace Go.Proofs.YtnkfkicabgajmaaGreatDoor
set_option linter.unusedSimpArgs false
set_option linter.unusedVariables false
open Go Go.RowKit Go.Shelf

theorem abs_calls_k {R : World → Prop} {w : World} (Φ : World → Prop) (h : Φ w) (k : ∀ W, Φ W → R W) : R w := k w h
theorem bv_byteCells (l : List UInt8) : Lib.byteCells l = bv l := rfl
theorem nDig20 (u : Nat) (h1 : 1 ≤ u) (hu : u < 18446744073709551616) : Lib.nDigits u ≤ 20 := by
  have := Lib.numDigits_eq u h1 hu
  split at this <;> omega
theorem zeros_holds (W : World) (t : TypeId) (q : Nat) (hq : q ≤ 24) : Sort.Holds (fun (b : UInt8) => Value.int .u8 (b.toNat : Int)) (W.alloc (.cells Lib.zeros24 t)) W.heap.size 0 (Array.replicate q 0) := Lib.holds_zero0 W t q hq
set_option maxRecDepth 100000 in
set_option maxHeartbeats 2000000 in
theorem appendUint_c (w : World) (base n : Nat) (xs X : List Value) (A : Option Addr) (c : Nat) (u : Nat) (hu : u < 18446744073709551616) (hown : w.ownsRow base 5 1 (.slice A n c) n xs) (hq0 : 0 < n ∨ Value.slice A n c = .slice none 0 0) (hbase : base ≤ w.heap.size) (hn : n ≤ 140737488355000) (hX : xs ++ bv (Lib.decDigits u) <+: X) (hL : LaidOk w) :
    Calls Tryz.prog 128 #[.slice A n c, .int .u64 (u : Nat), .int .i64 10] w (AppQ base n xs (Lib.decDigits u) X w) := by
  obtain ⟨i0, hi0, hz0', hz1', hz2'⟩ := info_parts u8_info
  have HI0 := Lib.hid hi0
  have OW := Lib.hid hown
  have H0 := Lib.hid hq0
  have HX := Lib.hid hX
  have hdl := Lib.decDigits_length u
  by_cases h100 : u < 100
  · have hlen : (Lib.decDigits u).length ≤ 20 := by
      rw [hdl]
      by_cases h10 : u < 10
      · rw [Lib.nDigits_small h10]; omega
      · rw [Lib.nDigits_big h10, Lib.nDigits_small (show u / 10 < 10 by omega)]; omega
    have SM := Lib.hid (fun W => Any.internal_strconv_small Tryz.lays283 u h100 W)
    have iu : (u : Int) < 100 := by omega
    obtain ⟨D, hD⟩ : ∃ D, Lib.decDigits u = D := ⟨_, rfl⟩
    rw [hD] at SM HX hlen ⊢
    have SRC := Lib.hid (fun W : World => (Src.ofString W Tryz.underlying9 ⟨D.toArray⟩ : Src Tryz.prog 1 9 (.string ⟨D.toArray⟩) (⟨D.toArray⟩ : ByteArray).size _ W))
    have hsz : (⟨D.toArray⟩ : ByteArray).size = D.length := by simp [ByteArray.size]
    rw [hsz] at SRC
    clear hi0 hown hq0 hX hD hdl hL hsz
    go_enter Tryz.func128, Tryz.ntmps128
    go_wp2_with fail
    refine (SM.out w).mono ?_
    rintro e w1 ⟨rfl, rfl⟩
    go_wp2_with (
      at_builtin
      refine wpList_appK rfl _ _ _ _ rfl base 5 i0 _ 1 Tryz.underlying79 HI0.out hz0' hz1' hz2' rfl (.slice A n c) n xs rfl OW.out H0.out _ D.length (bv D) rfl (SRC.out _) (by omega) (by unfold maxLen; omega) hbase ?_
      intro v3 W3 o3 g3
      obtain ⟨A3, c3, rfl, -, -⟩ := own_slice o3
      have O3 := Lib.hid o3
      have G3 := Lib.hid g3
      clear o3 g3)
    go_ret
    exact ⟨A3, c3, rfl, O3.out, G3.out X HX.out⟩
  · have hnd := nDig20 u (by omega) hu
    have hal : Tryz.prog.arrayLen 108 = 24 := by kernel_rfl
    have hsl : ∀ W, (Instr.sliceAt 108 (.pointer (some ⟨w.heap.size, 0, none⟩)) none (some (.int .i64 (Lib.nDigits u : Int))) none).run Tryz.prog W = .ok (.slice (some ⟨w.heap.size, 0, none⟩) (Lib.nDigits u) 24) W := fun W => by
      rw [run_sliceAt_array_h W 108 ⟨w.heap.size, 0, none⟩ (by kernel_rfl) .i64 (Lib.nDigits u : Int) (by omega) (by rw [hal]; omega)]
      go_simp
    have hH0 := zeros_holds w 108 (Lib.nDigits u) (by omega)
    have hfmt := Any.internal_strconv_formatBase10 Tryz.lays285 w.heap.size 0 24 u (Array.replicate (Lib.nDigits u) 0) (w.alloc (.cells Lib.zeros24 108)) hH0 (by rw [Array.size_replicate]; exact Lib.lt_pow_nDigits u) hu (by rw [Array.size_replicate]; omega)
    rw [Array.size_replicate] at hfmt
    have ND := Lib.hid (fun W (hW : Fr (fun _ => False) w W) => Any.internal_strconv_numDigits Tryz.laysM284 u (by omega) hu W (hL.far hW).pow)
    have HH0 := Lib.hid hH0
    have HF := Lib.hid hfmt
    have HDL := Lib.hid hdl
    have iu : (100 : Int) ≤ (u : Int) := by omega
    clear hi0 hown hq0 hX hH0 hfmt hal hL hdl
    go_enter Tryz.func128, Tryz.ntmps128
    go_wp2_with fail
    refine (ND.out _ ((Fr.refl _ w).alloc _)).mono ?_
    rintro e w1 ⟨rfl, rfl⟩
    go_wp2_with fail
    refine HF.out.mono ?_
    rintro e w2 ⟨rfl, k, v', dk, rfl, hF⟩
    have hcells : ∀ j u', (bv (Lib.decDigits u))[j]? = some u' → ((Sort.putRow (fun (b : UInt8) => Value.int .u8 (b.toNat : Int)) (w.alloc (.cells Lib.zeros24 108)) w.heap.size 0 dk).drewN k).cell? ⟨w.heap.size, j, none⟩ = some u' := by
      intro j u' hj
      have hjl : j < (Lib.decDigits u).length := by
        have h5 := (List.getElem?_eq_some_iff.1 hj).1
        rwa [bv_length] at h5
      rw [bv_get _ j hjl] at hj
      cases hj
      rw [Lib.row_is_numeral hF j hjl, World.cell?_drewN]
      have := Sort.cell?_putRow (fun (b : UInt8) => Value.int .u8 (b.toNat : Int)) _ w.heap.size 0 _ dk HH0.out (by rw [hF.size, Array.size_replicate]) j (by rw [hF.size]; rw [Lib.decDigits_length] at hjl; exact hjl)
      rw [Nat.zero_add] at this
      exact this
    obtain ⟨os, eo⟩ := Lib.fin_at w (.cells Lib.zeros24 108) dk k 0
    have hfr : Fr (fun _ => False) w ((Sort.putRow (fun (b : UInt8) => Value.int .u8 (b.toNat : Int)) (w.alloc (.cells Lib.zeros24 108)) w.heap.size 0 dk).drewN k) := by
      rw [eo]
      exact fr_below (Lib.below_grow w.heap.size w (Nat.le_refl _) k os)
    refine abs_calls_k (fun W => (∀ j u', (bv (Lib.decDigits u))[j]? = some u' → W.cell? ⟨w.heap.size, j, none⟩ = some u') ∧ Hid (Fr (fun _ => False) w W)) ⟨hcells, hfr⟩ ?_
    clear hcells hfr eo os hF dk v' HH0 HF ND
    rintro W2 ⟨hcells, F2⟩
    have SRC := Lib.hid (Src.rd (P := Tryz.prog) (w := W2) Tryz.underlying79 (A := some ⟨w.heap.size, 0, none⟩) (n := Lib.nDigits u) 24 (xs := bv (Lib.decDigits u)) ⟨by rw [bv_length]; exact HDL.out, fun _ => ⟨_, rfl, fun j u' hj => by rw [Addr.add_lit, Nat.zero_add]; exact hcells j u' hj⟩⟩ (bv_one _))
    have HCL := Lib.hid hcells
    have hz := F2.out.size
    clear hcells
    go_wp2_with (
      at_builtin
      refine wpList_appK rfl _ _ _ _ rfl base 5 i0 _ 1 Tryz.underlying79 HI0.out hz0' hz1' hz2' rfl (.slice A n c) n xs rfl (own_fr OW.out F2.out (fun _ _ h => h)) H0.out _ (Lib.nDigits u) (bv (Lib.decDigits u)) rfl SRC.out (by omega) (by unfold maxLen; omega) (by omega) ?_
      intro v3 W3 o3 g3
      obtain ⟨A3, c3, rfl, -, -⟩ := own_slice o3
      have O3 := Lib.hid o3
      have G3 := Lib.hid g3
      clear o3 g3)
    go_ret
    refine ⟨A3, c3, ret_slice (by rw [HDL.out]), ?_, (GK.far F2.out).trans (G3.out X HX.out)⟩
    rw [HDL.out]
    exact O3.out
set_option maxRecDepth 100000 in
set_option maxHeartbeats 2000000 in
theorem appendInt_c (w : World) (base n : Nat) (xs X : List Value) (A : Option Addr) (c : Nat) (i : Int) (h0 : -9223372036854775808 ≤ i) (h1 : i ≤ 9223372036854775807) (hown : w.ownsRow base 5 1 (.slice A n c) n xs) (hq0 : 0 < n ∨ Value.slice A n c = .slice none 0 0) (hbase : base ≤ w.heap.size) (h8 : 8 ≤ base) (hn : n ≤ 140737488354000) (hX : xs ++ bv (decI i) <+: X) (hL : LaidOk w) :
    Calls Tryz.prog 90 #[.slice A n c, .int .i64 i, .int .i64 10] w (AppQ base n xs (decI i) X w) := by
  obtain ⟨i0, hi0, hz0', hz1', hz2'⟩ := info_parts u8_info
  have HI0 := Lib.hid hi0
  have OW := Lib.hid hown
  have H0 := Lib.hid hq0
  have HX := Lib.hid hX
  have HL := Lib.hid hL
  have inner : Calls Tryz.prog 110 #[.slice A n c, .int .i64 i, .int .i64 10] w (AppQ base n xs (decI i) X w) := by
    clear hi0 hown hq0 hX hL
    by_cases hneg : i < 0
    · obtain ⟨u, rfl⟩ : ∃ u : Nat, i = -(u : Int) := ⟨i.natAbs, by omega⟩
      have hu1 : 1 ≤ u := by omega
      have hwr : IntKind.u64.wrap (-IntKind.u64.wrap (-(u : Int))) = (u : Int) := by rw [IntKind.wrap_u64, IntKind.wrap_u64]; omega
      have hd : decI (-(u : Int)) = 45 :: Lib.decDigits u := Lib.itoa_neg u hu1
      have HD := Lib.hid hd
      have P1 : Hid (xs ++ bv [45] <+: X) := Lib.hid (pre_of HX.out ⟨Lib.decDigits u, by rw [hd]; rfl⟩)
      have hu2 : u < 18446744073709551616 := by omega
      clear hd
      go_enter Tryz.func110, Tryz.ntmps110
      go_wp2_with (at_builtin
                   refine wpList_appK rfl _ _ _ _ rfl base 5 i0 _ 1 Tryz.underlying79 HI0.out hz0' hz1' hz2' rfl (.slice A n c) n xs rfl (own_al OW.out _) H0.out _ 1 [.int .u8 45] rfl (src1 w 45) (by omega) (by unfold maxLen; omega) (by rw [World.size_alloc]; omega) ?_
                   intro v1 W1 o1 g1
                   obtain ⟨A1, c1, rfl, -, -⟩ := own_slice o1
                   have O1 := Lib.hid o1
                   have G1 := Lib.hid g1
                   clear o1 g1)
      have K1 : Hid (GK 5 base X w W1) := Lib.hid (G1.out X P1.out).alloc1
      have hz := K1.out.1.lt
      have hL1 := HL.out.fr K1.out.1.old (fun k hk h => by omega)
      have hx : xs ++ [.int .u8 45] ++ bv (Lib.decDigits u) = xs ++ bv (decI (-(u : Int))) := by rw [HD.out, List.append_assoc]; rfl
      have CALL := Lib.hid (appendUint_c W1 base (n + 1) (xs ++ [.int .u8 45]) X A1 c1 u hu2 O1.out (.inl (by omega)) (by omega) (by omega) (by rw [hx]; exact HX.out) hL1)
      have HXX := Lib.hid hx
      clear hx hL1
      refine CALL.out.mono ?_
      rintro e W2 ⟨A2, c2, rfl, o2, g2⟩
      have O2 := Lib.hid o2
      have K2 := Lib.hid (K1.out.trans g2)
      clear o2 g2 CALL hwr
      go_wp2_with fail
      go_ret
      have hlen : n + 1 + (Lib.decDigits u).length = n + (decI (-(u : Int))).length := by rw [HD.out]; simp; omega
      refine ⟨A2, c2, ret_slice hlen, ?_, K2.out⟩
      have := O2.out
      rw [HXX.out, hlen] at this
      exact this
    · obtain ⟨u, rfl⟩ : ∃ u : Nat, i = u := ⟨i.toNat, by omega⟩
      have hd : decI (u : Int) = Lib.decDigits u := Lib.itoa_nonneg u
      rw [hd] at HX ⊢
      have hu2 : u < 18446744073709551616 := by omega
      clear hd
      have CALL := Lib.hid (appendUint_c w base n xs X A c u hu2 OW.out H0.out (by omega) (by omega) HX.out HL.out)
      go_enter Tryz.func110, Tryz.ntmps110
      go_wp2_with fail
      refine CALL.out.mono ?_
      rintro e W2 ⟨A2, c2, rfl, o2, g2⟩
      have O2 := Lib.hid o2
      have K2 := Lib.hid g2
      clear o2 g2 CALL
      go_wp2_with fail
      go_ret
      exact ⟨A2, c2, rfl, O2.out, K2.out⟩
  have INN := Lib.hid inner
  clear inner hi0 hown hq0 hX hL
  go_enter Tryz.func90, Tryz.ntmps90
  go_wp2_with fail
  refine INN.out.mono ?_
  rintro e W2 ⟨A2, c2, rfl, o2, g2⟩
  have O2 := Lib.hid o2
  have K2 := Lib.hid g2
  clear o2 g2 INN
  go_wp2_with fail
  go_ret
  exact ⟨A2, c2, rfl, O2.out, K2.out⟩
end Go.Proofs.YtnkfkicabgajmaaGreatDoor
