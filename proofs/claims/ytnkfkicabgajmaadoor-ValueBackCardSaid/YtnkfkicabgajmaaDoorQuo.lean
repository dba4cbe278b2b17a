/-
  CONTRACT of value.appendQuoted. Written by gen_print.py.
-/
import Derived.Test.YtnkfkicabgajmaaDoorKeep
import Derived.Test.YtnkfkicabgajmaaDoorMay
namespace Go.Proofs.YtnkfkicabgajmaaDoor
set_option linter.unusedSimpArgs false
set_option linter.unusedVariables false
open Go Go.RowKit

theorem u8_info : (Tryd.prog.info? 5).map (fun i => (i.zero, i.size, i.bytes)) = some (some (.int .u8 0), 1, 1) := by kernel_rfl
theorem ret_slice {A : Option Addr} {a b c : Nat} (h : a = b) : Ending.returned (.slice A a c) = .returned (.slice A b c) := by rw [h]
/-- What an appender of text leaves. -/
def AppQ (base n : Nat) (xs : List Value) (text : List UInt8) (X : List Value) (w : World) (e : Ending) (w' : World) : Prop :=
  ∃ A c, e = .returned (.slice A (n + text.length) c) ∧ w'.ownsRow base 5 1 (.slice A (n + text.length) c) (n + text.length) (xs ++ bv text) ∧ GK 5 base X w w'
theorem escs_snoc (l : List UInt8) (c : UInt8) : escs (l ++ [c]) = escs l ++ esc1 c := by simp [escs]
theorem escs_take (s : List UInt8) (i : Nat) (h : i < s.length) : escs (s.take (i + 1)) = escs (s.take i) ++ esc1 s[i] := by
  rw [List.take_succ_eq_append_getElem h, escs_snoc]
theorem escs_pre (s : List UInt8) (i : Nat) : escs (s.take i) <+: escs s := by
  refine ⟨escs (s.drop i), ?_⟩
  unfold escs
  rw [← List.flatMap_append, List.take_append_drop]
theorem pre_of {xs : List Value} {a b : List UInt8} {X : List Value} (h : xs ++ bv b <+: X) (hp : a <+: b) : xs ++ bv a <+: X := by
  obtain ⟨r, rfl⟩ := hp
  rw [bv_append, ← List.append_assoc] at h
  exact (List.prefix_append _ _).trans h
theorem bv1 (c : UInt8) : bv [c] = [.int .u8 (c.toNat : Nat)] := rfl
theorem src1 (w : World) (x : Int) : Src Tryd.prog 1 37 (.slice (some ⟨w.heap.size, 0, none⟩) 1 1) 1 [.int .u8 x] (w.alloc (.cells #[.int .u8 x] 5)) :=
  Src.rd Tryd.underlying37 _ (Rd.of_blk (Blk.new w 5 #[.int .u8 x]) (Nat.le_refl _)) (by simp [Value.oneCell'])
theorem GK.alloc1 {t : TypeId} {base : Nat} {X : List Value} {w w' : World} {o : Obj} (h : GK t base X (w.alloc o) w') : GK t base X w w' := (GK.far ((Fr.refl _ w).alloc o)).trans h
theorem own_al {w : World} {base : Nat} {e : TypeId} {size : Nat} {v : Value} {n : Nat} {xs : List Value} (h : w.ownsRow base e size v n xs) (o : Obj) : (w.alloc o).ownsRow base e size v n xs := own_fr h ((Fr.refl (fun _ => False) w).alloc o) (fun _ _ h => h)
set_option maxRecDepth 100000 in
set_option maxHeartbeats 2000000 in
theorem quoted_c (w : World) (base n : Nat) (xs X : List Value) (A : Option Addr) (c : Nat) (s : List UInt8) (hown : w.ownsRow base 5 1 (.slice A n c) n xs) (h0 : 0 < n ∨ Value.slice A n c = .slice none 0 0) (hbase : base ≤ w.heap.size) (hn : n + (quoted s).length ≤ 140737488355000) (hX : xs ++ bv (quoted s) <+: X) :
    Calls Tryd.prog 23 #[.slice A n c, .string (strOf s)] w (AppQ base n xs (quoted s) X w) := by
  obtain ⟨i0, hi0, hz0', hz1', hz2'⟩ := info_parts u8_info
  have HI0 := Lib.hid hi0
  have OW := Lib.hid hown
  have H0 := Lib.hid h0
  have HX := Lib.hid hX
  have hql := quoted_len s
  have hsz := strOf_size s
  have hne := nesc_le s
  clear hi0 hown hX h0
  rw [hql] at hn
  clear hql
  go_enter Tryd.func23, Tryd.ntmps23
  go_upto_region 2 with (first
    | (at_builtin
       refine wpList_appK rfl _ _ _ _ rfl base 5 i0 _ 1 Tryd.underlying37 HI0.out hz0' hz1' hz2' rfl (.slice A n c) n xs rfl (own_al OW.out _) H0.out _ 1 [.int .u8 34] rfl (src1 w 34) (by omega) (by unfold maxLen; omega) (by rw [World.size_alloc]; omega) ?_
       intro v1 W1 o1 g1
       obtain ⟨A1, c1, rfl, -, -⟩ := own_slice o1
       have O1 := Lib.hid o1
       have G1 := Lib.hid g1
       clear o1 g1))
  have P1 : Hid (xs ++ bv (34 :: escs (s.take 0)) <+: X) := Lib.hid (pre_of HX.out ⟨escs s ++ [34], by simp [quoted, escs]⟩)
  have K1 : Hid (GK 5 base X w W1) := Lib.hid (G1.out X P1.out).alloc1
  have Z1 := Lib.hid K1.out.1.lt
  clear G1 OW
  go_wp2_with fail
  go_loopw [0, 11] (fun ov iv wr => ∃ (i m : Nat) (A2 : Option Addr) (c2 : Nat), i ≤ s.length ∧ iv = .int .i64 (i : Int) ∧ ov = .slice A2 (n + m) c2 ∧ 0 < n + m ∧ Hid (m = 1 + (escs (s.take i)).length) ∧ Hid (wr.ownsRow base 5 1 (.slice A2 (n + m) c2) (n + m) (xs ++ bv (34 :: escs (s.take i)))) ∧ Hid (GK 5 base X w wr)) (fun _ iv _ => s.length - (intOf iv).toNat)
  case atStart => exact ⟨0, 1, A1, c1, Nat.zero_le _, rfl, rfl, by omega, rfl, O1.out, K1.out⟩
  case round =>
    obtain ⟨i, m, A2, c2, hi, rfl, rfl, hm0, hm, ho, hk⟩ := hrel
    have hz := hk.out.1.lt
    have hml : m ≤ 1 + s.length + nesc s := by
      have h1 := hm.out
      have h2 := (escs_pre s i).length_le
      have h3 := escs_len s
      omega
    by_cases hlt : i < s.length
    case neg =>
      obtain rfl : i = s.length := by omega
      have hdl : decide ((s.length : Int) < (s.length : Int)) = false := decide_eq_false (by omega)
      have hdl' : decide (s.length < s.length) = false := decide_eq_false (by omega)
      have htk : s.take s.length = s := List.take_length
      rw [htk] at ho hm
      clear htk hdl'
      go_wp2_with (first
        | (at_builtin
           refine wpList_appK rfl _ _ _ _ rfl base 5 i0 _ 1 Tryd.underlying37 HI0.out hz0' hz1' hz2' rfl (.slice A2 (n + m) c2) (n + m) (xs ++ bv (34 :: escs s)) rfl (own_al ho.out _) (.inl (by omega)) _ 1 [.int .u8 34] rfl (src1 wr 34) (by omega) (by unfold maxLen; omega) (by rw [World.size_alloc]; omega) ?_
           intro v3 W3 o3 g3
           obtain ⟨A3, c3, rfl, -, -⟩ := own_slice o3
           have O3 := Lib.hid o3
           have G3 := Lib.hid g3
           clear o3 g3))
      have hq : (34 :: escs s) ++ [34] = quoted s := rfl
      have hx3 : xs ++ bv (34 :: escs s) ++ [.int .u8 34] = xs ++ bv (quoted s) := by rw [← hq, bv_append, List.append_assoc]; rfl
      have hl3 : n + m + 1 = n + (quoted s).length := by rw [← hq, hm.out]; simp; omega
      have K3 : Hid (GK 5 base X w W3) := Lib.hid (hk.out.trans (G3.out X (by rw [hx3]; exact HX.out)).alloc1)
      have O3' := O3.out
      rw [hx3, hl3] at O3'
      have O4 := Lib.hid O3'
      have HL3 := Lib.hid hl3
      clear O3' hq hx3 G3 O3 hl3
      go_wp2_with fail
      go_ret
      exact ⟨A3, c3, ret_slice HL3.out, O4.out, K3.out⟩
    have hdl : decide ((i : Int) < (s.length : Int)) = true := decide_eq_true (by omega)
    have hdl' : decide (i < s.length) = true := decide_eq_true hlt
    have hix := fun W => run_index_str W s i hlt
    have hes := escs_take s i hlt
    have hsm : ((escs (s.take (i + 1))).length : Nat) ≤ s.length + nesc s := by
      have h2 := (escs_pre s (i + 1)).length_le
      have h3 := escs_len s
      omega
    have PN : Hid (xs ++ bv (34 :: escs (s.take (i + 1))) <+: X) := Lib.hid (pre_of HX.out (by
      obtain ⟨r, hr⟩ := escs_pre s (i + 1)
      exact ⟨r ++ [34], by rw [quoted, List.cons_append, ← List.append_assoc, hr]⟩))
    have HM := Lib.hid hsm
    obtain ⟨x, hx⟩ : ∃ x, s[i] = x := ⟨_, rfl⟩
    simp only [hx] at hix hes
    have HES := Lib.hid hes
    clear hx hes hsm
    by_cases he : x = 34 ∨ x = 92
    case pos =>
      have hxt : x.toNat = 34 ∨ x.toNat = 92 := by rcases he with rfl | rfl <;> simp
      have he1 : esc1 x = [92, x] := by rcases he with rfl | rfl <;> rfl
      have HE1 := Lib.hid he1
      clear he1
      have hm2 : m + 2 ≤ 1 + s.length + nesc s := by
        have h1 := HM.out
        rw [HES.out, HE1.out] at h1
        simp at h1
        have := hm.out
        omega
      obtain ⟨y, hy⟩ : ∃ y, x.toNat = y := ⟨_, rfl⟩
      rw [hy] at hxt
      simp only [hy] at hix
      have HY := Lib.hid hy
      clear hy he
      rcases hxt with rfl | rfl
      all_goals
        go_upto_region 7 with (first
          | (at_builtin
             refine wpList_appK rfl _ _ _ _ rfl base 5 i0 _ 1 Tryd.underlying37 HI0.out hz0' hz1' hz2' rfl (.slice A2 (n + m) c2) (n + m) (xs ++ bv (34 :: escs (s.take i))) rfl (own_al ho.out _) (.inl (by omega)) _ 1 [.int .u8 92] rfl (src1 wr 92) (by omega) (by unfold maxLen; omega) (by rw [World.size_alloc]; omega) ?_
             intro v3 W3 o3 g3
             obtain ⟨A3, c3, rfl, -, -⟩ := own_slice o3
             have O3 := Lib.hid o3
             have G3 := Lib.hid g3
             clear o3 g3))
        have hx3 : xs ++ bv (34 :: escs (s.take i)) ++ [.int .u8 92] = xs ++ bv (34 :: escs (s.take i) ++ [92]) := by rw [bv_append, List.append_assoc]; rfl
        have K3 : Hid (GK 5 base X w W3) := Lib.hid (hk.out.trans (G3.out X (by
          rw [hx3]
          have h := PN.out
          rw [HES.out, HE1.out] at h
          exact pre_of h ⟨[x], by simp⟩)).alloc1)
        have Z3 := K3.out.1.lt
        have O3' := O3.out
        rw [hx3] at O3'
        have O4 := Lib.hid O3'
        clear O3' hx3 G3 O3
        go_wp2_with (first
          | (at_builtin
             refine wpList_appK rfl _ _ _ _ rfl base 5 i0 _ 1 Tryd.underlying37 HI0.out hz0' hz1' hz2' rfl (.slice A3 (n + m + 1) c3) (n + m + 1) (xs ++ bv (34 :: escs (s.take i) ++ [92])) rfl (own_al O4.out _) (.inl (by omega)) _ 1 [.int .u8 _] rfl (src1 W3 _) (by omega) (by unfold maxLen; omega) (by rw [World.size_alloc]; omega) ?_
             intro v5 W5 o5 g5
             obtain ⟨A5, c5, rfl, -, -⟩ := own_slice o5
             have O5 := Lib.hid o5
             have G5 := Lib.hid g5
             clear o5 g5))
        have hx5 : ∀ z : Int, z = (x.toNat : Int) → xs ++ bv (34 :: escs (s.take i) ++ [92]) ++ [.int .u8 z] = xs ++ bv (34 :: escs (s.take (i + 1))) := by
          intro z hz
          rw [HES.out, HE1.out, hz, List.append_assoc, ← bv1, ← bv_append, List.append_assoc]
          rfl
        have O6 : Hid (W5.ownsRow base 5 1 (.slice A5 (n + m + 1 + 1) c5) (n + m + 1 + 1) (xs ++ bv (34 :: escs (s.take (i + 1))))) := by
          refine Lib.hid ?_
          have h := O5.out
          rw [hx5] at h
          · exact h
          · rw [HY.out]; rfl
        have K5 : Hid (GK 5 base X w W5) := Lib.hid (K3.out.trans (G5.out X (by
          rw [hx5]
          · exact PN.out
          · rw [HY.out]; rfl)).alloc1)
        have hm5 : Hid (m + 2 = 1 + (escs (s.take (i + 1))).length) := by
          refine Lib.hid ?_
          rw [HES.out, HE1.out, hm.out]
          simp
          omega
        clear hx5 G5 O5 hix
        go_wp2_with fail
        go_roundw
        case rel => exact ⟨i + 1, m + 2, A5, c5, by omega, by go_num, rfl, by omega, hm5.out, O6.out, K5.out⟩
        case measure => simp [intOf]; omega
    case neg =>
      simp only [not_or] at he
      have he1 : esc1 x = [x] := by unfold esc1; simp [he.1, he.2]
      have hxt : x.toNat ≠ 34 ∧ x.toNat ≠ 92 := ⟨fun h => he.1 (UInt8.toNat_inj.1 h), fun h => he.2 (UInt8.toNat_inj.1 h)⟩
      have HE1 := Lib.hid he1
      clear he1 he
      have hm2 : m + 1 ≤ 1 + s.length + nesc s := by
        have h1 := HM.out
        rw [HES.out, HE1.out] at h1
        simp at h1
        have := hm.out
        omega
      obtain ⟨y, hy⟩ : ∃ y, x.toNat = y := ⟨_, rfl⟩
      rw [hy] at hxt
      simp only [hy] at hix
      have HY := Lib.hid hy
      clear hy
      have e1 : ((y : Int) == 34) = false := by simp; omega
      have e2 : ((y : Int) == 92) = false := by simp; omega
      have e1' : (y == 34) = false := by simp; omega
      have e2' : (y == 92) = false := by simp; omega
      clear hxt
      go_wp2_with (first
        | (at_builtin
           refine wpList_appK rfl _ _ _ _ rfl base 5 i0 _ 1 Tryd.underlying37 HI0.out hz0' hz1' hz2' rfl (.slice A2 (n + m) c2) (n + m) (xs ++ bv (34 :: escs (s.take i))) rfl (own_al ho.out _) (.inl (by omega)) _ 1 [.int .u8 _] rfl (src1 wr _) (by omega) (by unfold maxLen; omega) (by rw [World.size_alloc]; omega) ?_
           intro v5 W5 o5 g5
           obtain ⟨A5, c5, rfl, -, -⟩ := own_slice o5
           have O5 := Lib.hid o5
           have G5 := Lib.hid g5
           clear o5 g5))
      have hx5 : xs ++ bv (34 :: escs (s.take i)) ++ [.int .u8 (y : Nat)] = xs ++ bv (34 :: escs (s.take (i + 1))) := by
        rw [HES.out, HE1.out, ← HY.out, List.append_assoc, ← bv1, ← bv_append]
        simp
      have O5' := O5.out
      rw [hx5] at O5'
      have K5 : Hid (GK 5 base X w W5) := Lib.hid (hk.out.trans (G5.out X (by rw [hx5]; exact PN.out)).alloc1)
      have O6 := Lib.hid O5'
      have hm5 : Hid (m + 1 = 1 + (escs (s.take (i + 1))).length) := by
        refine Lib.hid ?_
        rw [HES.out, HE1.out, hm.out]
        simp
        omega
      clear O5' hx5 G5 O5 hix
      go_wp2_with fail
      go_roundw
      case rel => exact ⟨i + 1, m + 1, A5, c5, by omega, by go_num, rfl, by omega, hm5.out, O6.out, K5.out⟩
      case measure => simp [intOf]; omega
end Go.Proofs.YtnkfkicabgajmaaDoor
