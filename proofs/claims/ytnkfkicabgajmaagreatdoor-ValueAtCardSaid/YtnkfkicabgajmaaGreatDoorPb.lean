/-
  CONTRACT of the parser's quoted.
-/
import Derived.Test.YtnkfkicabgajmaaGreatDoorPa
import Derived.Test.YtnkfkicabgajmaaGreatDoorGOwn
namespace Go.Proofs.YtnkfkicabgajmaaGreatDoor
set_option linter.unusedSimpArgs false
set_option linter.unusedVariables false
open Go Go.RowKit

theorem strOf_drop (s : List UInt8) (i : Nat) (h : i ≤ s.length) : (strOf s).extract i (strOf s).size = strOf (s.drop i) := by
  apply ByteArray.ext
  simp [strOf, ByteArray.data_extract, ByteArray.size]
  exact List.take_of_length_le (by simp)
theorem run_drop (W : World) (s : List UInt8) (i : Nat) (h : i ≤ s.length) : (Instr.slice 9 (.string (strOf s)) (some (.int .i64 (i : Nat))) none none).run Tryz.prog W = .ok (.string (strOf (s.drop i))) W := by
  rw [run_slice_string_from_if W 9 (strOf s) .i64 (i : Nat) Tryz.underlying9]
  rw [if_pos ⟨by omega, by rw [strOf_size]; omega⟩]
  congr 2
  rw [← strOf_drop s i h]
  congr 1
theorem pQuote_end {c : UInt8} (s acc : List UInt8) (h : c = 34) : pQuote (c :: s) acc = some (acc, s) := by
  subst h
  cases s <;> simp [pQuote]
theorem pQuote_bs {c d : UInt8} (s acc : List UInt8) (h : c = 92) : pQuote (c :: d :: s) acc = pQuote s (acc ++ [d]) := by
  subst h
  simp [pQuote]
theorem pQuote_bs1 {c : UInt8} (acc acc' : List UInt8) (h : c = 92) : pQuote [c] acc = pQuote [] acc' := by
  subst h
  simp [pQuote]
theorem pQuote_ch {c : UInt8} (s acc : List UInt8) (h1 : c ≠ 34) (h2 : c ≠ 92) : pQuote (c :: s) acc = pQuote s (acc ++ [c]) := by
  cases s <;> simp [pQuote, h1, h2]
/-- What quoted leaves. -/
def PqQ (p : Nat) (s : List UInt8) (w : World) (e : Ending) (w' : World) : Prop :=
  ∃ a r b, e = .returned (.string (strOf a)) ∧ Blk w' p 66 (pcs r b) ∧ Fr (fun k => k = p) w w' ∧ r.length ≤ s.length ∧ a.length ≤ s.length ∧ ((pText s = some (a, r) ∧ b = false) ∨ (pText s = none ∧ b = true))
theorem fr_own {w0 wr W W' : World} {p base n : Nat} {e : TypeId} {sz : Nat} {v : Value} {xs : List Value} (h : Fr (fun k => k = p) w0 wr) (f : Fr (fun _ => False) wr W) (g : Fr (fun k => v.ownBlock = some k) W W') (ho : wr.ownsRow base e sz v n xs) (hb : w0.heap.size ≤ base) : Fr (fun k => k = p) w0 W' :=
  (h.trans f (fun _ _ h => h.elim)).trans g (fun i hi hq => by
    have := (ho.lt i hq).1
    omega)
set_option maxRecDepth 100000 in
set_option maxHeartbeats 4000000 in
theorem pquoted_c (w : World) (p : Nat) (s : List UInt8) (hs : s.length ≤ 1000) (hp : Blk w p 66 (pcs s false)) :
    Calls Tryz.prog 71 #[.pointer (some ⟨p, 0, none⟩)] w (PqQ p s w) := by
  obtain ⟨i0, hi0, hz0', hz1', hz2'⟩ := info_parts u8_info
  have HI0 := Lib.hid hi0
  have hplt := hp.lt
  have ND := Lib.hid (need_c w p s [34] false hp)
  clear hp hi0
  cases hc : cutP s [34] with
  | none =>
    have HT : Hid (pText s = none) := Lib.hid (by unfold pText; rw [hc])
    rw [hc] at ND
    clear hc
    go_enter Tryz.func71, Tryz.ntmps71
    go_wp2_with fail
    refine ND.out.mono ?_
    rintro e w1 ⟨rfl, b1, f1⟩
    have B1 := Lib.hid b1
    have F1 := Lib.hid f1
    clear b1 f1 ND
    go_wp2_with fail
    go_ret
    exact ⟨[], s, true, rfl, B1.out, F1.out, Nat.le_refl _, Nat.zero_le _, .inr ⟨HT.out, rfl⟩⟩
  | some s1 =>
    have hs1 : s1.length + 1 ≤ s.length := by
      have := cutP_some hc
      rw [this]
      simp
    have HT : Hid (pText s = pQuote s1 []) := Lib.hid (by unfold pText; rw [hc])
    rw [hc] at ND
    clear hc
    go_enter Tryz.func71, Tryz.ntmps71
    go_wp2_with fail
    refine ND.out.mono ?_
    rintro e w1 ⟨rfl, b1, f1⟩
    have B1 : Hid (Blk w1 p 66 (pcs s1 false)) := Lib.hid b1
    have F1 := Lib.hid f1
    clear b1 f1 ND
    have hsz := strOf_size s1
    go_wp2_with fail
    go_loopw [3, 4] (fun ov iv wr => ∃ (i n : Nat) (A : Option Addr) (c : Nat) (acc : List UInt8), i ≤ s1.length + 1 ∧ n ≤ i ∧ n ≤ s1.length ∧ iv = .int .i64 (i : Int) ∧ ov = .slice A n c ∧ Hid (acc.length = n) ∧ Hid (wr.ownsRow w.heap.size 5 1 (.slice A n c) n (bv acc)) ∧ Hid (pQuote s1 [] = pQuote (s1.drop i) acc) ∧ Hid (Blk wr p 66 (pcs s1 false)) ∧ Hid (Fr (fun k => k = p) w wr)) (fun _ iv _ => s1.length + 1 - (intOf iv).toNat)
    case atStart => exact ⟨0, 0, none, 0, [], Nat.zero_le _, Nat.le_refl _, Nat.zero_le _, rfl, rfl, rfl, World.ownsRow_nil w1 _ _ _, rfl, B1.out, F1.out⟩
    case round =>
      obtain ⟨i, n, A, c, acc, hi, hni, hnl, rfl, rfl, hac, ho, hq, hb, hf⟩ := hrel
      have c0 : wr.cell? ⟨p, 0, none⟩ = some (.string (strOf s1)) := hb.out.cell 0
      have z0 : wr.frozen? ⟨p, 0, none⟩ = false := hb.out.frozen 0
      have z1 : wr.frozen? ⟨p, 1, none⟩ = false := hb.out.frozen 1
      have zs := hf.out.size
      by_cases hlt : i < s1.length
      case neg =>
        have hd1 : decide ((i : Int) < (s1.length : Int)) = false := decide_eq_false (by omega)
        have hd1' : decide (i < s1.length) = false := decide_eq_false hlt
        have HN : Hid (pText s = none) := Lib.hid (by rw [HT.out, hq.out, List.drop_eq_nil_of_le (by omega)]; simp [pQuote])
        have c1 : wr.cell? ⟨p, 1, none⟩ = some (.bool false) := hb.out.cell 1
        go_wp2_with fail
        go_ret
        exact ⟨[], s1, true, rfl, hb.out.set_ 1 _, hf.out.trans ((Fr.refl (fun k => k = p) wr).setCell (p := ⟨p, 1, none⟩) (fun _ => rfl) _) (fun _ _ h => h), by omega, Nat.zero_le _, .inr ⟨HN.out, rfl⟩⟩
      have hd1 : decide ((i : Int) < (s1.length : Int)) = true := decide_eq_true (by omega)
      have hd1' : decide (i < s1.length) = true := decide_eq_true hlt
      have hix := fun W => run_index_str W s1 i hlt
      have hdrop := List.drop_eq_getElem_cons hlt
      rw [hdrop] at hq
      obtain ⟨x, hx⟩ : ∃ x, s1[i] = x := ⟨_, rfl⟩
      rw [hx] at hq
      simp only [hx] at hix
      clear hdrop hx
      obtain ⟨y, hy⟩ : ∃ y, x.toNat = y := ⟨_, rfl⟩
      simp only [hy] at hix
      by_cases h34 : x = 34
      case pos =>
        have hy34 : y = 34 := by rw [← hy, h34]; rfl
        subst hy34
        have hsl : ∀ W, (Instr.slice 9 (.string (strOf s1)) (some (.int .i64 ((i : Int) + 1))) none none).run Tryz.prog W = .ok (.string (strOf (s1.drop (i + 1)))) W := fun W => run_drop W s1 (i + 1) (by omega)
        have HQ : Hid (pText s = some (acc, s1.drop (i + 1))) := Lib.hid (by rw [HT.out, hq.out, pQuote_end _ _ h34])
        clear hy h34
        go_upto_region 10 with fail
        refine abs_world (fun W => Hid (Blk W p 66 (pcs (s1.drop (i + 1)) false)) ∧ Hid (Fr (fun k => k = p) wr W)) ⟨hb.out.set_ 0 _, (Fr.refl (fun k => k = p) wr).setCell (p := ⟨p, 0, none⟩) (fun _ => rfl) _⟩ ?_
        rintro W2 ⟨B2, F2⟩
        have hcv := conv_str W2 A n c acc ((Rd.of_own ho.out).fr0 F2.out (fun hn k hk e => by
          have e : k = p := e
          have := (ho.out.lt k (own_in ho.out hn hk)).1
          omega))
        clear hsl hix c0 z0 z1
        go_wp2_with fail
        go_ret
        exact ⟨acc, s1.drop (i + 1), false, rfl, B2.out, hf.out.trans F2.out (fun _ _ h => h), by simp; omega, by rw [hac.out]; omega, .inl ⟨HQ.out, rfl⟩⟩
      have hy34 : y ≠ 34 := fun h => h34 (UInt8.toNat_inj.1 (by rw [hy, h]; rfl))
      have e1 : ((y : Int) == 34) = false := by simp; omega
      have e1' : (y == 34) = false := by simp; omega
      by_cases h92 : x = 92
      case pos =>
        have hy92 : y = 92 := by rw [← hy, h92]; rfl
        subst hy92
        by_cases hlt2 : i + 1 < s1.length
        case neg =>
          have hd2 : decide (((i : Int) + 1) < (s1.length : Int)) = false := decide_eq_false (by omega)
          have hd2' : decide (i + 1 < s1.length) = false := decide_eq_false hlt2
          have HQ : Hid (pQuote s1 [] = pQuote (s1.drop (i + 2)) acc) := by
            refine Lib.hid ?_
            rw [hq.out, List.drop_eq_nil_of_le (i := i + 1) (by omega), List.drop_eq_nil_of_le (i := i + 2) (by omega)]
            exact pQuote_bs1 acc acc h92
          clear hy h34 h92 hy34 e1 e1'
          go_wp2_with fail
          go_roundw
          case rel => exact ⟨i + 2, n, A, c, acc, by omega, by omega, hnl, by go_num, rfl, hac.out, ho.out, HQ.out, hb.out, hf.out⟩
          case measure => simp [intOf]; omega
        have hd2 : decide (((i : Int) + 1) < (s1.length : Int)) = true := decide_eq_true (by omega)
        have hd2' : decide (i + 1 < s1.length) = true := decide_eq_true hlt2
        have hix2 : ∀ W, (Instr.index 9 (.string (strOf s1)) (.int .i64 ((i : Int) + 1))).run Tryz.prog W = .ok (.int .u8 ((s1[i + 1]).toNat : Nat)) W := fun W => run_index_str W s1 (i + 1) hlt2
        have HQ : Hid (pQuote s1 [] = pQuote (s1.drop (i + 2)) (acc ++ [s1[i + 1]])) := by
          refine Lib.hid ?_
          rw [hq.out, List.drop_eq_getElem_cons hlt2, pQuote_bs _ _ h92]
        obtain ⟨x2, hx2⟩ : ∃ x2, s1[i + 1] = x2 := ⟨_, rfl⟩
        rw [hx2] at HQ
        simp only [hx2] at hix2
        obtain ⟨y2, hy2⟩ : ∃ y, x2.toNat = y := ⟨_, rfl⟩
        simp only [hy2] at hix2
        have HY2 := Lib.hid hy2
        clear hy h34 h92 hy34 e1 e1' hx2 hy2
        go_wp2_with (
          at_builtin
          refine wpList_app rfl _ _ _ _ rfl w.heap.size 5 i0 _ 1 1 Tryz.underlying79 HI0.out hz0' hz1' hz2' rfl (.slice A n c) n (bv acc) rfl (own_al ho.out _) _ 1 [.int .u8 (y2 : Nat)] rfl (src1 wr y2) (by omega) (by unfold maxLen; omega) (by rw [World.size_alloc]; omega) ?_
          intro v3 W3 o3 f3 n3
          obtain ⟨A3, c3, rfl, -, -⟩ := own_slice o3
          have O3 := Lib.hid o3
          have F3 := Lib.hid f3
          clear o3 f3 n3)
        have FF : Hid (Fr (fun k => k = p) w W3) := Lib.hid (fr_own hf.out ((Fr.refl _ wr).alloc _) F3.out ho.out (Nat.le_refl _))
        have BB : Hid (Blk W3 p 66 (pcs s1 false)) := Lib.hid ((hb.out.alloc _).fr F3.out (own_blk_ne ho.out hb.out (by decide)))
        have HA : Hid ((acc ++ [x2]).length = n + 1) := Lib.hid (by simp [hac.out])
        have OO : Hid (W3.ownsRow w.heap.size 5 1 (.slice A3 (n + 1) c3) (n + 1) (bv (acc ++ [x2]))) := by
          refine Lib.hid ?_
          rw [bv_append, bv1, HY2.out]
          exact O3.out
        clear hix hix2 c0 z0 z1 O3
        go_wp2_with fail
        go_roundw
        case rel => exact ⟨i + 2, n + 1, A3, c3, acc ++ [x2], by omega, by omega, by omega, by go_num, rfl, HA.out, OO.out, HQ.out, BB.out, FF.out⟩
        case measure => simp [intOf]; omega
      case neg =>
        have hy92 : y ≠ 92 := fun h => h92 (UInt8.toNat_inj.1 (by rw [hy, h]; rfl))
        have e2 : ((y : Int) == 92) = false := by simp; omega
        have e2' : (y == 92) = false := by simp; omega
        have HQ : Hid (pQuote s1 [] = pQuote (s1.drop (i + 1)) (acc ++ [x])) := Lib.hid (by rw [hq.out, pQuote_ch _ _ h34 h92])
        have HY2 := Lib.hid hy
        clear hy h34 h92 hy34 hy92
        go_wp2_with (
          at_builtin
          refine wpList_app rfl _ _ _ _ rfl w.heap.size 5 i0 _ 1 1 Tryz.underlying79 HI0.out hz0' hz1' hz2' rfl (.slice A n c) n (bv acc) rfl (own_al ho.out _) _ 1 [.int .u8 (y : Nat)] rfl (src1 wr y) (by omega) (by unfold maxLen; omega) (by rw [World.size_alloc]; omega) ?_
          intro v3 W3 o3 f3 n3
          obtain ⟨A3, c3, rfl, -, -⟩ := own_slice o3
          have O3 := Lib.hid o3
          have F3 := Lib.hid f3
          clear o3 f3 n3)
        have FF : Hid (Fr (fun k => k = p) w W3) := Lib.hid (fr_own hf.out ((Fr.refl _ wr).alloc _) F3.out ho.out (Nat.le_refl _))
        have BB : Hid (Blk W3 p 66 (pcs s1 false)) := Lib.hid ((hb.out.alloc _).fr F3.out (own_blk_ne ho.out hb.out (by decide)))
        have HA : Hid ((acc ++ [x]).length = n + 1) := Lib.hid (by simp [hac.out])
        have OO : Hid (W3.ownsRow w.heap.size 5 1 (.slice A3 (n + 1) c3) (n + 1) (bv (acc ++ [x]))) := by
          refine Lib.hid ?_
          rw [bv_append, bv1, HY2.out]
          exact O3.out
        clear hix c0 z0 z1 O3
        go_wp2_with fail
        go_roundw
        case rel => exact ⟨i + 1, n + 1, A3, c3, acc ++ [x], by omega, by omega, by omega, by go_num, rfl, HA.out, OO.out, HQ.out, BB.out, FF.out⟩
        case measure => simp [intOf]; omega
end Go.Proofs.YtnkfkicabgajmaaGreatDoor
