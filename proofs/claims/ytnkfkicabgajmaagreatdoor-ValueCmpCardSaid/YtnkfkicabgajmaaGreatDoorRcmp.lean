/-
  CONTRACT of the reference's Cmp, of values whose fields are good. Written by gen_rcmp.py.
-/
import Derived.Test.YtnkfkicabgajmaaGreatDoorGCmp
import Derived.Test.YtnkfkicabgajmaaGreatDoorGBase
import Derived.Test.YtnkfkicabgajmaaGreatDoorRp
import Derived.BigQuiet
namespace Go.Proofs.YtnkfkicabgajmaaGreatDoor
set_option linter.unusedSimpArgs false
set_option linter.unusedVariables false
open Go Go.RowKit

def rc14 (g1 g2 kb ko kb2 ko2 p9 nk ck mk dk : Nat) (Ak Bk : Option Addr) (k : Int) (s1 s2 : List UInt8) (i : Nat) (v : Value) (W : World) : Prop := match i with
  | 0 => v = .pointer (some ⟨g1, 0, none⟩)
  | 1 => v = .int .i64 k
  | 2 => v = .bool (k == 6)
  | 3 => v = .bool (k == 6)
  | 4 => v = cv ((k == 6)) (.pointer (some ⟨g1, 4, none⟩))
  | 5 => v = cv ((k == 6)) (.slice Ak nk ck)
  | 6 => v = cv ((k == 6)) (.int .i64 (p9 : Nat))
  | 7 => v = cv ((k == 6)) (.pointer (some ⟨kb, ko + p9, none⟩))
  | 8 => v = cv ((k == 6)) (.string (strOf s1))
  | 9 => v = cv ((k == 6)) (.pointer (some ⟨g2, 4, none⟩))
  | 10 => v = cv ((k == 6)) (.slice Bk mk dk)
  | 11 => v = cv ((k == 6)) (.int .i64 (p9 : Nat))
  | 12 => v = cv ((k == 6)) (.pointer (some ⟨kb2, ko2 + p9, none⟩))
  | 13 => v = cv ((k == 6)) (.string (strOf s2))
  | 14 => v = cv ((k == 6)) (.bool (!(s1 == s2)))
  | 15 => v = .bool ((k == 6) && (!(s1 == s2)))
  | _ => True
theorem rc14_far {g1 g2 kb ko kb2 ko2 p9 nk ck mk dk : Nat} {Ak Bk : Option Addr} {k : Int} {s1 s2 : List UInt8} {i : Nat} {v : Value} {W W' : World} (hg : Fr (fun _ => False) W W') (hx : rc14 g1 g2 kb ko kb2 ko2 p9 nk ck mk dk Ak Bk k s1 s2 i v W) : rc14 g1 g2 kb ko kb2 ko2 p9 nk ck mk dk Ak Bk k s1 s2 i v W' := by
  match i with
  | 0 => exact hx
  | 1 => exact hx
  | 2 => exact hx
  | 3 => exact hx
  | 4 => exact hx
  | 5 => exact hx
  | 6 => exact hx
  | 7 => exact hx
  | 8 => exact hx
  | 9 => exact hx
  | 10 => exact hx
  | 11 => exact hx
  | 12 => exact hx
  | 13 => exact hx
  | 14 => exact hx
  | 15 => exact hx
  | (n + 16) => exact hx
def rc15 (g1 g2 kb ko kb2 ko2 p9 nk ck mk dk : Nat) (u : Int) (s1 s2 : List UInt8) (i : Nat) (v : Value) (W : World) : Prop := match i with
  | 0 => v = .pointer (some ⟨g1, 4, none⟩)
  | 1 => v = .slice (some ⟨kb, ko, none⟩) nk ck
  | 2 => v = .int .i64 (p9 : Nat)
  | 3 => v = .pointer (some ⟨kb, ko + p9, none⟩)
  | 4 => v = .string (strOf s1)
  | 5 => v = .pointer (some ⟨g2, 4, none⟩)
  | 6 => v = .slice (some ⟨kb2, ko2, none⟩) mk dk
  | 7 => v = .int .i64 (p9 : Nat)
  | 8 => v = .pointer (some ⟨kb2, ko2 + p9, none⟩)
  | 9 => v = .string (strOf s2)
  | 10 => v = .int .i64 u
  | _ => True
theorem rc15_far {g1 g2 kb ko kb2 ko2 p9 nk ck mk dk : Nat} {u : Int} {s1 s2 : List UInt8} {i : Nat} {v : Value} {W W' : World} (hg : Fr (fun _ => False) W W') (hx : rc15 g1 g2 kb ko kb2 ko2 p9 nk ck mk dk u s1 s2 i v W) : rc15 g1 g2 kb ko kb2 ko2 p9 nk ck mk dk u s1 s2 i v W' := by
  match i with
  | 0 => exact hx
  | 1 => exact hx
  | 2 => exact hx
  | 3 => exact hx
  | 4 => exact hx
  | 5 => exact hx
  | 6 => exact hx
  | 7 => exact hx
  | 8 => exact hx
  | 9 => exact hx
  | 10 => exact hx
  | (n + 11) => exact hx
def rc16 (g1 g2 b off b' off' L M cl cm p9 : Nat) (C C' : Array Value) (u : Int) (i : Nat) (v : Value) (W : World) : Prop := match i with
  | 0 => v = .pointer (some ⟨g1, 3, none⟩)
  | 1 => v = .slice (some ⟨b, off, none⟩) L cl
  | 2 => v = .int .i64 (p9 : Nat)
  | 3 => v = .pointer (some ⟨b, off + p9 * 5, none⟩)
  | 4 => v = .agg C
  | 5 => v = .pointer (some ⟨g2, 3, none⟩)
  | 6 => v = .slice (some ⟨b', off', none⟩) M cm
  | 7 => v = .int .i64 (p9 : Nat)
  | 8 => v = .pointer (some ⟨b', off' + p9 * 5, none⟩)
  | 9 => v = .agg C'
  | 10 => v = .int .i64 u
  | _ => True
theorem rc16_far {g1 g2 b off b' off' L M cl cm p9 : Nat} {C C' : Array Value} {u : Int} {i : Nat} {v : Value} {W W' : World} (hg : Fr (fun _ => False) W W') (hx : rc16 g1 g2 b off b' off' L M cl cm p9 C C' u i v W) : rc16 g1 g2 b off b' off' L M cl cm p9 C C' u i v W' := by
  match i with
  | 0 => exact hx
  | 1 => exact hx
  | 2 => exact hx
  | 3 => exact hx
  | 4 => exact hx
  | 5 => exact hx
  | 6 => exact hx
  | 7 => exact hx
  | 8 => exact hx
  | 9 => exact hx
  | 10 => exact hx
  | (n + 11) => exact hx
set_option maxRecDepth 100000 in
set_option maxHeartbeats 8000000 in
theorem rcmp_step (w : World) {D E : Nat → Prop} {k n k' n' : Int} {t t' : List UInt8} {l l' : List V} {ks ks' : List (List UInt8)} {Al Ak Al' Ak' : Option Addr} {cl ck cl' ck' : Nat} {css css' : List (Array Value)}
    (hp : VP D w k n t l ks Al cl Ak ck css) (hq : VP E w k' n' t' l' ks' Al' cl' Ak' ck' css')
    (f1 : fieldsV (.mk k n t l ks) = true) (f2 : fieldsV (.mk k' n' t' l' ks') = true)
    (ih : ∀ (x : V), x ∈ l → ∀ (W : World) (C C' : Array Value) (y : V), RdV D W C x → RdV E W C' y → fieldsV x = true → fieldsV y = true → Calls Tryz.prog 21 #[.agg C, .agg C'] W fun e w' => e = .returned (.int .i64 (cmpV x y)) ∧ Fr (fun _ => False) W w') :
    Calls Tryz.prog 21 #[.agg (vcs k n t Al l.length cl Ak ks.length ck), .agg (vcs k' n' t' Al' l'.length cl' Ak' ks'.length ck')] w fun e w' => e = .returned (.int .i64 (cmpV (.mk k n t l ks) (.mk k' n' t' l' ks'))) ∧ Fr (fun _ => False) w w' := by
  have hb2 := hp.b.ll
  have hb3 := hq.b.ll
  have hb4 := hp.b.kl
  have hb5 := hq.b.kl
  have TX := Lib.hid (fun W => rtexts_c W t t' hp.b.tl hq.b.tl)
  have HBK := Lib.hid hp.b.ks
  have HBK' := Lib.hid hq.b.ks
  obtain ⟨fu1, -, -, fl1⟩ := fields_kids f1
  obtain ⟨fu2, -, -, fl2⟩ := fields_kids f2
  have U1 := Lib.hid (uses_iff.1 fu1)
  have U2 := Lib.hid (uses_iff.1 fu2)
  have FL1 := Lib.hid (fieldss_mem fl1)
  have FL2 := Lib.hid (fieldss_mem fl2)
  have HP := Lib.hid hp
  have HQ := Lib.hid hq
  have IH := Lib.hid ih
  clear hp hq ih f1 f2 fu1 fl1 fu2 fl2
  obtain ⟨z, hz⟩ : ∃ z, cmpV (.mk k n t l ks) (.mk k' n' t' l' ks') = z := ⟨_, rfl⟩
  rw [hz]
  rw [cmpV] at hz
  have HZ := Lib.hid hz
  obtain ⟨g1, hg1⟩ : ∃ g, w.heap.size = g := ⟨_, rfl⟩
  have HG := Lib.hid hg1
  clear hz hg1
  go_enter Tryz.func21, Tryz.ntmps21
  go_upto_region 1 with fail
  refine abs_world (fun W => Hid (Blk W w.heap.size 25 (vcs k n t Al l.length cl Ak ks.length ck)) ∧ Hid (Blk W (w.heap.size + 1) 25 (vcs k' n' t' Al' l'.length cl' Ak' ks'.length ck')) ∧ Hid (Fr (fun _ => False) w W)) ⟨(Blk.new w _ _).alloc _, Blk.new1 w _ _ _, ((Fr.refl _ w).alloc _).alloc _⟩ ?_
  rintro W1 ⟨B1, B2, F1⟩
  rw [HG.out] at B1 B2 ⊢
  obtain ⟨g2, hg2⟩ : ∃ g2, g1 + 1 = g2 := ⟨_, rfl⟩
  rw [hg2] at B2 ⊢
  clear hg2
  have a0 : W1.cell? ⟨g1, 0, none⟩ = some (.int .i64 k) := B1.out.cell 0
  have a1 : W1.cell? ⟨g1, 1, none⟩ = some (.int .i64 n) := B1.out.cell 1
  have a2 : W1.cell? ⟨g1, 2, none⟩ = some (.string (strOf t)) := B1.out.cell 2
  have a3 : W1.cell? ⟨g1, 3, none⟩ = some (.slice Al l.length cl) := B1.out.cell 3
  have a4 : W1.cell? ⟨g1, 4, none⟩ = some (.slice Ak ks.length ck) := B1.out.cell 4
  have b0 : W1.cell? ⟨g2, 0, none⟩ = some (.int .i64 k') := B2.out.cell 0
  have b1 : W1.cell? ⟨g2, 1, none⟩ = some (.int .i64 n') := B2.out.cell 1
  have b2 : W1.cell? ⟨g2, 2, none⟩ = some (.string (strOf t')) := B2.out.cell 2
  have b3 : W1.cell? ⟨g2, 3, none⟩ = some (.slice Al' l'.length cl') := B2.out.cell 3
  have b4 : W1.cell? ⟨g2, 4, none⟩ = some (.slice Ak' ks'.length ck') := B2.out.cell 4
  by_cases h1 : k = k'
  case neg =>
    have d1 : (k == k') = false := by simpa using h1
    have HV : Hid (z = ord (decide (k < k'))) := Lib.hid (by rw [← HZ.out, if_pos h1])
    obtain ⟨r, hr⟩ : ∃ r, decide (k < k') = r := ⟨_, rfl⟩
    rw [hr] at HV
    clear h1
    cases r <;>
    · go_wp2_with fail
      go_ret
      exact ⟨ret_int (by rw [HV.out]; rfl), F1.out⟩
  subst h1
  by_cases h2 : n = n'
  case neg =>
    have d1 : (n == n') = false := by simpa using h2
    have h3 : k = 3 := by
      by_cases h : k = 3
      · exact h
      · exact absurd ((U1.out.num h).trans (U2.out.num h).symm) h2
    have HV : Hid (z = ord (decide (n < n'))) := Lib.hid (by rw [← HZ.out, if_neg (fun h => h rfl), if_pos ⟨h3, h2⟩])
    obtain ⟨r, hr⟩ : ∃ r, decide (n < n') = r := ⟨_, rfl⟩
    rw [hr] at HV
    clear h2 h3
    cases r <;>
    · go_wp2_with fail
      go_ret
      exact ⟨ret_int (by rw [HV.out]; rfl), F1.out⟩
  subst h2
  have HV : Hid (z = if k = 4 then cmpT t t' else cmpL l ks l' ks') := Lib.hid (by rw [← HZ.out, if_neg (fun h => h rfl), if_neg (fun h => h.2 rfl)])
  by_cases h4 : k = 4
  case pos =>
    subst h4
    have HW : Hid (z = cmpT t t') := Lib.hid HV.out
    go_wp2_with fail
    refine (TX.out _).mono ?_
    rintro e W2 ⟨rfl, f⟩
    have F2 : Hid (Fr (fun _ => False) w W2) := Lib.hid (F1.out.trans f (fun _ _ h => h))
    clear f
    go_wp2_with fail
    go_ret
    exact ⟨ret_int HW.out.symm, F2.out⟩
  have d4 : (k == 4) = false := by simpa using h4
  have HW : Hid (cmpL l ks l' ks' = z) := Lib.hid (by rw [HV.out, if_neg h4])
  clear HV h4 TX
  have HPW := Lib.hid (HP.out.far F1.out)
  have HQW := Lib.hid (HQ.out.far F1.out)
  go_wp2_with fail
  clear a0 a1 a2 a3 a4 b0 b1 b2 b3 b4 d4
  go_loopw [5] (fun iv wr => ∃ i : Nat, i ≤ l.length ∧ i ≤ l'.length ∧ iv = .int .i64 (i : Int) ∧ Hid (cmpL (l.drop i) (ks.drop i) (l'.drop i) (ks'.drop i) = z) ∧ Hid (Blk wr g1 25 (vcs k n t Al l.length cl Ak ks.length ck)) ∧ Hid (Blk wr g2 25 (vcs k n t' Al' l'.length cl' Ak' ks'.length ck')) ∧ Hid (Fr (fun _ => False) W1 wr)) (fun iv _ => l.length - (intOf iv).toNat)
  case atStart => exact ⟨0, Nat.zero_le _, Nat.zero_le _, rfl, HW.out, B1.out, B2.out, Fr.refl _ _⟩
  case round =>
    obtain ⟨i, hi, hi', rfl, he, hb1, hb2', hf⟩ := hrel
    have FW : Hid (Fr (fun _ => False) w wr) := Lib.hid (F1.out.trans hf.out (fun _ _ h => h))
    by_cases hend : i < l.length ∧ i < l'.length
    case neg =>
      have hE := cmpL_end l l' ks ks' i (by omega)
      rw [he.out] at hE
      have HE := Lib.hid hE
      clear hE he
      have a3 : wr.cell? ⟨g1, 3, none⟩ = some (.slice Al l.length cl) := hb1.out.cell 3
      have b3 : wr.cell? ⟨g2, 3, none⟩ = some (.slice Al' l'.length cl') := hb2'.out.cell 3
      have HEND := Lib.hid hend
      by_cases hl1 : i < l.length
      case pos =>
        have hl2 : ¬ i < l'.length := fun h => HEND.out ⟨hl1, h⟩
        obtain rfl : i = l'.length := by omega
        have e1 : decide ((l'.length : Int) < (l.length : Int)) = true := decide_eq_true (by omega)
        have e1' : decide (l'.length < l.length) = true := decide_eq_true hl1
        have e2 : decide ((l'.length : Int) < (l'.length : Int)) = false := decide_eq_false (by omega)
        have e2' : decide (l'.length < l'.length) = false := decide_eq_false (by omega)
        have e3 : ((l.length : Int) == (l'.length : Int)) = false := by simp; omega
        have e3' : (l.length == l'.length) = false := by simp; omega
        have e4 : decide ((l.length : Int) < (l'.length : Int)) = false := decide_eq_false (by omega)
        have e4' : decide (l.length < l'.length) = false := decide_eq_false (by omega)
        have HT : Hid (z = 1) := Lib.hid (by rw [HE.out, if_neg (by omega), e4']; rfl)
        clear hl2 hend HEND
        go_wp2_with fail
        go_ret
        exact ⟨ret_int HT.out.symm, FW.out⟩
      case neg =>
        obtain rfl : i = l.length := by omega
        have e1 : decide ((l.length : Int) < (l.length : Int)) = false := decide_eq_false (by omega)
        have e1' : decide (l.length < l.length) = false := decide_eq_false (by omega)
        by_cases hl2 : l.length = l'.length
        case pos =>
          have e3 : ((l.length : Int) == (l'.length : Int)) = true := by simp; omega
          have e3' : (l.length == l'.length) = true := by simp; omega
          have HT : Hid (z = 0) := Lib.hid (by rw [HE.out, if_pos hl2])
          clear hl2 hend HEND hl1
          go_wp2_with fail
          go_ret
          exact ⟨ret_int HT.out.symm, FW.out⟩
        case neg =>
          have e3 : ((l.length : Int) == (l'.length : Int)) = false := by simp; omega
          have e3' : (l.length == l'.length) = false := by simp; omega
          have e4 : decide ((l.length : Int) < (l'.length : Int)) = true := decide_eq_true (by omega)
          have e4' : decide (l.length < l'.length) = true := decide_eq_true (by omega)
          have HT : Hid (z = -1) := Lib.hid (by rw [HE.out, if_neg hl2, e4']; rfl)
          clear hl2 hend HEND hl1
          go_wp2_with fail
          go_ret
          exact ⟨ret_int HT.out.symm, FW.out⟩
    obtain ⟨hl1, hl2⟩ := hend
    have e1 : decide ((i : Int) < (l.length : Int)) = true := decide_eq_true (by omega)
    have e1' : decide (i < l.length) = true := decide_eq_true hl1
    have e2 : decide ((i : Int) < (l'.length : Int)) = true := decide_eq_true (by omega)
    have e2' : decide (i < l'.length) = true := decide_eq_true hl2
    have a3 : wr.cell? ⟨g1, 3, none⟩ = some (.slice Al l.length cl) := hb1.out.cell 3
    have b3 : wr.cell? ⟨g2, 3, none⟩ = some (.slice Al' l'.length cl') := hb2'.out.cell 3
    go_upto_region 14 with fail
    clear a3 b3 e1 e1' e2 e2'
    have hst := cmpL_drop l l' ks ks' i hl1 hl2
    rw [he.out] at hst
    have HST := Lib.hid hst
    clear hst he
    have hks := U1.out.obj
    have hks' := U2.out.obj
    obtain ⟨s1, hs1⟩ : ∃ s, ks.getD i [] = s := ⟨_, rfl⟩
    obtain ⟨s2, hs2⟩ : ∃ s, ks'.getD i [] = s := ⟨_, rfl⟩
    have ENT : Hid (entC ks ks' i = if k = 6 then cmpT s1 s2 else 0) := Lib.hid (by
      unfold entC
      rw [hs1, hs2]
      by_cases h6 : k = 6
      · rw [if_pos ⟨by rw [hks h6]; exact hl1, by rw [hks' h6]; exact hl2⟩, if_pos h6]
      · rw [if_neg (fun h => by have := U1.out.key h6; omega), if_neg h6])
    obtain ⟨kb, ko, kb2, ko2, HKE, HQ1, HQ2⟩ : ∃ kb ko kb2 ko2, Hid (k = 6 → Ak = some ⟨kb, ko, none⟩ ∧ Ak' = some ⟨kb2, ko2, none⟩ ∧ wr.cell? ⟨kb, ko + i, none⟩ = some (.string (strOf s1)) ∧ wr.cell? ⟨kb2, ko2 + i, none⟩ = some (.string (strOf s2))) ∧
        Hid (k = 6 → (0 : Int) ≤ (i : Int) ∧ (i : Int) < (ks.length : Int)) ∧ Hid (k = 6 → (0 : Int) ≤ (i : Int) ∧ (i : Int) < (ks'.length : Int)) := by
      by_cases h6 : k = 6
      · have hk1 : i < ks.length := by rw [hks h6]; exact hl1
        have hk2 : i < ks'.length := by rw [hks' h6]; exact hl2
        obtain ⟨kb, ko, hA, hc1⟩ := (HPW.out.far hf.out).key hk1
        obtain ⟨kb2, ko2, hA2, hc2⟩ := (HQW.out.far hf.out).key hk2
        refine ⟨kb, ko, kb2, ko2, Lib.hid fun _ => ⟨hA, hA2, by rw [hc1, ← hs1]; simp [hk1], by rw [hc2, ← hs2]; simp [hk2]⟩, Lib.hid fun _ => ⟨by omega, by omega⟩, Lib.hid fun _ => ⟨by omega, by omega⟩⟩
      · exact ⟨0, 0, 0, 0, Lib.hid fun h => absurd h h6, Lib.hid fun h => absurd h h6, Lib.hid fun h => absurd h h6⟩
    have LS1 : Hid (s1.length ≤ 140737488355328) := Lib.hid (by
      rw [← hs1]
      by_cases hk : i < ks.length
      · rw [show ks.getD i [] = ks[i] by simp [hk]]; exact HBK.out _ (List.getElem_mem hk)
      · rw [show ks.getD i [] = [] by simp [hk]]; exact Nat.zero_le _)
    have LS2 : Hid (s2.length ≤ 140737488355328) := Lib.hid (by
      rw [← hs2]
      by_cases hk : i < ks'.length
      · rw [show ks'.getD i [] = ks'[i] by simp [hk]]; exact HBK'.out _ (List.getElem_mem hk)
      · rw [show ks'.getD i [] = [] by simp [hk]]; exact Nat.zero_le _)
    clear hs1 hs2 hks hks'
    have A0 := Lib.hid (show wr.cell? ⟨g1, 0, none⟩ = some (.int .i64 k) from hb1.out.cell 0)
    have A4 := Lib.hid (show wr.cell? ⟨g1, 4, none⟩ = some (.slice Ak ks.length ck) from hb1.out.cell 4)
    have B4 := Lib.hid (show wr.cell? ⟨g2, 4, none⟩ = some (.slice Ak' ks'.length ck') from hb2'.out.cell 4)
    have BR := Lib.hid (And.intro hb2 (And.intro hb3 (And.intro hb4 hb5)))
    clear hb2 hb3 hb4 hb5
    · skip
      refine (wpIn_wide (n := 9)).1 ?_
      refine wpIn_region_factsG (ms := [0, 1, 3, 7, 15, 31, 15, 127, 255, 15, 527, 15, 3599, 7695, 16383, 32767]) (k := 16) (Fr (fun _ => False)) (rc14 g1 g2 kb ko kb2 ko2 i ks.length ck ks'.length ck' Ak Ak' k s1 s2) (fun i v W => True) (by kernel_rfl) (by kernel_rfl) (Fr.refl _ _) (fun a b c h1 h2 => h1.trans h2 (fun _ _ h => h)) (fun i v w w' hg hx => rc14_far hg hx) ?walk14
      case walk14 =>
      have hdr : ∀ W, Fr (fun _ => False) wr.drew W → Fr (fun _ => False) wr W := fun W h => ((Fr.refl (fun _ => False) wr).drew).trans h (fun _ _ h => h)
      have HDR := Lib.hid hdr
      clear hdr
      refine factWalkG_any (fun W hW hf K hK => ?_) (fun x0 => ?_)
      · refine ite_yes (by kernel_rfl) ?_
        gi_step
        exact hK _ _ (Fr.refl _ _) (rfl) trivial
      simp only [Act.put, List.setIfInBounds_toArray, List.set_cons_succ, List.set_cons_zero]
      refine factWalkG_any (fun W hW hf K hK => ?_) (fun x1 => ?_)
      · obtain rfl : x0 = .pointer (some ⟨g1, 0, none⟩) := (show x0 = .pointer (some ⟨g1, 0, none⟩) from hf 0 (by omega) (by kernel_rfl))
        have a0 : W.cell? ⟨g1, 0, none⟩ = some (.int .i64 k) := cell_far A0.out (HDR.out W hW)
        refine ite_yes (by kernel_rfl) ?_
        gi_step
        exact hK _ _ (Fr.refl _ _) (rfl) trivial
      simp only [Act.put, List.setIfInBounds_toArray, List.set_cons_succ, List.set_cons_zero]
      refine factWalkG_any (fun W hW hf K hK => ?_) (fun x2 => ?_)
      · obtain rfl : x1 = .int .i64 k := (show x1 = .int .i64 k from hf 1 (by omega) (by kernel_rfl))
        refine ite_yes (by kernel_rfl) ?_
        gi_step
        exact hK _ _ (Fr.refl _ _) (rfl) trivial
      simp only [Act.put, List.setIfInBounds_toArray, List.set_cons_succ, List.set_cons_zero]
      refine factWalkG_any (fun W hW hf K hK => ?_) (fun x3 => ?_)
      · obtain rfl : x2 = .bool (k == 6) := (show x2 = .bool (k == 6) from hf 2 (by omega) (by kernel_rfl))
        refine ite_yes (by kernel_rfl) ?_
        gi_step
        exact hK _ _ (Fr.refl _ _) (rfl) trivial
      simp only [Act.put, List.setIfInBounds_toArray, List.set_cons_succ, List.set_cons_zero]
      refine factWalkG_any (fun W hW hf K hK => ?_) (fun x4 => ?_)
      · rcases bcases ((k == 6)) with hc | hc
        · have hk := hK undef W (Fr.refl _ _) (cv_no0 hc) trivial
          obtain rfl : x3 = .bool false := ((show x3 = .bool (k == 6) from hf 3 (by omega) (by kernel_rfl))).trans (congrArg Value.bool (hc))
          exact ite_no (by kernel_rfl) ⟨fun _ _ => trivial, hk⟩
        · obtain rfl : x3 = .bool true := ((show x3 = .bool (k == 6) from hf 3 (by omega) (by kernel_rfl))).trans (congrArg Value.bool (hc))
          refine ite_yes (by kernel_rfl) ?_
          have HC := Lib.hid hc
          clear hc
          gi_step
          exact hK _ _ (Fr.refl _ _) (cv_yes0 HC.out (rfl)) trivial
      simp only [Act.put, List.setIfInBounds_toArray, List.set_cons_succ, List.set_cons_zero]
      refine factWalkG_any (fun W hW hf K hK => ?_) (fun x5 => ?_)
      · rcases bcases ((k == 6)) with hc | hc
        · have hk := hK undef W (Fr.refl _ _) (cv_no0 hc) trivial
          obtain rfl : x3 = .bool false := ((show x3 = .bool (k == 6) from hf 3 (by omega) (by kernel_rfl))).trans (congrArg Value.bool (hc))
          exact ite_no (by kernel_rfl) ⟨fun _ _ => trivial, hk⟩
        · obtain rfl : x3 = .bool true := ((show x3 = .bool (k == 6) from hf 3 (by omega) (by kernel_rfl))).trans (congrArg Value.bool (hc))
          obtain rfl : x4 = .pointer (some ⟨g1, 4, none⟩) := cv_t (show x4 = cv ((k == 6)) (.pointer (some ⟨g1, 4, none⟩)) from hf 4 (by omega) (by kernel_rfl)) (hc)
          have a4 : W.cell? ⟨g1, 4, none⟩ = some (.slice Ak ks.length ck) := cell_far A4.out (HDR.out W hW)
          refine ite_yes (by kernel_rfl) ?_
          have HC := Lib.hid hc
          clear hc
          gi_step
          exact hK _ _ (Fr.refl _ _) (cv_yes0 HC.out (rfl)) trivial
      simp only [Act.put, List.setIfInBounds_toArray, List.set_cons_succ, List.set_cons_zero]
      refine factWalkG_any (fun W hW hf K hK => ?_) (fun x6 => ?_)
      · rcases bcases ((k == 6)) with hc | hc
        · have hk := hK undef W (Fr.refl _ _) (cv_no0 hc) trivial
          obtain rfl : x3 = .bool false := ((show x3 = .bool (k == 6) from hf 3 (by omega) (by kernel_rfl))).trans (congrArg Value.bool (hc))
          exact ite_no (by kernel_rfl) ⟨fun _ _ => trivial, hk⟩
        · obtain rfl : x3 = .bool true := ((show x3 = .bool (k == 6) from hf 3 (by omega) (by kernel_rfl))).trans (congrArg Value.bool (hc))
          refine ite_yes (by kernel_rfl) ?_
          have HC := Lib.hid hc
          clear hc
          gi_step
          exact hK _ _ (Fr.refl _ _) (cv_yes0 HC.out (rfl)) trivial
      simp only [Act.put, List.setIfInBounds_toArray, List.set_cons_succ, List.set_cons_zero]
      refine factWalkG_any (fun W hW hf K hK => ?_) (fun x7 => ?_)
      · rcases bcases ((k == 6)) with hc | hc
        · have hk := hK undef W (Fr.refl _ _) (cv_no0 hc) trivial
          obtain rfl : x3 = .bool false := ((show x3 = .bool (k == 6) from hf 3 (by omega) (by kernel_rfl))).trans (congrArg Value.bool (hc))
          exact ite_no (by kernel_rfl) ⟨fun _ _ => trivial, hk⟩
        · obtain rfl : x3 = .bool true := ((show x3 = .bool (k == 6) from hf 3 (by omega) (by kernel_rfl))).trans (congrArg Value.bool (hc))
          obtain rfl : x5 = .slice Ak ks.length ck := cv_t (show x5 = cv ((k == 6)) (.slice Ak ks.length ck) from hf 5 (by omega) (by kernel_rfl)) (hc)
          obtain rfl : x6 = .int .i64 (i : Nat) := cv_t (show x6 = cv ((k == 6)) (.int .i64 (i : Nat)) from hf 6 (by omega) (by kernel_rfl)) (hc)
          have hk6 : k = 6 := by simpa using hc
          obtain ⟨hA, hA2, kc1, kc2⟩ := HKE.out hk6
          subst hA hA2
          have q1 := (HQ1.out hk6)
          clear hk6 kc1 kc2
          refine ite_yes (by kernel_rfl) ?_
          have HC := Lib.hid hc
          clear hc
          gi_step
          exact hK _ _ (Fr.refl _ _) (cv_yes0 HC.out (by first | rfl | simp)) trivial
      simp only [Act.put, List.setIfInBounds_toArray, List.set_cons_succ, List.set_cons_zero]
      refine factWalkG_any (fun W hW hf K hK => ?_) (fun x8 => ?_)
      · rcases bcases ((k == 6)) with hc | hc
        · have hk := hK undef W (Fr.refl _ _) (cv_no0 hc) trivial
          obtain rfl : x3 = .bool false := ((show x3 = .bool (k == 6) from hf 3 (by omega) (by kernel_rfl))).trans (congrArg Value.bool (hc))
          exact ite_no (by kernel_rfl) ⟨fun _ _ => trivial, hk⟩
        · obtain rfl : x3 = .bool true := ((show x3 = .bool (k == 6) from hf 3 (by omega) (by kernel_rfl))).trans (congrArg Value.bool (hc))
          obtain rfl : x7 = .pointer (some ⟨kb, ko + i, none⟩) := cv_t (show x7 = cv ((k == 6)) (.pointer (some ⟨kb, ko + i, none⟩)) from hf 7 (by omega) (by kernel_rfl)) (hc)
          have hk6 : k = 6 := by simpa using hc
          obtain ⟨hA, hA2, kc1, kc2⟩ := HKE.out hk6
          subst hA hA2
          have kc : W.cell? ⟨kb, ko + i, none⟩ = some (.string (strOf s1)) := cell_far kc1 (HDR.out W hW)
          clear hk6 kc1 kc2
          refine ite_yes (by kernel_rfl) ?_
          have HC := Lib.hid hc
          clear hc
          gi_step
          exact hK _ _ (Fr.refl _ _) (cv_yes0 HC.out (rfl)) trivial
      simp only [Act.put, List.setIfInBounds_toArray, List.set_cons_succ, List.set_cons_zero]
      refine factWalkG_any (fun W hW hf K hK => ?_) (fun x9 => ?_)
      · rcases bcases ((k == 6)) with hc | hc
        · have hk := hK undef W (Fr.refl _ _) (cv_no0 hc) trivial
          obtain rfl : x3 = .bool false := ((show x3 = .bool (k == 6) from hf 3 (by omega) (by kernel_rfl))).trans (congrArg Value.bool (hc))
          exact ite_no (by kernel_rfl) ⟨fun _ _ => trivial, hk⟩
        · obtain rfl : x3 = .bool true := ((show x3 = .bool (k == 6) from hf 3 (by omega) (by kernel_rfl))).trans (congrArg Value.bool (hc))
          refine ite_yes (by kernel_rfl) ?_
          have HC := Lib.hid hc
          clear hc
          gi_step
          exact hK _ _ (Fr.refl _ _) (cv_yes0 HC.out (rfl)) trivial
      simp only [Act.put, List.setIfInBounds_toArray, List.set_cons_succ, List.set_cons_zero]
      refine factWalkG_any (fun W hW hf K hK => ?_) (fun x10 => ?_)
      · rcases bcases ((k == 6)) with hc | hc
        · have hk := hK undef W (Fr.refl _ _) (cv_no0 hc) trivial
          obtain rfl : x3 = .bool false := ((show x3 = .bool (k == 6) from hf 3 (by omega) (by kernel_rfl))).trans (congrArg Value.bool (hc))
          exact ite_no (by kernel_rfl) ⟨fun _ _ => trivial, hk⟩
        · obtain rfl : x3 = .bool true := ((show x3 = .bool (k == 6) from hf 3 (by omega) (by kernel_rfl))).trans (congrArg Value.bool (hc))
          obtain rfl : x9 = .pointer (some ⟨g2, 4, none⟩) := cv_t (show x9 = cv ((k == 6)) (.pointer (some ⟨g2, 4, none⟩)) from hf 9 (by omega) (by kernel_rfl)) (hc)
          have b4 : W.cell? ⟨g2, 4, none⟩ = some (.slice Ak' ks'.length ck') := cell_far B4.out (HDR.out W hW)
          refine ite_yes (by kernel_rfl) ?_
          have HC := Lib.hid hc
          clear hc
          gi_step
          exact hK _ _ (Fr.refl _ _) (cv_yes0 HC.out (rfl)) trivial
      simp only [Act.put, List.setIfInBounds_toArray, List.set_cons_succ, List.set_cons_zero]
      refine factWalkG_any (fun W hW hf K hK => ?_) (fun x11 => ?_)
      · rcases bcases ((k == 6)) with hc | hc
        · have hk := hK undef W (Fr.refl _ _) (cv_no0 hc) trivial
          obtain rfl : x3 = .bool false := ((show x3 = .bool (k == 6) from hf 3 (by omega) (by kernel_rfl))).trans (congrArg Value.bool (hc))
          exact ite_no (by kernel_rfl) ⟨fun _ _ => trivial, hk⟩
        · obtain rfl : x3 = .bool true := ((show x3 = .bool (k == 6) from hf 3 (by omega) (by kernel_rfl))).trans (congrArg Value.bool (hc))
          refine ite_yes (by kernel_rfl) ?_
          have HC := Lib.hid hc
          clear hc
          gi_step
          exact hK _ _ (Fr.refl _ _) (cv_yes0 HC.out (rfl)) trivial
      simp only [Act.put, List.setIfInBounds_toArray, List.set_cons_succ, List.set_cons_zero]
      refine factWalkG_any (fun W hW hf K hK => ?_) (fun x12 => ?_)
      · rcases bcases ((k == 6)) with hc | hc
        · have hk := hK undef W (Fr.refl _ _) (cv_no0 hc) trivial
          obtain rfl : x3 = .bool false := ((show x3 = .bool (k == 6) from hf 3 (by omega) (by kernel_rfl))).trans (congrArg Value.bool (hc))
          exact ite_no (by kernel_rfl) ⟨fun _ _ => trivial, hk⟩
        · obtain rfl : x3 = .bool true := ((show x3 = .bool (k == 6) from hf 3 (by omega) (by kernel_rfl))).trans (congrArg Value.bool (hc))
          obtain rfl : x10 = .slice Ak' ks'.length ck' := cv_t (show x10 = cv ((k == 6)) (.slice Ak' ks'.length ck') from hf 10 (by omega) (by kernel_rfl)) (hc)
          obtain rfl : x11 = .int .i64 (i : Nat) := cv_t (show x11 = cv ((k == 6)) (.int .i64 (i : Nat)) from hf 11 (by omega) (by kernel_rfl)) (hc)
          have hk6 : k = 6 := by simpa using hc
          obtain ⟨hA, hA2, kc1, kc2⟩ := HKE.out hk6
          subst hA hA2
          have q1 := (HQ2.out hk6)
          clear hk6 kc1 kc2
          refine ite_yes (by kernel_rfl) ?_
          have HC := Lib.hid hc
          clear hc
          gi_step
          exact hK _ _ (Fr.refl _ _) (cv_yes0 HC.out (by first | rfl | simp)) trivial
      simp only [Act.put, List.setIfInBounds_toArray, List.set_cons_succ, List.set_cons_zero]
      refine factWalkG_any (fun W hW hf K hK => ?_) (fun x13 => ?_)
      · rcases bcases ((k == 6)) with hc | hc
        · have hk := hK undef W (Fr.refl _ _) (cv_no0 hc) trivial
          obtain rfl : x3 = .bool false := ((show x3 = .bool (k == 6) from hf 3 (by omega) (by kernel_rfl))).trans (congrArg Value.bool (hc))
          exact ite_no (by kernel_rfl) ⟨fun _ _ => trivial, hk⟩
        · obtain rfl : x3 = .bool true := ((show x3 = .bool (k == 6) from hf 3 (by omega) (by kernel_rfl))).trans (congrArg Value.bool (hc))
          obtain rfl : x12 = .pointer (some ⟨kb2, ko2 + i, none⟩) := cv_t (show x12 = cv ((k == 6)) (.pointer (some ⟨kb2, ko2 + i, none⟩)) from hf 12 (by omega) (by kernel_rfl)) (hc)
          have hk6 : k = 6 := by simpa using hc
          obtain ⟨hA, hA2, kc1, kc2⟩ := HKE.out hk6
          subst hA hA2
          have kc : W.cell? ⟨kb2, ko2 + i, none⟩ = some (.string (strOf s2)) := cell_far kc2 (HDR.out W hW)
          clear hk6 kc1 kc2
          refine ite_yes (by kernel_rfl) ?_
          have HC := Lib.hid hc
          clear hc
          gi_step
          exact hK _ _ (Fr.refl _ _) (cv_yes0 HC.out (rfl)) trivial
      simp only [Act.put, List.setIfInBounds_toArray, List.set_cons_succ, List.set_cons_zero]
      refine factWalkG_any (fun W hW hf K hK => ?_) (fun x14 => ?_)
      · rcases bcases ((k == 6)) with hc | hc
        · have hk := hK undef W (Fr.refl _ _) (cv_no0 hc) trivial
          obtain rfl : x3 = .bool false := ((show x3 = .bool (k == 6) from hf 3 (by omega) (by kernel_rfl))).trans (congrArg Value.bool (hc))
          exact ite_no (by kernel_rfl) ⟨fun _ _ => trivial, hk⟩
        · obtain rfl : x3 = .bool true := ((show x3 = .bool (k == 6) from hf 3 (by omega) (by kernel_rfl))).trans (congrArg Value.bool (hc))
          obtain rfl : x8 = .string (strOf s1) := cv_t (show x8 = cv ((k == 6)) (.string (strOf s1)) from hf 8 (by omega) (by kernel_rfl)) (hc)
          obtain rfl : x13 = .string (strOf s2) := cv_t (show x13 = cv ((k == 6)) (.string (strOf s2)) from hf 13 (by omega) (by kernel_rfl)) (hc)
          refine ite_yes (by kernel_rfl) ?_
          have HC := Lib.hid hc
          clear hc
          gi_step
          exact hK _ _ (Fr.refl _ _) (cv_yes0 HC.out (by first | rfl | simp [strOf_toList])) trivial
      simp only [Act.put, List.setIfInBounds_toArray, List.set_cons_succ, List.set_cons_zero]
      refine factWalkG_any (fun W hW hf K hK => ?_) (fun x15 => ?_)
      · rcases bcases ((k == 6)) with hq | hq
        · obtain rfl : x3 = .bool false := ((show x3 = .bool (k == 6) from hf 3 (by omega) (by kernel_rfl))).trans (congrArg Value.bool (hq))
          refine ite_yes (by kernel_rfl) ?_
          have HQ7 := Lib.hid hq
          clear hq
          gi_step
          exact hK _ _ (Fr.refl _ _) (by show (_ : Value) = _; simp only [HQ7.out, Bool.false_or, Bool.true_or, Bool.true_and, Bool.false_and]) trivial
        · obtain rfl : x3 = .bool true := ((show x3 = .bool (k == 6) from hf 3 (by omega) (by kernel_rfl))).trans (congrArg Value.bool (hq))
          obtain rfl : x14 = .bool (!(s1 == s2)) := cv_t (show x14 = cv ((k == 6)) (.bool (!(s1 == s2))) from hf 14 (by omega) (by kernel_rfl)) ((by first | exact hq | (rw [hq]; rfl)))
          refine ite_yes (by kernel_rfl) ?_
          have HQ7 := Lib.hid hq
          clear hq
          gi_step
          exact hK _ _ (Fr.refl _ _) (by show (_ : Value) = _; simp only [HQ7.out, Bool.false_or, Bool.true_or, Bool.true_and, Bool.false_and]) trivial
      simp only [Act.put, List.setIfInBounds_toArray, List.set_cons_succ, List.set_cons_zero]
      refine factWalkG_nil (fun W2 hW hf2 hmet => ?_)
      have e15 : x15 = .bool ((k == 6) && (!(s1 == s2))) := hf2 15 (by omega)
      have D2 := Lib.hid (HDR.out W2 hW)
      clear hf2 hmet hW HDR A0
      obtain ⟨r, hr⟩ : ∃ r, ((k == 6) && (!(s1 == s2))) = r := ⟨_, rfl⟩
      rw [hr] at e15
      subst e15
      have HR := Lib.hid hr
      clear hr
      change wpAnyIn _ _ _ _ _ _ 0 _ _ _
      refine wpAnyIn_done (by kernel_rfl) ?_ _
      cases r with
      | true =>
        have hk6 : k = 6 := by simpa using band_l HR.out
        have hne : s1 ≠ s2 := by simpa using band_r HR.out
        obtain ⟨hA, hA2, kc1, kc2⟩ := HKE.out hk6
        subst hA hA2
        replace HQ1 := Lib.hid (HQ1.out hk6)
        replace HQ2 := Lib.hid (HQ2.out hk6)
        have KC1 := Lib.hid (cell_far kc1 D2.out)
        have KC2 := Lib.hid (cell_far kc2 D2.out)
        replace A4 := Lib.hid (cell_far A4.out D2.out)
        replace B4 := Lib.hid (cell_far B4.out D2.out)
        obtain ⟨u, hu⟩ : ∃ u, cmpT s1 s2 = u := ⟨_, rfl⟩
        have HCALL := Lib.hid (fun W => rtexts_c W s1 s2 LS1.out LS2.out)
        rw [hu] at HCALL
        have HT : Hid (z = u) := Lib.hid (by
          rw [HST.out, ENT.out, if_pos hk6, hu]
          have hu0 : u ≠ 0 := fun h => hne ((cmpT_zero _ _).1 (hu.trans h))
          unfold lex
          rw [if_neg hu0, if_neg hu0])
        clear hk6 hne kc1 kc2 hu
        go_upto_region 15 with fail
        refine (wpIn_wide (n := 9)).1 ?_
        refine wpIn_region_factsG (ms := [0, 1, 0, 7, 15, 0, 32, 0, 224, 480, 1023, 2047]) (k := 11) (Fr (fun _ => False)) (rc15 g1 g2 kb ko kb2 ko2 i ks.length ck ks'.length ck' u s1 s2) (fun i v W => True) (by kernel_rfl) (by kernel_rfl) (Fr.refl _ _) (fun a b c h1 h2 => h1.trans h2 (fun _ _ h => h)) (fun i v w w' hg hx => rc15_far hg hx) ?walk15
        case walk15 =>
        have hdr : ∀ W, Fr (fun _ => False) W2.drew W → Fr (fun _ => False) W2 W := fun W h => ((Fr.refl (fun _ => False) W2).drew).trans h (fun _ _ h => h)
        have HDR := Lib.hid hdr
        clear hdr
        refine factWalkG_any (fun W hW hf K hK => ?_) (fun x0 => ?_)
        · refine ite_yes (by kernel_rfl) ?_
          gi_step
          exact hK _ _ (Fr.refl _ _) (rfl) trivial
        simp only [Act.put, List.setIfInBounds_toArray, List.set_cons_succ, List.set_cons_zero]
        refine factWalkG_any (fun W hW hf K hK => ?_) (fun x1 => ?_)
        · obtain rfl : x0 = .pointer (some ⟨g1, 4, none⟩) := (show x0 = .pointer (some ⟨g1, 4, none⟩) from hf 0 (by omega) (by kernel_rfl))
          have a4 : W.cell? ⟨g1, 4, none⟩ = some (.slice (some ⟨kb, ko, none⟩) ks.length ck) := cell_far A4.out (HDR.out W hW)
          refine ite_yes (by kernel_rfl) ?_
          gi_step
          exact hK _ _ (Fr.refl _ _) (rfl) trivial
        simp only [Act.put, List.setIfInBounds_toArray, List.set_cons_succ, List.set_cons_zero]
        refine factWalkG_any (fun W hW hf K hK => ?_) (fun x2 => ?_)
        · refine ite_yes (by kernel_rfl) ?_
          gi_step
          exact hK _ _ (Fr.refl _ _) (rfl) trivial
        simp only [Act.put, List.setIfInBounds_toArray, List.set_cons_succ, List.set_cons_zero]
        refine factWalkG_any (fun W hW hf K hK => ?_) (fun x3 => ?_)
        · obtain rfl : x1 = .slice (some ⟨kb, ko, none⟩) ks.length ck := (show x1 = .slice (some ⟨kb, ko, none⟩) ks.length ck from hf 1 (by omega) (by kernel_rfl))
          obtain rfl : x2 = .int .i64 (i : Nat) := (show x2 = .int .i64 (i : Nat) from hf 2 (by omega) (by kernel_rfl))
          have q1 := HQ1.out
          refine ite_yes (by kernel_rfl) ?_
          gi_step
          exact hK _ _ (Fr.refl _ _) (by first | rfl | simp) trivial
        simp only [Act.put, List.setIfInBounds_toArray, List.set_cons_succ, List.set_cons_zero]
        refine factWalkG_any (fun W hW hf K hK => ?_) (fun x4 => ?_)
        · obtain rfl : x3 = .pointer (some ⟨kb, ko + i, none⟩) := (show x3 = .pointer (some ⟨kb, ko + i, none⟩) from hf 3 (by omega) (by kernel_rfl))
          have kc1 := KC1.out
          have kc2 := KC2.out
          have kc : W.cell? ⟨kb, ko + i, none⟩ = some (.string (strOf s1)) := cell_far kc1 (HDR.out W hW)
          clear kc1 kc2
          refine ite_yes (by kernel_rfl) ?_
          gi_step
          exact hK _ _ (Fr.refl _ _) (rfl) trivial
        simp only [Act.put, List.setIfInBounds_toArray, List.set_cons_succ, List.set_cons_zero]
        refine factWalkG_any (fun W hW hf K hK => ?_) (fun x5 => ?_)
        · refine ite_yes (by kernel_rfl) ?_
          gi_step
          exact hK _ _ (Fr.refl _ _) (rfl) trivial
        simp only [Act.put, List.setIfInBounds_toArray, List.set_cons_succ, List.set_cons_zero]
        refine factWalkG_any (fun W hW hf K hK => ?_) (fun x6 => ?_)
        · obtain rfl : x5 = .pointer (some ⟨g2, 4, none⟩) := (show x5 = .pointer (some ⟨g2, 4, none⟩) from hf 5 (by omega) (by kernel_rfl))
          have b4 : W.cell? ⟨g2, 4, none⟩ = some (.slice (some ⟨kb2, ko2, none⟩) ks'.length ck') := cell_far B4.out (HDR.out W hW)
          refine ite_yes (by kernel_rfl) ?_
          gi_step
          exact hK _ _ (Fr.refl _ _) (rfl) trivial
        simp only [Act.put, List.setIfInBounds_toArray, List.set_cons_succ, List.set_cons_zero]
        refine factWalkG_any (fun W hW hf K hK => ?_) (fun x7 => ?_)
        · refine ite_yes (by kernel_rfl) ?_
          gi_step
          exact hK _ _ (Fr.refl _ _) (rfl) trivial
        simp only [Act.put, List.setIfInBounds_toArray, List.set_cons_succ, List.set_cons_zero]
        refine factWalkG_any (fun W hW hf K hK => ?_) (fun x8 => ?_)
        · obtain rfl : x6 = .slice (some ⟨kb2, ko2, none⟩) ks'.length ck' := (show x6 = .slice (some ⟨kb2, ko2, none⟩) ks'.length ck' from hf 6 (by omega) (by kernel_rfl))
          obtain rfl : x7 = .int .i64 (i : Nat) := (show x7 = .int .i64 (i : Nat) from hf 7 (by omega) (by kernel_rfl))
          have q1 := HQ2.out
          refine ite_yes (by kernel_rfl) ?_
          gi_step
          exact hK _ _ (Fr.refl _ _) (by first | rfl | simp) trivial
        simp only [Act.put, List.setIfInBounds_toArray, List.set_cons_succ, List.set_cons_zero]
        refine factWalkG_any (fun W hW hf K hK => ?_) (fun x9 => ?_)
        · obtain rfl : x8 = .pointer (some ⟨kb2, ko2 + i, none⟩) := (show x8 = .pointer (some ⟨kb2, ko2 + i, none⟩) from hf 8 (by omega) (by kernel_rfl))
          have kc1 := KC1.out
          have kc2 := KC2.out
          have kc : W.cell? ⟨kb2, ko2 + i, none⟩ = some (.string (strOf s2)) := cell_far kc2 (HDR.out W hW)
          clear kc1 kc2
          refine ite_yes (by kernel_rfl) ?_
          gi_step
          exact hK _ _ (Fr.refl _ _) (rfl) trivial
        simp only [Act.put, List.setIfInBounds_toArray, List.set_cons_succ, List.set_cons_zero]
        refine factWalkG_any (fun W hW hf K hK => ?_) (fun x10 => ?_)
        · obtain rfl : x4 = .string (strOf s1) := (show x4 = .string (strOf s1) from hf 4 (by omega) (by kernel_rfl))
          obtain rfl : x9 = .string (strOf s2) := (show x9 = .string (strOf s2) from hf 9 (by omega) (by kernel_rfl))
          refine ite_yes (by kernel_rfl) ?_
          gi_step
          refine ⟨trivial, ?_⟩
          refine (callsIn_wide.2 (HCALL.out W)).mono ?_
          rintro e W' ⟨rfl, f2⟩
          dsimp only
          exact hK _ _ f2 rfl trivial
        simp only [Act.put, List.setIfInBounds_toArray, List.set_cons_succ, List.set_cons_zero]
        refine factWalkG_nil (fun W3 hW hf2 hmet => ?_)
        have e10 : x10 = .int .i64 u := hf2 10 (by omega)
        subst e10
        have F3 := Lib.hid ((FW.out.trans D2.out (fun _ _ h => h)).trans (HDR.out W3 hW) (fun _ _ h => h))
        clear hf2 hmet hW HDR
        change wpAnyIn _ _ _ _ _ _ 1 _ _ _
        refine wpAnyIn_ready (rs := [11]) (by kernel_rfl) (by simp) ?_
        refine AllReadyIn.cons rfl (fun K hK => ?_) AllReadyIn.nil
        go_simp
        refine hK _ _ ?_
        clear hK
        refine wpAnyIn_done (by kernel_rfl) ?_ _
        go_wp2_with fail
        go_ret
        exact ⟨ret_int HT.out.symm, F3.out⟩
      | false =>
        have HZE : Hid (entC ks ks' i = 0) := Lib.hid (by
          rw [ENT.out]
          by_cases h6 : k = 6
          · rw [if_pos h6, cmpT_zero]
            have h := HR.out
            rw [h6] at h
            simpa using h
          · rw [if_neg h6])
        obtain ⟨b, off, C, hA, -, hrv, hrg, -⟩ := (HPW.out.far hf.out).at_ hl1
        obtain ⟨b', off', C', hA', -, hrv', hrg', -⟩ := (HQW.out.far hf.out).at_ hl2
        subst hA hA'
        have HS1 := Lib.hid (szV hrv)
        have HS2 := Lib.hid (szV hrv')
        have RG1 := Lib.hid (rng_far hrg D2.out)
        have RG2 := Lib.hid (rng_far hrg' D2.out)
        obtain ⟨u, hu⟩ : ∃ u, cmpV l[i] l'[i] = u := ⟨_, rfl⟩
        have HU := Lib.hid hu
        have HCALL : Hid (∀ W, Fr (fun _ => False) W2 W → Calls Tryz.prog 21 #[.agg C, .agg C'] W fun e w' => e = .returned (.int .i64 u) ∧ Fr (fun _ => False) W w') := fun W hW => by
          have h1 := D2.out.trans hW (fun _ _ h => h)
          have := IH.out l[i] (List.getElem_mem hl1) W C C' l'[i] (hrv.far h1) (hrv'.far h1) (FL1.out _ (List.getElem_mem hl1)) (FL2.out _ (List.getElem_mem hl2))
          rw [hu] at this
          exact this
        have A3 := Lib.hid (show W2.cell? ⟨g1, 3, none⟩ = some (.slice (some ⟨b, off, none⟩) l.length cl) from cell_far (hb1.out.cell 3) D2.out)
        have B3 := Lib.hid (show W2.cell? ⟨g2, 3, none⟩ = some (.slice (some ⟨b', off', none⟩) l'.length cl') from cell_far (hb2'.out.cell 3) D2.out)
        have HLT1 := Lib.hid (show (0 : Int) ≤ (i : Int) ∧ (i : Int) < (l.length : Int) by omega)
        have HLT2 := Lib.hid (show (0 : Int) ≤ (i : Int) ∧ (i : Int) < (l'.length : Int) by omega)
        have B1' := Lib.hid (keepB hb1.out D2.out)
        have B2' := Lib.hid (keepB hb2'.out D2.out)
        clear hrv hrv' hrg hrg' hu
        go_upto_region 16 with fail
        refine (wpIn_wide (n := 9)).1 ?_
        refine wpIn_region_factsG (ms := [0, 1, 0, 7, 15, 0, 32, 0, 224, 480, 1023, 2047]) (k := 11) (Fr (fun _ => False)) (rc16 g1 g2 b off b' off' l.length l'.length cl cl' i C C' u) (fun i v W => True) (by kernel_rfl) (by kernel_rfl) (Fr.refl _ _) (fun a b c h1 h2 => h1.trans h2 (fun _ _ h => h)) (fun i v w w' hg hx => rc16_far hg hx) ?walk16
        case walk16 =>
        have hdr : ∀ W, Fr (fun _ => False) W2.drew W → Fr (fun _ => False) W2 W := fun W h => ((Fr.refl (fun _ => False) W2).drew).trans h (fun _ _ h => h)
        have HDR := Lib.hid hdr
        clear hdr
        refine factWalkG_any (fun W hW hf K hK => ?_) (fun x0 => ?_)
        · refine ite_yes (by kernel_rfl) ?_
          gi_step
          exact hK _ _ (Fr.refl _ _) (rfl) trivial
        simp only [Act.put, List.setIfInBounds_toArray, List.set_cons_succ, List.set_cons_zero]
        refine factWalkG_any (fun W hW hf K hK => ?_) (fun x1 => ?_)
        · obtain rfl : x0 = .pointer (some ⟨g1, 3, none⟩) := (show x0 = .pointer (some ⟨g1, 3, none⟩) from hf 0 (by omega) (by kernel_rfl))
          have a3 : W.cell? ⟨g1, 3, none⟩ = some (.slice (some ⟨b, off, none⟩) l.length cl) := cell_far A3.out (HDR.out W hW)
          refine ite_yes (by kernel_rfl) ?_
          gi_step
          exact hK _ _ (Fr.refl _ _) (rfl) trivial
        simp only [Act.put, List.setIfInBounds_toArray, List.set_cons_succ, List.set_cons_zero]
        refine factWalkG_any (fun W hW hf K hK => ?_) (fun x2 => ?_)
        · refine ite_yes (by kernel_rfl) ?_
          gi_step
          exact hK _ _ (Fr.refl _ _) (rfl) trivial
        simp only [Act.put, List.setIfInBounds_toArray, List.set_cons_succ, List.set_cons_zero]
        refine factWalkG_any (fun W hW hf K hK => ?_) (fun x3 => ?_)
        · obtain rfl : x1 = .slice (some ⟨b, off, none⟩) l.length cl := (show x1 = .slice (some ⟨b, off, none⟩) l.length cl from hf 1 (by omega) (by kernel_rfl))
          obtain rfl : x2 = .int .i64 (i : Nat) := (show x2 = .int .i64 (i : Nat) from hf 2 (by omega) (by kernel_rfl))
          have hl1 := HLT1.out
          refine ite_yes (by kernel_rfl) ?_
          gi_step
          exact hK _ _ (Fr.refl _ _) (rfl) trivial
        simp only [Act.put, List.setIfInBounds_toArray, List.set_cons_succ, List.set_cons_zero]
        refine factWalkG_any (fun W hW hf K hK => ?_) (fun x4 => ?_)
        · obtain rfl : x3 = .pointer (some ⟨b, off + i * 5, none⟩) := (show x3 = .pointer (some ⟨b, off + i * 5, none⟩) from hf 3 (by omega) (by kernel_rfl))
          refine ite_yes (by kernel_rfl) ?_
          have hld := load_val (P := Tryz.prog) W b (off + i * 5) C (rng_far RG1.out (HDR.out W hW)) 25 _ Tryz.underlying25 rfl HS1.out
          refine operIn_load 25 _ rfl _ rfl hld ?_
          exact hK _ _ (Fr.refl _ _) rfl trivial
        simp only [Act.put, List.setIfInBounds_toArray, List.set_cons_succ, List.set_cons_zero]
        refine factWalkG_any (fun W hW hf K hK => ?_) (fun x5 => ?_)
        · refine ite_yes (by kernel_rfl) ?_
          gi_step
          exact hK _ _ (Fr.refl _ _) (rfl) trivial
        simp only [Act.put, List.setIfInBounds_toArray, List.set_cons_succ, List.set_cons_zero]
        refine factWalkG_any (fun W hW hf K hK => ?_) (fun x6 => ?_)
        · obtain rfl : x5 = .pointer (some ⟨g2, 3, none⟩) := (show x5 = .pointer (some ⟨g2, 3, none⟩) from hf 5 (by omega) (by kernel_rfl))
          have b3 : W.cell? ⟨g2, 3, none⟩ = some (.slice (some ⟨b', off', none⟩) l'.length cl') := cell_far B3.out (HDR.out W hW)
          refine ite_yes (by kernel_rfl) ?_
          gi_step
          exact hK _ _ (Fr.refl _ _) (rfl) trivial
        simp only [Act.put, List.setIfInBounds_toArray, List.set_cons_succ, List.set_cons_zero]
        refine factWalkG_any (fun W hW hf K hK => ?_) (fun x7 => ?_)
        · refine ite_yes (by kernel_rfl) ?_
          gi_step
          exact hK _ _ (Fr.refl _ _) (rfl) trivial
        simp only [Act.put, List.setIfInBounds_toArray, List.set_cons_succ, List.set_cons_zero]
        refine factWalkG_any (fun W hW hf K hK => ?_) (fun x8 => ?_)
        · obtain rfl : x6 = .slice (some ⟨b', off', none⟩) l'.length cl' := (show x6 = .slice (some ⟨b', off', none⟩) l'.length cl' from hf 6 (by omega) (by kernel_rfl))
          obtain rfl : x7 = .int .i64 (i : Nat) := (show x7 = .int .i64 (i : Nat) from hf 7 (by omega) (by kernel_rfl))
          have hl1 := HLT2.out
          refine ite_yes (by kernel_rfl) ?_
          gi_step
          exact hK _ _ (Fr.refl _ _) (rfl) trivial
        simp only [Act.put, List.setIfInBounds_toArray, List.set_cons_succ, List.set_cons_zero]
        refine factWalkG_any (fun W hW hf K hK => ?_) (fun x9 => ?_)
        · obtain rfl : x8 = .pointer (some ⟨b', off' + i * 5, none⟩) := (show x8 = .pointer (some ⟨b', off' + i * 5, none⟩) from hf 8 (by omega) (by kernel_rfl))
          refine ite_yes (by kernel_rfl) ?_
          have hld := load_val (P := Tryz.prog) W b' (off' + i * 5) C' (rng_far RG2.out (HDR.out W hW)) 25 _ Tryz.underlying25 rfl HS2.out
          refine operIn_load 25 _ rfl _ rfl hld ?_
          exact hK _ _ (Fr.refl _ _) rfl trivial
        simp only [Act.put, List.setIfInBounds_toArray, List.set_cons_succ, List.set_cons_zero]
        refine factWalkG_any (fun W hW hf K hK => ?_) (fun x10 => ?_)
        · obtain rfl : x4 = .agg C := (show x4 = .agg C from hf 4 (by omega) (by kernel_rfl))
          obtain rfl : x9 = .agg C' := (show x9 = .agg C' from hf 9 (by omega) (by kernel_rfl))
          refine ite_yes (by kernel_rfl) ?_
          gi_step
          refine ⟨trivial, ?_⟩
          refine (callsIn_wide.2 (HCALL.out W (HDR.out W hW))).mono ?_
          rintro e W' ⟨rfl, f2⟩
          dsimp only
          exact hK _ _ f2 rfl trivial
        simp only [Act.put, List.setIfInBounds_toArray, List.set_cons_succ, List.set_cons_zero]
        refine factWalkG_nil (fun W3 hW hf2 hmet => ?_)
        have e10 : x10 = .int .i64 u := hf2 10 (by omega)
        subst e10
        have D3 := Lib.hid (HDR.out W3 hW)
        have D4 := Lib.hid (hf.out.trans (D2.out.trans D3.out (fun _ _ h => h)) (fun _ _ h => h))
        have F3 := Lib.hid ((FW.out.trans D2.out (fun _ _ h => h)).trans D3.out (fun _ _ h => h))
        have B1'' := Lib.hid (keepB B1'.out D3.out)
        have B2'' := Lib.hid (keepB B2'.out D3.out)
        clear hf2 hmet hW HDR
        have HST2 : Hid (z = lex u (cmpL (l.drop (i + 1)) (ks.drop (i + 1)) (l'.drop (i + 1)) (ks'.drop (i + 1)))) := Lib.hid (by
          rw [HST.out, HZE.out, HU.out]
          rfl)
        change wpAnyIn _ _ _ _ _ _ 1 _ _ _
        refine wpAnyIn_ready (rs := [11]) (by kernel_rfl) (by simp) ?_
        refine AllReadyIn.cons rfl (fun K hK => ?_) AllReadyIn.nil
        go_simp
        refine hK _ _ ?_
        clear hK
        refine wpAnyIn_done (by kernel_rfl) ?_ _
        by_cases hu0 : u = 0
        case pos =>
          subst hu0
          have HN := Lib.hid (show cmpL (l.drop (i + 1)) (ks.drop (i + 1)) (l'.drop (i + 1)) (ks'.drop (i + 1)) = z from HST2.out.symm)
          have HJ := Lib.hid (And.intro hl1 hl2)
          have hbb := BR.out.1
          go_wp2_with fail
          go_roundw
          case rel =>
            have hj := HJ.out
            have hbb := BR.out.1
            exact ⟨i + 1, by omega, by omega, by go_num, HN.out, B1''.out, B2''.out, D4.out⟩
          case measure => have hj := HJ.out; have hbb := BR.out.1; simp [intOf]; omega
        case neg =>
          have d0 : (u == 0) = false := by simpa using hu0
          have HT : Hid (z = u) := Lib.hid (by rw [HST2.out]; unfold lex; rw [if_neg hu0])
          clear hu0
          go_wp2_with fail
          go_ret
          exact ⟨ret_int HT.out.symm, F3.out⟩
theorem rcmp_c : ∀ (a b : V) (w : World) (D E : Nat → Prop) (C C' : Array Value), RdV D w C a → RdV E w C' b → fieldsV a = true → fieldsV b = true → Calls Tryz.prog 21 #[.agg C, .agg C'] w fun e w' => e = .returned (.int .i64 (cmpV a b)) ∧ Fr (fun _ => False) w w' := by
  intro a
  induction a using V.ind with
  | h k n t l ks ih =>
    intro b w D E C C' h h' f1 f2
    obtain ⟨k1, n1, t1, l1, ks1, Al, cl, Ak, ck, css, e, rfl, hp⟩ := h.inv
    injection e with e1 e2 e3 e4 e5
    subst e1 e2 e3 e4 e5
    obtain ⟨k2, n2, t2, l2, ks2, Al', cl', Ak', ck', css', rfl, rfl, hq⟩ := h'.inv
    exact rcmp_step w hp hq f1 f2 fun x hx W C C' y h1 h2 g1 g2 => ih x hx y W D E C C' h1 h2 g1 g2
end Go.Proofs.YtnkfkicabgajmaaGreatDoor
