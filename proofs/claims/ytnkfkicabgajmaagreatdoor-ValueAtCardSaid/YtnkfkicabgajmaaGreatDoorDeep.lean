/-
  CONTRACT of the reference's Deep.
-/
import Derived.Test.YtnkfkicabgajmaaGreatDoorRu
import Derived.Test.YtnkfkicabgajmaaGreatDoorRs
import Derived.Test.YtnkfkicabgajmaaGreatDoorSm
namespace Go.Proofs.YtnkfkicabgajmaaGreatDoor
set_option linter.unusedSimpArgs false
set_option linter.unusedVariables false
open Go Go.RowKit

mutual
def deepV : V → Nat → Nat
  | .mk _ _ _ l _, m => if m < 1 then 20 else 1 + deepL l (m - 1)
def deepL : List V → Nat → Nat
  | [], _ => 0
  | v :: l, m => max (deepV v m) (deepL l m)
end
theorem deepL_snoc (l : List V) (x : V) (m : Nat) : deepL (l ++ [x]) m = max (deepL l m) (deepV x m) := by
  induction l with
  | nil => simp [deepL]
  | cons a l ih => rw [List.cons_append, deepL, ih, deepL]; omega
theorem deepL_take (l : List V) (m i : Nat) (h : i < l.length) : deepL (l.take (i + 1)) m = max (deepL (l.take i) m) (deepV l[i] m) := by
  rw [List.take_succ_eq_append_getElem h, deepL_snoc]
theorem deepL_le {l : List V} {m B : Nat} (h : ∀ x ∈ l, deepV x m ≤ B) : deepL l m ≤ B := by
  induction l with
  | nil => simp [deepL]
  | cons a l ih =>
    rw [deepL]
    have h1 := h a List.mem_cons_self
    have h2 := ih (fun x hx => h x (List.mem_cons_of_mem _ hx))
    omega
theorem deepL_ge {l : List V} {m : Nat} {x : V} (h : x ∈ l) : deepV x m ≤ deepL l m := by
  induction l with
  | nil => cases h
  | cons a l ih =>
    rw [deepL]
    rcases List.mem_cons.1 h with rfl | h
    · omega
    · have := ih h
      omega
theorem deepV_bd : ∀ (v : V) (m : Nat), deepV v m ≤ m + 20 := by
  intro v
  induction v using V.ind with
  | h k n t l ks ih =>
    intro m
    rw [deepV]
    by_cases hm : m < 1
    · rw [if_pos hm]; omega
    · rw [if_neg hm]
      have := deepL_le (l := l) (m := m - 1) (B := m - 1 + 20) (fun x hx => ih x hx _)
      omega
theorem deps_le {l : List V} {B : Nat} (h : ∀ x ∈ l, dep x ≤ B) : deps l ≤ B := by
  induction l with
  | nil => simp [deps]
  | cons a l ih =>
    rw [deps]
    have h1 := h a List.mem_cons_self
    have h2 := ih (fun x hx => h x (List.mem_cons_of_mem _ hx))
    omega
theorem deps_ge {l : List V} {x : V} (h : x ∈ l) : dep x ≤ deps l := by
  induction l with
  | nil => cases h
  | cons a l ih =>
    rw [deps]
    rcases List.mem_cons.1 h with rfl | h
    · omega
    · have := ih h
      omega
theorem deps_ex : ∀ {l : List V} {B : Nat}, B < deps l → ∃ x ∈ l, B < dep x
  | [], B, h => by simp [deps] at h
  | a :: l, B, h => by
    rw [deps] at h
    by_cases h1 : B < dep a
    · exact ⟨a, List.mem_cons_self, h1⟩
    · obtain ⟨x, hx, h2⟩ := deps_ex (l := l) (B := B) (by omega)
      exact ⟨x, List.mem_cons_of_mem _ hx, h2⟩
theorem deepV_dep : ∀ (v : V) (m : Nat), (dep v ≤ m → deepV v m = dep v) ∧ (m < dep v → 8 < deepV v m) := by
  intro v
  induction v using V.ind with
  | h k n t l ks ih =>
    intro m
    rw [deepV, dep]
    by_cases hm : m < 1
    · rw [if_pos hm]
      exact ⟨fun h => by omega, fun _ => by omega⟩
    · rw [if_neg hm]
      refine ⟨fun h => ?_, fun h => ?_⟩
      · congr 1
        apply Nat.le_antisymm
        · exact deepL_le (fun x hx => by
            have h1 := deps_ge hx
            rw [(ih x hx (m - 1)).1 (by omega)]
            exact h1)
        · exact deps_le (fun x hx => by
            have h1 := deps_ge hx
            rw [← (ih x hx (m - 1)).1 (by omega)]
            exact deepL_ge hx)
      · obtain ⟨x, hx, h2⟩ := deps_ex (l := l) (B := m - 1) (by omega)
        have h3 := (ih x hx (m - 1)).2 h2
        have h4 := deepL_ge (m := m - 1) hx
        omega
theorem deep_is (v : V) : decide (deepV v 15 ≤ 8) = decide (dep v ≤ 8) := by
  have h := deepV_dep v 15
  by_cases h1 : dep v ≤ 15
  · rw [h.1 h1]
  · have := h.2 (by omega)
    rw [decide_eq_false (by omega), decide_eq_false (by omega)]
set_option maxRecDepth 100000 in
set_option maxHeartbeats 4000000 in
theorem rdeep_step (w : World) {D : Nat → Prop} {k n : Int} {t : List UInt8} {l : List V} {ks : List (List UInt8)} {Al Ak : Option Addr} {cl ck : Nat} {css : List (Array Value)} (hp : VP D w k n t l ks Al cl Ak ck css) (m : Nat) (hm : m ≤ 100)
    (ih : ∀ (x : V), x ∈ l → ∀ (m : Nat), m ≤ 100 → ∀ (W : World) (C : Array Value), RdV D W C x → Calls Tryz.prog 30 #[.agg C, .int .i64 (m : Int)] W fun e w' => e = .returned (.int .i64 (deepV x m : Nat)) ∧ Fr (fun _ => False) W w') :
    Calls Tryz.prog 30 #[.agg (vcs k n t Al l.length cl Ak ks.length ck), .int .i64 (m : Int)] w fun e w' => e = .returned (.int .i64 (deepV (.mk k n t l ks) m : Nat)) ∧ Fr (fun _ => False) w w' := by
  have HP := Lib.hid hp
  have IH := Lib.hid ih
  have hll := hp.b.ll
  obtain ⟨z, hz⟩ : ∃ z, deepV (.mk k n t l ks) m = z := ⟨_, rfl⟩
  rw [hz]
  rw [deepV] at hz
  have HZ := Lib.hid hz
  obtain ⟨g, hg⟩ : ∃ g, w.heap.size = g := ⟨_, rfl⟩
  have HG := Lib.hid hg
  clear hp ih hz hg
  go_enter Tryz.func30, Tryz.ntmps30
  go_upto_region 1 with fail
  refine abs_world (fun W => Hid (Blk W w.heap.size 25 (vcs k n t Al l.length cl Ak ks.length ck)) ∧ Hid (Fr (fun _ => False) w W)) ⟨Blk.new w _ _, (Fr.refl _ w).alloc _⟩ ?_
  rintro W1 ⟨B1, F1⟩
  rw [HG.out] at B1 ⊢
  by_cases h1 : m < 1
  case pos =>
    obtain rfl : m = 0 := by omega
    have HF : Hid (z = 20) := Lib.hid (by rw [← HZ.out]; rfl)
    go_wp2_with fail
    go_ret
    exact ⟨ret_int (by rw [HF.out]; rfl), F1.out⟩
  have d1 : decide ((m : Int) < 1) = false := decide_eq_false (by omega)
  have d1' : decide (m < 1) = false := decide_eq_false h1
  have HZ2 : Hid (z = 1 + deepL l (m - 1)) := Lib.hid (by rw [← HZ.out, if_neg h1])
  obtain ⟨m1, rfl⟩ : ∃ m1, m = m1 + 1 := ⟨m - 1, by omega⟩
  simp only [Nat.add_sub_cancel] at HZ2
  clear HZ h1
  have hcm : (((m1 + 1 : Nat) : Int)) = (m1 : Int) + 1 := by omega
  rw [hcm]
  have d1 : decide ((m1 : Int) + 1 < 1) = false := decide_eq_false (by omega)
  go_wp2_with fail
  go_loopw [5, 6] (fun nv iv wr => ∃ (i q : Nat), i ≤ l.length ∧ iv = .int .i64 (i : Int) ∧ nv = .int .i64 (q : Int) ∧ q ≤ 200 ∧ Hid (q = deepL (l.take i) m1) ∧ Hid (Blk wr g 25 (vcs k n t Al l.length cl Ak ks.length ck)) ∧ Hid (Fr (fun _ => False) w wr)) (fun _ iv _ => l.length - (intOf iv).toNat)
  case atStart => exact ⟨0, 0, Nat.zero_le _, rfl, rfl, by omega, rfl, B1.out, F1.out⟩
  case round =>
    obtain ⟨i, q, hi, rfl, rfl, hq2, hq, hb, hf⟩ := hrel
    have c3 : wr.cell? ⟨g, 3, none⟩ = some (.slice Al l.length cl) := hb.out.cell 3
    by_cases hlt : i < l.length
    case neg =>
      have d2 : decide ((i : Int) < (l.length : Int)) = false := decide_eq_false (by omega)
      have d2' : decide (i < l.length) = false := decide_eq_false hlt
      have HF : Hid (z = 1 + q) := Lib.hid (by rw [HZ2.out, hq.out, List.take_of_length_le (by omega)])
      go_wp2_with fail
      go_ret
      exact ⟨ret_int (by rw [HF.out]; omega), hf.out⟩
    have d2 : decide ((i : Int) < (l.length : Int)) = true := decide_eq_true (by omega)
    have d2' : decide (i < l.length) = true := decide_eq_true hlt
    obtain ⟨b, off, C, hA, -, hrv, hrg, -⟩ := (HP.out.far hf.out).at_ hlt
    subst hA
    have HGR := Lib.hid hrg
    have H5 := Lib.hid (szV hrv)
    have CALL := Lib.hid (IH.out l[i] (List.getElem_mem hlt) m1 (by omega) wr C hrv)
    have hxb := deepV_bd l[i] m1
    have HQ : Hid (max q (deepV l[i] m1) = deepL (l.take (i + 1)) m1) := Lib.hid (by rw [deepL_take l m1 i hlt, hq.out])
    obtain ⟨u, hu⟩ : ∃ u, deepV l[i] m1 = u := ⟨_, rfl⟩
    rw [hu] at CALL hxb HQ
    clear hu hrv hrg
    have e1 : (m1 : Int) + 1 - 1 = (m1 : Int) := by omega
    go_wp2_with (refine wpList_load_val rfl 25 _ rfl b _ rfl C HGR.out _ Tryz.underlying25 rfl H5.out ?_)
    refine CALL.out.mono ?_
    rintro e W2 ⟨rfl, f2⟩
    have F2 := Lib.hid (hf.out.trans f2 (fun _ _ h => h))
    have B2 := Lib.hid (keepB hb.out f2)
    have e2 : max (q : Int) (u : Int) = ((max q u : Nat) : Int) := by omega
    clear f2 CALL
    go_wp2_with fail
    go_roundw
    case rel => exact ⟨i + 1, max q u, by omega, by go_num, by go_num, by omega, HQ.out, B2.out, F2.out⟩
    case measure => simp [intOf]; omega
theorem rdeep_c : ∀ (v : V) (m : Nat), m ≤ 100 → ∀ (w : World) (D : Nat → Prop) (C : Array Value), RdV D w C v → Calls Tryz.prog 30 #[.agg C, .int .i64 (m : Int)] w fun e w' => e = .returned (.int .i64 (deepV v m : Nat)) ∧ Fr (fun _ => False) w w' := by
  intro v
  induction v using V.ind with
  | h k n t l ks ih =>
    intro m hm w D C h
    obtain ⟨k1, n1, t1, l1, ks1, Al, cl, Ak, ck, css, e, rfl, hp⟩ := h.inv
    injection e with e1 e2 e3 e4 e5
    subst e1 e2 e3 e4 e5
    exact rdeep_step w hp m hm fun x hx m' hm' W C hC => ih x hx m' hm' W D C hC
end Go.Proofs.YtnkfkicabgajmaaGreatDoor
