/-
  CONTRACT of the law's parts and Long.
-/
import Derived.Test.YtnkfkicabgajmaaGreatDoorGVal
import Derived.Test.YtnkfkicabgajmaaGreatDoorProg
namespace Go.Proofs.YtnkfkicabgajmaaGreatDoor
set_option linter.unusedSimpArgs false
set_option linter.unusedVariables false
open Go Go.RowKit

def kparts : List (List UInt8) → Nat
  | [] => 0
  | s :: ks => 1 + s.length / 100 + kparts ks
mutual
def partsV : V → Nat → Nat
  | .mk _ _ t l ks, d => if d < 1 ∨ 3000 < l.length ∨ 3000 < ks.length ∨ 4000 < t.length then 100000 else partsL l (d - 1) (1 + t.length / 100 + kparts ks)
def partsL : List V → Nat → Nat → Nat
  | [], _, n => n
  | v :: l, d, n => if n < 100000 then partsL l d (n + partsV v d) else n
end
theorem kparts_snoc (l : List (List UInt8)) (s : List UInt8) : kparts (l ++ [s]) = kparts l + (1 + s.length / 100) := by
  induction l with
  | nil => simp [kparts]
  | cons a l ih => rw [List.cons_append, kparts, ih, kparts]; omega
theorem kparts_le (l : List (List UInt8)) (h : ∀ s ∈ l, s.length ≤ 140737488355328) : kparts l ≤ l.length * 1407374883555 := by
  induction l with
  | nil => simp [kparts]
  | cons a l ih =>
    have := ih (fun s hs => h s (List.mem_cons_of_mem _ hs))
    have := h a List.mem_cons_self
    rw [kparts, List.length_cons]
    omega
theorem lw1 : (Tryz.prog.info? 25).map (·.size) = some 5 := by kernel_rfl

theorem kparts_take (ks : List (List UInt8)) (i : Nat) : kparts (ks.take i) ≤ kparts ks := by
  induction ks generalizing i with
  | nil => simp
  | cons s ks ih =>
    cases i with
    | zero => simp [kparts]
    | succ i => have := ih i; rw [List.take_succ_cons, kparts, kparts]; omega
theorem kparts_bd {ks : List (List UInt8)} (h3 : ¬ 3000 < ks.length) (hk : ∀ s ∈ ks, s.length ≤ 140737488355328) : kparts ks ≤ 4222124650665000 := by
  have := kparts_le ks hk
  omega
theorem partsV_early {k n : Int} {t : List UInt8} {l : List V} {ks : List (List UInt8)} {d : Nat} (h : d < 1 ∨ 3000 < l.length ∨ 3000 < ks.length ∨ 4000 < t.length) : partsV (.mk k n t l ks) d = 100000 := by
  rw [partsV, if_pos h]
set_option maxHeartbeats 1000000 in
theorem parts_early (w : World) {D : Nat → Prop} {k n : Int} {t : List UInt8} {l : List V} {ks : List (List UInt8)} {Al Ak : Option Addr} {cl ck : Nat} {css : List (Array Value)} (hp : VP D w k n t l ks Al cl Ak ck css) (d : Nat) (hd : d ≤ 20)
    (h : d < 1 ∨ 3000 < l.length ∨ 3000 < ks.length ∨ 4000 < t.length) : Calls Tryz.prog 25 #[.agg (vcs k n t Al l.length cl Ak ks.length ck), .int .i64 (d : Int)] w fun e w' => e = .returned (.int .i64 100000) ∧ Fr (fun _ => False) w w' := by
  have hb1 := hp.b.tl
  have hb2 := hp.b.ll
  have hb3 := hp.b.kl
  have hts : (strOf t).size = t.length := strOf_size t
  by_cases h1 : d < 1
  · clear h
    have d1 : decide ((d : Int) < 1) = true := decide_eq_true (by omega)
    clear hp
    go_enter Tryz.func25, Tryz.ntmps25
    go_upto_region 1 with fail
    refine abs_world (fun W => Hid (Blk W w.heap.size 25 (vcs k n t Al l.length cl Ak ks.length ck)) ∧ Hid (Fr (fun _ => False) w W)) ⟨Blk.new w _ _, (Fr.refl _ w).alloc _⟩ ?_
    rintro W1 ⟨B1, F1⟩
    have c0 : W1.cell? ⟨w.heap.size, 0, none⟩ = some (.int .i64 k) := B1.out.cell 0
    have c2 : W1.cell? ⟨w.heap.size, 2, none⟩ = some (.string (strOf t)) := B1.out.cell 2
    have c3 : W1.cell? ⟨w.heap.size, 3, none⟩ = some (.slice Al l.length cl) := B1.out.cell 3
    have c4 : W1.cell? ⟨w.heap.size, 4, none⟩ = some (.slice Ak ks.length ck) := B1.out.cell 4
    go_wp2_with fail
    go_ret
    exact ⟨rfl, F1.out⟩
  by_cases h2 : 3000 < l.length
  · clear h
    have d1 : decide ((d : Int) < 1) = false := decide_eq_false (by omega)
    have d2 : decide (3000 < (l.length : Int)) = true := decide_eq_true (by omega)
    have d2' : decide (3000 < l.length) = true := decide_eq_true (by omega)
    clear hp
    go_enter Tryz.func25, Tryz.ntmps25
    go_upto_region 1 with fail
    refine abs_world (fun W => Hid (Blk W w.heap.size 25 (vcs k n t Al l.length cl Ak ks.length ck)) ∧ Hid (Fr (fun _ => False) w W)) ⟨Blk.new w _ _, (Fr.refl _ w).alloc _⟩ ?_
    rintro W1 ⟨B1, F1⟩
    have c0 : W1.cell? ⟨w.heap.size, 0, none⟩ = some (.int .i64 k) := B1.out.cell 0
    have c2 : W1.cell? ⟨w.heap.size, 2, none⟩ = some (.string (strOf t)) := B1.out.cell 2
    have c3 : W1.cell? ⟨w.heap.size, 3, none⟩ = some (.slice Al l.length cl) := B1.out.cell 3
    have c4 : W1.cell? ⟨w.heap.size, 4, none⟩ = some (.slice Ak ks.length ck) := B1.out.cell 4
    go_wp2_with fail
    go_ret
    exact ⟨rfl, F1.out⟩
  by_cases h3 : 3000 < ks.length
  · clear h
    have d1 : decide ((d : Int) < 1) = false := decide_eq_false (by omega)
    have d2 : decide (3000 < (l.length : Int)) = false := decide_eq_false (by omega)
    have d2' : decide (3000 < l.length) = false := decide_eq_false (by omega)
    have d3 : decide (3000 < (ks.length : Int)) = true := decide_eq_true (by omega)
    have d3' : decide (3000 < ks.length) = true := decide_eq_true (by omega)
    clear hp
    go_enter Tryz.func25, Tryz.ntmps25
    go_upto_region 1 with fail
    refine abs_world (fun W => Hid (Blk W w.heap.size 25 (vcs k n t Al l.length cl Ak ks.length ck)) ∧ Hid (Fr (fun _ => False) w W)) ⟨Blk.new w _ _, (Fr.refl _ w).alloc _⟩ ?_
    rintro W1 ⟨B1, F1⟩
    have c0 : W1.cell? ⟨w.heap.size, 0, none⟩ = some (.int .i64 k) := B1.out.cell 0
    have c2 : W1.cell? ⟨w.heap.size, 2, none⟩ = some (.string (strOf t)) := B1.out.cell 2
    have c3 : W1.cell? ⟨w.heap.size, 3, none⟩ = some (.slice Al l.length cl) := B1.out.cell 3
    have c4 : W1.cell? ⟨w.heap.size, 4, none⟩ = some (.slice Ak ks.length ck) := B1.out.cell 4
    go_wp2_with fail
    go_ret
    exact ⟨rfl, F1.out⟩
  by_cases h4 : 4000 < t.length
  · clear h
    have d1 : decide ((d : Int) < 1) = false := decide_eq_false (by omega)
    have d2 : decide (3000 < (l.length : Int)) = false := decide_eq_false (by omega)
    have d2' : decide (3000 < l.length) = false := decide_eq_false (by omega)
    have d3 : decide (3000 < (ks.length : Int)) = false := decide_eq_false (by omega)
    have d3' : decide (3000 < ks.length) = false := decide_eq_false (by omega)
    have d4 : decide (4000 < (t.length : Int)) = true := decide_eq_true (by omega)
    have d4' : decide (4000 < t.length) = true := decide_eq_true (by omega)
    clear hp
    go_enter Tryz.func25, Tryz.ntmps25
    go_upto_region 1 with fail
    refine abs_world (fun W => Hid (Blk W w.heap.size 25 (vcs k n t Al l.length cl Ak ks.length ck)) ∧ Hid (Fr (fun _ => False) w W)) ⟨Blk.new w _ _, (Fr.refl _ w).alloc _⟩ ?_
    rintro W1 ⟨B1, F1⟩
    have c0 : W1.cell? ⟨w.heap.size, 0, none⟩ = some (.int .i64 k) := B1.out.cell 0
    have c2 : W1.cell? ⟨w.heap.size, 2, none⟩ = some (.string (strOf t)) := B1.out.cell 2
    have c3 : W1.cell? ⟨w.heap.size, 3, none⟩ = some (.slice Al l.length cl) := B1.out.cell 3
    have c4 : W1.cell? ⟨w.heap.size, 4, none⟩ = some (.slice Ak ks.length ck) := B1.out.cell 4
    go_wp2_with fail
    go_ret
    exact ⟨rfl, F1.out⟩
  omega
theorem partsL_drop (l : List V) (d i n : Nat) (h : i < l.length) : partsL (l.drop i) d n = if n < 100000 then partsL (l.drop (i + 1)) d (n + partsV l[i] d) else n := by
  rw [List.drop_eq_getElem_cons h, partsL]
set_option maxHeartbeats 1000000 in
theorem parts_late (w : World) {D : Nat → Prop} {k n : Int} {t : List UInt8} {l : List V} {ks : List (List UInt8)} {Al Ak : Option Addr} {cl ck : Nat} {css : List (Array Value)} (hp : VP D w k n t l ks Al cl Ak ck css) (d : Nat) (hd : d ≤ 20)
    (h1 : ¬ d < 1) (h2 : ¬ 3000 < l.length) (h3 : ¬ 3000 < ks.length) (h4 : ¬ 4000 < t.length)
    (ih : ∀ (x : V), x ∈ l → ∀ (W : World) (C : Array Value), RdV D W C x → Calls Tryz.prog 25 #[.agg C, .int .i64 ((d : Int) - 1)] W fun e w' => e = .returned (.int .i64 (partsV x (d - 1))) ∧ Fr (fun _ => False) W w')
    (hbd : ∀ x ∈ l, partsV x (d - 1) ≤ 200000000000000000) :
    Calls Tryz.prog 25 #[.agg (vcs k n t Al l.length cl Ak ks.length ck), .int .i64 (d : Int)] w fun e w' => e = .returned (.int .i64 (partsL l (d - 1) (1 + t.length / 100 + kparts ks))) ∧ Fr (fun _ => False) w w' := by
  have hb1 := hp.b.tl
  have hb2 := hp.b.ll
  have hb3 := hp.b.kl
  have hts : (strOf t).size = t.length := strOf_size t
  have hkk := kparts_bd h3 hp.b.ks
  have d1 : decide ((d : Int) < 1) = false := decide_eq_false (by omega)
  have d2 : decide (3000 < (l.length : Int)) = false := decide_eq_false (by omega)
  have d2' : decide (3000 < l.length) = false := decide_eq_false (by omega)
  have d3 : decide (3000 < (ks.length : Int)) = false := decide_eq_false (by omega)
  have d3' : decide (3000 < ks.length) = false := decide_eq_false (by omega)
  have d4 : decide (4000 < (t.length : Int)) = false := decide_eq_false (by omega)
  have d4' : decide (4000 < t.length) = false := decide_eq_false (by omega)
  have HP := Lib.hid hp
  have IH := Lib.hid ih
  have HBD := Lib.hid hbd
  clear hp ih hbd
  go_enter Tryz.func25, Tryz.ntmps25
  go_upto_region 1 with fail
  refine abs_world (fun W => Hid (Blk W w.heap.size 25 (vcs k n t Al l.length cl Ak ks.length ck)) ∧ Hid (Fr (fun _ => False) w W)) ⟨Blk.new w _ _, (Fr.refl _ w).alloc _⟩ ?_
  rintro W1 ⟨B1, F1⟩
  have c0 : W1.cell? ⟨w.heap.size, 0, none⟩ = some (.int .i64 k) := B1.out.cell 0
  have c2 : W1.cell? ⟨w.heap.size, 2, none⟩ = some (.string (strOf t)) := B1.out.cell 2
  have c3 : W1.cell? ⟨w.heap.size, 3, none⟩ = some (.slice Al l.length cl) := B1.out.cell 3
  have c4 : W1.cell? ⟨w.heap.size, 4, none⟩ = some (.slice Ak ks.length ck) := B1.out.cell 4
  have HP1 := Lib.hid (HP.out.far F1.out)
  clear HP
  go_wp2_with fail
  have hps := kparts_take ks
  have HPS := Lib.hid hps
  clear hps
  go_loop [5, 6] (fun nv iv => ∃ i : Nat, i ≤ ks.length ∧ iv = .int .i64 (i : Int) ∧ nv = .int .i64 ((1 + t.length / 100 + kparts (ks.take i) : Nat) : Int)) (fun _ iv => ks.length - (intOf iv).toNat)
  case atStart => exact ⟨0, Nat.zero_le _, rfl, by simp [kparts]⟩
  case round =>
    obtain ⟨i, hi, rfl, rfl⟩ := hrel
    have hkp := HPS.out i
    by_cases hlt : i < ks.length
    · obtain ⟨b, off, hA, hc⟩ := HP1.out.key hlt
      subst hA
      have hq := HP1.out.b.ks ks[i] (List.getElem_mem hlt)
      have hsz : (strOf ks[i]).size = (ks[i]).length := strOf_size _
      have hdl : decide ((i : Int) < (ks.length : Int)) = true := decide_eq_true (by omega)
      have hdl' : decide (i < ks.length) = true := decide_eq_true hlt
      go_wp2_with fail
      go_round
      case rel => exact ⟨i + 1, by omega, by go_num, by rw [show ks.take (i + 1) = ks.take i ++ [ks[i]] by rw [List.take_succ_eq_append_getElem hlt], kparts_snoc]; go_num⟩
      case measure => simp [intOf]; omega
    · obtain rfl : i = ks.length := by omega
      have hdl : decide ((ks.length : Int) < (ks.length : Int)) = false := decide_eq_false (by omega)
      have hdl' : decide (ks.length < ks.length) = false := decide_eq_false (by omega)
      go_wp2_with fail
      have hn0 : 1 + t.length / 100 + kparts ks ≤ 200000000000100000 := by omega
      obtain ⟨n0, hn0e⟩ : ∃ n0 : Nat, 1 + t.length / 100 + kparts ks = n0 := ⟨_, rfl⟩
      rw [hn0e] at hn0
      have HN0 := Lib.hid hn0e
      clear hn0e hkp hkk c0 c2 c3 c4 hts
      go_loopw [5, 7] (fun nv iv wr => ∃ i m : Nat, i ≤ l.length ∧ m ≤ 200000000000100000 ∧ iv = .int .i64 (i : Int) ∧ nv = .int .i64 (m : Int) ∧ Hid (partsL l (d - 1) n0 = partsL (l.drop i) (d - 1) m) ∧ Hid (Fr (fun _ => False) W1 wr)) (fun _ iv _ => l.length - (intOf iv).toNat)
      case atStart => exact ⟨0, n0, Nat.zero_le _, by omega, rfl, by rw [← HN0.out]; go_num, rfl, Fr.refl _ _⟩
      case round =>
        obtain ⟨i, m, hi, hm, rfl, rfl, he, hf⟩ := hrel
        have BW := Lib.hid (B1.out.fr hf.out (fun h => h))
        have c3 : wr.cell? ⟨w.heap.size, 3, none⟩ = some (.slice Al l.length cl) := BW.out.cell 3
        by_cases hlt : i < l.length
        · have hdl2 : decide ((i : Int) < (l.length : Int)) = true := decide_eq_true (by omega)
          have hdl2' : decide (i < l.length) = true := decide_eq_true hlt
          by_cases hm1 : m < 100000
          · have hdm : decide ((m : Int) < 100000) = true := decide_eq_true (by omega)
            have hdm' : decide (m < 100000) = true := decide_eq_true (by omega)
            obtain ⟨b, off, C, hA, hci, hrv, hrg, h5⟩ := (HP1.out.far hf.out).at_ hlt
            subst hA
            have HC := Lib.hid hci
            have HR := Lib.hid hrv
            have HG := Lib.hid hrg
            have H5 := Lib.hid (show (Tryz.prog.info? 25).map (·.size) = some C.size by rw [h5]; exact lw1)
            have hxb := HBD.out l[i] (List.getElem_mem hlt)
            clear hci hrv hrg h5
            go_wp2_with (refine wpList_load_val rfl 25 _ rfl b _ rfl C HG.out _ Tryz.underlying25 rfl H5.out ?_)
            refine (IH.out l[i] (List.getElem_mem hlt) wr C HR.out).mono ?_
            rintro e W2 ⟨rfl, f2⟩
            have HF2 := Lib.hid (hf.out.trans f2 (fun _ _ h => h))
            have HE2 : Hid (partsL l (d - 1) n0 = partsL (l.drop (i + 1)) (d - 1) (m + partsV l[i] (d - 1))) := by
              refine Lib.hid ?_
              rw [he.out, partsL_drop l (d - 1) i m hlt, if_pos hm1]
            obtain ⟨y, hy⟩ : ∃ y, partsV l[i] (d - 1) = y := ⟨_, rfl⟩
            rw [hy] at HE2 hxb ⊢
            clear hy f2 BW c3 hf he HC HR HG H5
            go_wp2_with fail
            go_roundw
            case rel => exact ⟨i + 1, m + y, by omega, by omega, by go_num, by go_num, HE2.out, HF2.out⟩
            case measure => simp [intOf]; omega
          · have hdm : decide ((m : Int) < 100000) = false := decide_eq_false (by omega)
            have hdm' : decide (m < 100000) = false := decide_eq_false (by omega)
            have hr : partsL l (d - 1) n0 = m := by rw [he.out, partsL_drop l (d - 1) i m hlt, if_neg hm1]
            have HR := Lib.hid hr
            clear hr
            go_wp2_with fail
            go_ret
            exact ⟨ret_int (by rw [HN0.out, HR.out]), F1.out.trans hf.out (fun _ _ h => h)⟩
        · obtain rfl : i = l.length := by omega
          have hdl2 : decide ((l.length : Int) < (l.length : Int)) = false := decide_eq_false (by omega)
          have hdl2' : decide (l.length < l.length) = false := decide_eq_false (by omega)
          have hr : partsL l (d - 1) n0 = m := by rw [he.out, List.drop_length, partsL]
          have HR := Lib.hid hr
          clear hr
          go_wp2_with fail
          go_ret
          exact ⟨ret_int (by rw [HN0.out, HR.out]), F1.out.trans hf.out (fun _ _ h => h)⟩
theorem partsV_late {k n : Int} {t : List UInt8} {l : List V} {ks : List (List UInt8)} {d : Nat} (h : ¬ (d < 1 ∨ 3000 < l.length ∨ 3000 < ks.length ∨ 4000 < t.length)) : partsV (.mk k n t l ks) d = partsL l (d - 1) (1 + t.length / 100 + kparts ks) := by
  rw [partsV, if_neg h]
theorem partsL_le : ∀ (l : List V) (d n B : Nat), (∀ x ∈ l, partsV x d ≤ B) → n ≤ 100000 + B → partsL l d n ≤ 100000 + B
  | [], d, n, B, _, h => by rw [partsL]; exact h
  | x :: l, d, n, B, hx, h => by
    rw [partsL]
    have := hx x List.mem_cons_self
    split
    · exact partsL_le l d _ B (fun y hy => hx y (List.mem_cons_of_mem _ hy)) (by omega)
    · exact h
theorem parts_bd : ∀ (v : V) (d : Nat) (w : World) (D : Nat → Prop) (C : Array Value), RdV D w C v → partsV v d ≤ (d + 1) * 4300000000000000 := by
  intro v
  induction v using V.ind with
  | h k n t l ks ih =>
    intro d w D C h
    obtain ⟨k', n', t', l', ks', Al, cl, Ak, ck, css, e, rfl, hp⟩ := h.inv
    injection e with e1 e2 e3 e4 e5
    subst e1 e2 e3 e4 e5
    by_cases hc : d < 1 ∨ 3000 < l.length ∨ 3000 < ks.length ∨ 4000 < t.length
    · rw [partsV_early hc]
      omega
    · rw [partsV_late hc]
      simp only [not_or] at hc
      have hk := kparts_bd hc.2.2.1 hp.b.ks
      have hel : ∀ x ∈ l, partsV x (d - 1) ≤ d * 4300000000000000 := by
        intro x hx
        obtain ⟨i, hi, rfl⟩ := List.mem_iff_getElem.1 hx
        have := ih _ hx (d - 1) w D _ (hp.el i _ _ (List.getElem?_eq_getElem (by rw [hp.cn]; exact hi)) (List.getElem?_eq_getElem hi))
        rw [show d - 1 + 1 = d by omega] at this
        exact this
      by_cases hd : 4300000000000000 ≤ d * 4300000000000000
      · have := partsL_le l (d - 1) (1 + t.length / 100 + kparts ks) _ hel (by omega)
        omega
      · omega
theorem parts_c : ∀ (v : V) (d : Nat) (w : World) (D : Nat → Prop) (C : Array Value), RdV D w C v → d ≤ 20 → Calls Tryz.prog 25 #[.agg C, .int .i64 (d : Int)] w fun e w' => e = .returned (.int .i64 (partsV v d : Int)) ∧ Fr (fun _ => False) w w' := by
  intro v
  induction v using V.ind with
  | h k n t l ks ih =>
    intro d w D C h hd
    obtain ⟨k', n', t', l', ks', Al, cl, Ak, ck, css, e, rfl, hp⟩ := h.inv
    injection e with e1 e2 e3 e4 e5
    subst e1 e2 e3 e4 e5
    by_cases hc : d < 1 ∨ 3000 < l.length ∨ 3000 < ks.length ∨ 4000 < t.length
    · rw [partsV_early hc]
      exact parts_early w hp d hd hc
    · rw [partsV_late hc]
      simp only [not_or] at hc
      refine parts_late w (D := fun b => D b) hp d hd hc.1 hc.2.1 hc.2.2.1 hc.2.2.2 (fun x hx W C hC => ?_) (fun x hx => ?_)
      · have := ih x hx (d - 1) W _ C hC (by omega)
        rw [show ((d - 1 : Nat) : Int) = (d : Int) - 1 by omega] at this
        exact this
      · obtain ⟨i, hi, rfl⟩ := List.mem_iff_getElem.1 hx
        have := parts_bd l[i] (d - 1) w D _ (hp.el i _ _ (List.getElem?_eq_getElem (by rw [hp.cn]; exact hi)) (List.getElem?_eq_getElem hi))
        omega
theorem Long_c (v : V) (w : World) (D : Nat → Prop) (C : Array Value) (h : RdV D w C v) : Calls Tryz.prog 7 #[.agg C] w fun e w' => e = .returned (.bool (decide (4000 < partsV v 20))) ∧ Fr (fun _ => False) w w' := by
  have hc := fun W (hW : Fr (fun _ => False) w W) => parts_c v 20 W D C (h.far hW) (by omega)
  have hb := parts_bd v 20 w D C h
  have h5 : (Tryz.prog.info? 25).map (·.size) = some C.size := by rw [h.size]; exact lw1
  have HC := Lib.hid hc
  have H5 := Lib.hid h5
  clear hc h5 h
  go_enter Tryz.func7, Tryz.ntmps7
  go_upto_region 1 with fail
  refine abs_world (fun W => Hid (Blk W w.heap.size 25 C) ∧ Hid (Fr (fun _ => False) w W)) ⟨Blk.new w _ _, (Fr.refl _ w).alloc _⟩ ?_
  rintro W1 ⟨B1, F1⟩
  go_wp2_with (refine wpList_load_val rfl 25 _ rfl w.heap.size _ rfl C (by simpa using B1.out.rng) _ Tryz.underlying25 rfl H5.out ?_)
  refine (HC.out W1 F1.out).mono ?_
  rintro e W2 ⟨rfl, f2⟩
  have F2 := Lib.hid (F1.out.trans f2 (fun _ _ h => h))
  clear f2
  obtain ⟨m, hm⟩ : ∃ m, partsV v 20 = m := ⟨_, rfl⟩
  rw [hm] at hb ⊢
  have HM := Lib.hid hm
  clear hm
  by_cases hlt : 4000 < m
  · have d1 : decide (4000 < (m : Int)) = true := decide_eq_true (by omega)
    have d2 : decide (4000 < m) = true := decide_eq_true (by omega)
    go_wp2_with fail
    go_ret
    exact ⟨ret_bool (by rw [HM.out]; simp [hlt]), F2.out⟩
  · have d1 : decide (4000 < (m : Int)) = false := decide_eq_false (by omega)
    have d2 : decide (4000 < m) = false := decide_eq_false (by omega)
    go_wp2_with fail
    go_ret
    exact ⟨ret_bool (by rw [HM.out]; simp [hlt]), F2.out⟩
end Go.Proofs.YtnkfkicabgajmaaGreatDoor
