/-
  CONTRACT of the law's long.
-/
import Derived.Test.YtillifkilkjpdaaDoorOpenA
namespace Go.Proofs.YtillifkilkjpdaaDoor
set_option linter.unusedSimpArgs false
set_option linter.unusedVariables false
open Go Go.RowKit

abbrev RdA (w : World) (A : Option Addr) (n : Nat) (l : List Ac) : Prop := Rd w A (n * 4) (l.flatMap acell)
theorem RdA.act {w : World} {A : Option Addr} {n : Nat} {l : List Ac} (h : RdA w A n l) (hl : l.length = n) {i : Nat} (hi : i < n) : ∃ b off, A = some ⟨b, off, none⟩ ∧ b < w.heap.size ∧ w.cell? ⟨b, off + i * 4, none⟩ = some (.int .i64 (l[i]'(by omega)).d) ∧ w.cell? ⟨b, off + i * 4 + 1, none⟩ = some (.int .i64 (l[i]'(by omega)).u) ∧ w.cell? ⟨b, off + i * 4 + 2, none⟩ = some (.string (strOf (l[i]'(by omega)).k)) ∧ w.cell? ⟨b, off + i * 4 + 3, none⟩ = some (.string (strOf (l[i]'(by omega)).t)) := by
  obtain ⟨b, off, rfl, hc⟩ := h.lit (by omega)
  have hf := flat_at acell 4 (fun _ => rfl) l i (by omega)
  refine ⟨b, off, rfl, h.lt (by omega) ⟨_, rfl, rfl⟩, ?_, ?_, ?_, ?_⟩
  · rw [hc _ (by omega)]; exact hf 0 (by omega)
  · rw [Nat.add_assoc, hc _ (by omega)]; exact hf 1 (by omega)
  · rw [Nat.add_assoc, hc _ (by omega)]; exact hf 2 (by omega)
  · rw [Nat.add_assoc, hc _ (by omega)]; exact hf 3 (by omega)
theorem strOf_size (l : List UInt8) : (strOf l).size = l.length := by simp [strOf, ByteArray.size]

set_option maxRecDepth 100000 in
set_option maxHeartbeats 1000000 in
theorem long_c (w : World) (A : Option Addr) (n c : Nat) (l : List Ac) (hr : RdA w A n l) (hl : l.length = n) (hm : n ≤ 140737488355328) (hok : ∀ a ∈ l, a.Ok) :
    Calls Tryd.prog 9 #[.slice A n c] w fun e w' => (∃ b, e = .returned (.bool b) ∧ (b = false → n ≤ 400)) ∧ Fr (fun _ => False) w w' := by
  have HR := Lib.hid hr
  have HL := Lib.hid hl
  have HOK := Lib.hid hok
  clear hr hl hok
  go_enter Tryd.func9, Tryd.ntmps9
  go_wp2_with fail
  go_loopw [4, 3] (fun u s wr => ∃ (i : Nat) (x : Nat), u = .int .i64 i ∧ i ≤ n ∧ s = .int .i64 x ∧ i ≤ x ∧ x ≤ 400 ∧ Hid (Fr (fun _ => False) w wr)) (fun u _ _ => n - (intOf u).toNat)
  case atStart => exact ⟨0, 0, rfl, Nat.zero_le _, rfl, Nat.le_refl _, by omega, Fr.refl _ _⟩
  case round =>
    obtain ⟨i, x, rfl, hi, rfl, hix, hx, hf⟩ := hrel
    by_cases hlt : i < n
    · have hdl : decide ((i : Int) < (n : Int)) = true := decide_eq_true (by omega)
      have hdn : decide (i < n) = true := decide_eq_true hlt
      have hI : (i : Int) < n := by omega
      obtain ⟨b, off, rfl, hbl, -, -, c2, c3⟩ := HR.out.act HL.out hlt
      have hin : i < l.length := by rw [HL.out]; exact hlt
      have hok := HOK.out l[i] (List.getElem_mem hin)
      have x2 := (hf.out.cell hbl (fun h => h)).trans c2
      have x3 := (hf.out.cell hbl (fun h => h)).trans c3
      obtain ⟨kn, hkn⟩ : ∃ kn, l[i].k.length = kn := ⟨_, rfl⟩
      obtain ⟨tn, htn⟩ : ∃ tn, l[i].t.length = tn := ⟨_, rfl⟩
      have hk1 := hok.k1
      have ht1 := hok.t1
      rw [hkn] at hk1
      rw [htn] at ht1
      have s1 : (strOf l[i].k).size = kn := by rw [strOf_size, hkn]
      have s2 : (strOf l[i].t).size = tn := by rw [strOf_size, htn]
      obtain ⟨q, hq⟩ : ∃ q : Nat, (kn + tn) / 64 = q := ⟨_, rfl⟩
      have hqb : q ≤ 4398046511104 := by omega
      generalize strOf l[i].k = sk at *
      generalize strOf l[i].t = st at *
      obtain ⟨T, hT⟩ : ∃ T : Nat, kn + tn = T := ⟨_, rfl⟩
      obtain ⟨q1, hq1⟩ : ∃ q1 : Nat, q + 1 = q1 := ⟨_, rfl⟩
      obtain ⟨x1, hx1⟩ : ∃ x1 : Nat, x + q1 = x1 := ⟨_, rfl⟩
      have e1 : IntKind.i64.wrap ((kn : Int) + (tn : Int)) = (T : Int) := by rw [IntWalk.i64_in _ (by omega)]; omega
      have e2 : Int.tdiv (T : Int) 64 = (q : Int) := by rw [Int.tdiv_eq_ediv_of_nonneg (by omega)]; omega
      have e3 : IntKind.i64.wrap (q : Int) = (q : Int) := IntWalk.i64_in _ (by omega)
      have e4 : IntKind.i64.wrap (1 + (q : Int)) = (q1 : Int) := by rw [IntWalk.i64_in _ (by omega)]; omega
      have e5 : IntKind.i64.wrap ((x : Int) + (q1 : Int)) = (x1 : Int) := by rw [IntWalk.i64_in _ (by omega)]; omega
      have hx1i : i + 1 ≤ x1 := by omega
      clear hok hkn htn c2 c3 hq hT hq1 hx1 hk1 ht1 hqb
      go_wp2_with fail
      go_quiet (fail)
      clear e1 e2 e3 e4 e5 x2 x3 s1 s2
      have HF2 : Hid (Fr (fun _ => False) w (wr.drewN nq)) := hf.out.drewN nq
      generalize wr.drewN nq = w2 at *
      by_cases h4 : x1 ≤ 400
      · have hd4 : decide ((x1 : Int) > 400) = false := decide_eq_false (by omega)
        have hd5 : decide ((400 : Int) < (x1 : Int)) = false := decide_eq_false (by omega)
        go_wp2_with fail
        exact ⟨⟨i + 1, x1, by push_cast; rfl, by omega, rfl, hx1i, h4, HF2.out⟩, by simp only [intOf]; omega⟩
      · have hd4 : decide ((x1 : Int) > 400) = true := decide_eq_true (by omega)
        have hd5 : decide ((400 : Int) < (x1 : Int)) = true := decide_eq_true (by omega)
        go_wp2_with fail
        go_ret
        exact ⟨⟨true, rfl, fun h => by cases h⟩, HF2.out⟩
    · have hdl : decide ((i : Int) < (n : Int)) = false := decide_eq_false (by omega)
      have hdn : decide (i < n) = false := decide_eq_false hlt
      go_wp2_with fail
      go_ret
      exact ⟨⟨false, rfl, fun _ => by omega⟩, hf.out⟩
end Go.Proofs.YtillifkilkjpdaaDoor
