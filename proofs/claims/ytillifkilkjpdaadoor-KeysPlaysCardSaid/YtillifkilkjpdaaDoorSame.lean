/-
  CONTRACT of same.
-/
import Derived.Test.YtillifkilkjpdaaDoorRsc
namespace Go.Proofs.YtillifkilkjpdaaDoor
set_option linter.unusedSimpArgs false
set_option linter.unusedVariables false
open Go Go.RowKit

theorem eqEnt (k k' : List UInt8) (u u' : Int) (w : World) : (Op.equalIn 10000 63 (.agg #[.string (strOf k), .int .i64 u]) (.agg #[.string (strOf k'), .int .i64 u'])).run Tryd.prog w = .ok (decide ((k, u) = (k', u'))) w := by
  have hS : Tryd.prog.underlying 63 = some (.struct (Tryd.prog.fieldsOf 63)) := by kernel_rfl
  have hp : Tryd.prog.stoodInHeld 63 = false := by kernel_rfl
  have u3 := Tryd.underlying3
  have u9 := Tryd.underlying9
  have a3 := Tryd.isAgg3
  have a9 := Tryd.isAgg9
  have z3 := Tryd.sizeOf3
  have z9 := Tryd.sizeOf9
  rw [show (10000 : Nat) = 9999 + 1 from rfl, run_equalIn_agg w 9999 63 _ _ hS hp]
  simp only [Program.fieldsOf, Tryd.underlying63]
  go_simp
  rw [strOf_toList, strOf_toList]
  by_cases h1 : k = k' <;> by_cases h2 : u = u' <;> simp [h1, h2]
set_option maxRecDepth 100000 in
set_option maxHeartbeats 1000000 in
theorem same_c (w : World) (A A' : Option Addr) (c c' : Nat) (m m' : Ents) (hr : Rd w A (m.length * 2) (ec m)) (hr' : Rd w A' (m'.length * 2) (ec m')) (hm : m.length ≤ 100000) (hm' : m'.length ≤ 100000) :
    Calls Tryd.prog 19 #[.slice A m.length c, .slice A' m'.length c'] w fun e w' => e = .returned (.bool (decide (m = m'))) ∧ Fr (fun _ => False) w w' := by
  obtain ⟨n, hn⟩ : ∃ n, m.length = n := ⟨_, rfl⟩
  obtain ⟨n', hn'⟩ : ∃ n', m'.length = n' := ⟨_, rfl⟩
  have HR := Lib.hid hr
  have HR' := Lib.hid hr'
  rw [hn] at HR hm ⊢
  rw [hn'] at HR' hm' ⊢
  have HN := Lib.hid hn
  have HN' := Lib.hid hn'
  clear hr hr' hn hn'
  by_cases hnn : n = n'
  · subst hnn
    go_enter Tryd.func19, Tryd.ntmps19
    go_wp2_with fail
    go_loopw [5] (fun u wr => ∃ i : Nat, u = .int .i64 i ∧ i ≤ n ∧ Hid (m.take i = m'.take i) ∧ Hid (Fr (fun _ => False) w wr)) (fun u _ => n - (intOf u).toNat)
    case atStart => exact ⟨0, rfl, Nat.zero_le _, rfl, Fr.refl _ _⟩
    case round =>
      obtain ⟨i, rfl, hi, hno, hf⟩ := hrel
      by_cases hlt : i < n
      · have hdl : decide ((i : Int) < (n : Int)) = true := decide_eq_true (by omega)
        have hdn : decide (i < n) = true := decide_eq_true hlt
        have hI : (i : Int) < n := by omega
        obtain ⟨b, off, rfl, hcl⟩ := (HR.out.far hf.out).lit (by omega)
        obtain ⟨b', off', rfl, hcl'⟩ := (HR'.out.far hf.out).lit (by omega)
        have hil : i < m.length := by rw [HN.out]; exact hlt
        have hil' : i < m'.length := by rw [HN'.out]; exact hlt
        have x1 : wr.cell? ⟨b, off + i * 2, none⟩ = some (.string (strOf m[i].1)) := by
          rw [hcl _ (by omega)]
          exact ec_key m i hil
        have x2 : wr.cell? ⟨b, off + i * 2 + 1, none⟩ = some (.int .i64 m[i].2) := by
          rw [Nat.add_assoc, hcl _ (by omega)]
          exact ec_val m i hil
        have x3 : wr.cell? ⟨b', off' + i * 2, none⟩ = some (.string (strOf m'[i].1)) := by
          rw [hcl' _ (by omega)]
          exact ec_key m' i hil'
        have x4 : wr.cell? ⟨b', off' + i * 2 + 1, none⟩ = some (.int .i64 m'[i].2) := by
          rw [Nat.add_assoc, hcl' _ (by omega)]
          exact ec_val m' i hil'
        clear hcl hcl'
        obtain ⟨r, hrr⟩ : ∃ r, decide ((m[i].1, m[i].2) = (m'[i].1, m'[i].2)) = r := ⟨_, rfl⟩
        have heqn := fun W => eqEnt m[i].1 m'[i].1 m[i].2 m'[i].2 W
        rw [hrr] at heqn
        have HRR := Lib.hid hrr
        clear hrr
        go_wp2_with fail
        go_quiet (fail)
        have HF2 : Hid (Fr (fun _ => False) w (wr.drewN nq)) := hf.out.drewN nq
        clear x1 x2 x3 x4 heqn
        generalize wr.drewN nq = w2 at *
        have htk := take_next hil
        have htk' := take_next hil'
        cases r with
        | true =>
          have hre : Hid (m.take (i + 1) = m'.take (i + 1)) := by
            show _ = _
            rw [htk, htk', hno.out, of_decide_eq_true HRR.out]
          clear htk htk'
          go_wp2_with fail
          exact ⟨⟨i + 1, by push_cast; rfl, by omega, hre.out, HF2.out⟩, by simp only [intOf]; omega⟩
        | false =>
          have hre : Hid (m ≠ m') := fun he => by
            subst he
            have := HRR.out
            simp at this
          clear htk htk'
          go_wp2_with fail
          go_ret
          refine ⟨?_, HF2.out⟩
          show Ending.returned (.bool false) = _
          rw [decide_eq_false hre.out]
      · have hdl : decide ((i : Int) < (n : Int)) = false := decide_eq_false (by omega)
        have hdn : decide (i < n) = false := decide_eq_false hlt
        have hin : i = n := by omega
        have hre : Hid (m = m') := by
          have h1 := hno.out
          rw [hin] at h1
          conv at h1 => lhs; rw [← HN.out, List.take_length]
          conv at h1 => rhs; rw [← HN'.out, List.take_length]
          exact h1
        go_wp2_with fail
        go_ret
        refine ⟨?_, hf.out⟩
        show Ending.returned (.bool true) = _
        rw [decide_eq_true hre.out]
  · have hb : ((n : Int) != (n' : Int)) = true := by simp; omega
    have hb2 : ((n : Int) == (n' : Int)) = false := by simp; omega
    have hre : Hid (m ≠ m') := fun he => hnn (by rw [← HN.out, ← HN'.out, he])
    go_enter Tryd.func19, Tryd.ntmps19
    go_wp2_with fail
    go_ret
    refine ⟨?_, Fr.refl _ _⟩
    show Ending.returned (.bool false) = _
    rw [decide_eq_false hre.out]
end Go.Proofs.YtillifkilkjpdaaDoor
