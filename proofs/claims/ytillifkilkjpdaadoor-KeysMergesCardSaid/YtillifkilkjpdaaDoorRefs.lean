/-
  CONTRACTS of the reference's Get, and of same.
-/
import Derived.Test.YtillifkilkjpdaaDoorHp7
import Derived.Test.YtillifkilkjpdaaDoorRnum
namespace Go.Proofs.YtillifkilkjpdaaDoor
set_option linter.unusedSimpArgs false
set_option linter.unusedVariables false
open Go Go.RowKit

/-- Where a key is; below 0: nowhere. -/
def rget (m : Ents) (key : List UInt8) : Int := if fnd m key then ((m.findIdx fun e => e.1 == key : Nat) : Int) else -1

set_option maxRecDepth 100000 in
set_option maxHeartbeats 1000000 in
theorem rget_c (w : World) (A : Option Addr) (c : Nat) (m : Ents) (key : List UInt8) (hr : Rd w A (m.length * 2) (ec m)) (hc : m.length ≤ c) (hm : m.length ≤ 100000) :
    Calls Tryd.prog 33 #[.slice A m.length c, .string (strOf key)] w fun e w' => e = .returned (.int .i64 (rget m key)) ∧ w' = w := by
  obtain ⟨n, hn⟩ : ∃ n, m.length = n := ⟨_, rfl⟩
  have HR := Lib.hid hr
  rw [hn] at HR hc hm ⊢
  have HN := Lib.hid hn
  clear hr hn
  go_enter Tryd.func33, Tryd.ntmps33
  go_wp2_with fail
  go_loopw [5] (fun u wr => ∃ i : Nat, u = .int .i64 i ∧ i ≤ n ∧ Hid (∀ j (hj : j < m.length), j < i → m[j].1 ≠ key) ∧ wr = w) (fun u _ => n - (intOf u).toNat)
  case atStart => exact ⟨0, rfl, Nat.zero_le _, fun j hj h => absurd h (Nat.not_lt_zero _), rfl⟩
  case round =>
    obtain ⟨i, rfl, hi, hno, rfl⟩ := hrel
    by_cases hlt : i < n
    · have hdl : decide ((i : Int) < (n : Int)) = true := decide_eq_true (by omega)
      have hdn : decide (i < n) = true := decide_eq_true hlt
      have hI : (i : Int) < n := by omega
      obtain ⟨b, off, rfl, hcl⟩ := HR.out.lit (by omega)
      have hil : i < m.length := by rw [HN.out]; exact hlt
      have x1 : wr.cell? ⟨b, off + i * 2, none⟩ = some (.string (strOf m[i].1)) := by
        rw [hcl _ (by omega)]
        exact ec_key m i hil
      clear hcl
      by_cases he : m[i].1 = key
      · have heq : ((strOf m[i].1).toList == (strOf key).toList) = true := by rw [he]; simp
        have HE := Lib.hid he
        have hres : Hid (rget m key = (i : Int)) := by
          show _ = _
          have hf : fnd m key = true := by
            simp only [fnd, List.any_eq_true, beq_iff_eq]
            exact ⟨_, List.getElem_mem hil, he⟩
          unfold rget
          rw [hf, if_pos rfl]
          congr 1
          rw [List.findIdx_eq hil]
          refine ⟨by simpa using he, fun j hj => ?_⟩
          have := hno.out j (by omega) hj
          simpa using this
        clear he
        generalize m[i].1 = k at *
        go_wp2_with fail
        go_ret
        refine ⟨?_, rfl⟩
        rw [hres.out]
        rfl
      · have heq : ((strOf m[i].1).toList == (strOf key).toList) = false := by
          rw [strOf_toList, strOf_toList]
          simpa using he
        have hno2 : Hid (∀ j (hj : j < m.length), j < i + 1 → m[j].1 ≠ key) := fun j hj h => by
          by_cases e : j = i
          · subst e; exact he
          · exact hno.out j hj (by omega)
        clear he
        generalize m[i].1 = k at *
        go_wp2_with fail
        exact ⟨⟨i + 1, by push_cast; rfl, by omega, hno2.out, trivial⟩, by simp only [intOf]; omega⟩
    · have hdl : decide ((i : Int) < (n : Int)) = false := decide_eq_false (by omega)
      have hdn : decide (i < n) = false := decide_eq_false hlt
      have hres : Hid (rget m key = -1) := by
        show _ = _
        have hf : fnd m key = false := by
          rw [Bool.eq_false_iff]
          intro hf
          simp only [fnd, List.any_eq_true, beq_iff_eq] at hf
          obtain ⟨e, he, hk⟩ := hf
          obtain ⟨j, hj, rfl⟩ := List.mem_iff_getElem.1 he
          exact hno.out j hj (by have := HN.out; omega) hk
        unfold rget
        rw [hf]
        rfl
      go_wp2_with fail
      go_ret
      refine ⟨?_, rfl⟩
      rw [hres.out]
      rfl
end Go.Proofs.YtillifkilkjpdaaDoor
