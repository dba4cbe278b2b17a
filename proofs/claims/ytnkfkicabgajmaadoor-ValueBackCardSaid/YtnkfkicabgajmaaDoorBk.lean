/-
  WHAT IS PRINTED IS PARSED AS IT. No statement is proved here.
-/
import Derived.Test.YtnkfkicabgajmaaDoorSm2
namespace Go.Proofs.YtnkfkicabgajmaaDoor
set_option linter.unusedSimpArgs false
set_option linter.unusedVariables false
open Go Go.RowKit
theorem RdV.nums {D : Nat → Prop} {w : World} {C : Array Value} {v : V} (h : RdV D w C v) : Nums v := by
  induction h with
  | mk css a b c d e f g i j m ih =>
    refine .mk a.n0 a.n1 (fun x hx => ?_)
    obtain ⟨q, hq, rfl⟩ := List.getElem_of_mem hx
    exact ih q _ _ (List.getElem?_eq_getElem (by rw [e]; exact hq)) (List.getElem?_eq_getElem hq)
theorem parse_back {v : V} (hm : mayV v = true) (hn : Nums v) : parseV (prV v) = some v := by
  obtain ⟨hf, hl, -⟩ := may_fields hm
  have h := back v hf hn [] (3 * (prV v).length + 3) (by trivial) (by simp)
  rw [List.append_nil] at h
  unfold parseV
  rw [if_neg (by omega), h]
  simp [hm]
theorem prV_inj {a b : V} (ha : mayV a = true) (hb : mayV b = true) (na : Nums a) (nb : Nums b) : (prV a == prV b) = eqv a b := by
  rw [Bool.eq_iff_iff, eqv_iff]
  constructor
  · intro h
    have h : prV a = prV b := by simpa using h
    have h1 := parse_back ha na
    rw [h, parse_back hb nb] at h1
    exact (Option.some.inj h1).symm
  · rintro rfl
    simp
theorem parse_may {s : List UInt8} {v : V} (h : parseV s = some v) : mayV v = true ∧ prV v = s := by
  unfold parseV at h
  split at h
  · cases h
  · split at h
    · cases h
    · rename_i x hx
      split at h
      · rename_i hc
        injection h with h
        subst h
        simpa using hc
      · cases h
end Go.Proofs.YtnkfkicabgajmaaDoor
