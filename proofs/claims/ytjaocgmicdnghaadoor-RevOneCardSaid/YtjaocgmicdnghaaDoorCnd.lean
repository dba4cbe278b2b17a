/-
  A REGION IN THE ORDER OF THE TEXT, guards open: each operation's value is a letter, of which it is known what it is if its guard says yes. No program is named here.
-/
import Derived.Test.YtjaocgmicdnghaaDoorPar3
import Derived.WalkMore
namespace Go.Proofs.YtjaocgmicdnghaaDoor
set_option linter.unusedSimpArgs false
set_option linter.unusedVariables false
open Go Go.RowKit

theorem wpList_fact {P : Program} {ops : Array Oper} {Q : Exit → Act → World → Prop} {a : Act} {w : World} {rest : List Oper} {o : Oper} (X : Value → Prop)
    (h1 : ∀ K : Act → World → Prop, (∀ v, X v → K (a.put o.dst v) w) → if Region.wanted o (yielded ops a.tmps) = true then o.wp P a w K Q else K (a.put o.dst undef) w)
    (h2 : ∀ v, X v → wpList P ops Q rest (a.put o.dst v) w) : wpList P ops Q (o :: rest) a w :=
  wpList_step fun K hK => h1 K (fun v hv => hK _ _ (h2 v hv))
theorem wpList_factW {P : Program} {ops : Array Oper} {Q : Exit → Act → World → Prop} {a : Act} {w : World} {rest : List Oper} {o : Oper} (G : World → Prop) (hG : G w) (X : Value → Prop)
    (h1 : ∀ K : Act → World → Prop, (∀ v w', X v → G w' → K (a.put o.dst v) w') → if Region.wanted o (yielded ops a.tmps) = true then o.wp P a w K Q else K (a.put o.dst undef) w)
    (h2 : ∀ v w', X v → G w' → wpList P ops Q rest (a.put o.dst v) w') : wpList P ops Q (o :: rest) a w :=
  wpList_step fun K hK => h1 K (fun v w' hv hw => hK _ _ (h2 v w' hv hw))
theorem ite_yes {b : Bool} {p q : Prop} (hb : b = true) (h : p) : if b = true then p else q := by rw [if_pos hb]; exact h
theorem ite_no {b : Bool} {p q : Prop} (hb : b = false) (h : q) : if b = true then p else q := by rw [if_neg (by rw [hb]; decide)]; exact h
/-- This value where c says yes, none else. -/
def cv (c : Bool) (v : Value) : Value := if c then v else undef
theorem cv_t {c : Bool} {v x : Value} (e : x = cv c v) (h : c = true) : x = v := by rw [e, h]; rfl
theorem cv_f {c : Bool} {v x : Value} (e : x = cv c v) (h : c = false) : x = undef := by rw [e, h]; rfl
theorem cv_yes {c : Bool} {v x : Value} (h : c = true) (e : x = v) : Hid (x = cv c v) := Lib.hid (by rw [e, h]; rfl)
theorem cv_no {c : Bool} {v : Value} (h : c = false) : Hid (undef = cv c v) := Lib.hid (by rw [h]; rfl)
theorem cv_yes0 {c : Bool} {v x : Value} (h : c = true) (e : x = v) : x = cv c v := by rw [e, h]; rfl
theorem cv_no0 {c : Bool} {v : Value} (h : c = false) : undef = cv c v := by rw [h]; rfl
theorem band_l {a b : Bool} (h : (a && b) = true) : a = true := by cases a <;> simp_all
theorem band_r {a b : Bool} (h : (a && b) = true) : b = true := by cases b <;> simp_all
theorem bnot_t {a : Bool} (h : (!a) = true) : a = false := by cases a <;> simp_all
theorem bnot_f {a : Bool} (h : (!a) = false) : a = true := by cases a <;> simp_all
theorem band_f {a b : Bool} (ha : a = true) (h : (a && b) = false) : b = false := by cases a <;> simp_all
theorem factWalkG_any {F : Fence} {N : Nat} {P : Program} {ms : List Nat} {ops : Array Oper} {G : World → World → Prop} {w0 : World} {Xs Fp : Nat → Value → World → Prop} {i : Nat} {o : Oper} {rest : List Oper} {val : Nat → Value} {a : Act} {K : (Nat → Value) → Act → Prop}
    (h1 : ∀ w, G w0 w → (∀ j, j < i → Anc ms i j = true → Xs j (val j) w) → ∀ K' : Act → World → Prop, (∀ v w', G w w' → Xs i v w' → Fp i v w → K' (a.put o.dst v) w') → if Region.wanted o (yielded ops a.tmps) = true then o.wpIn F N P a w K' (fun _ _ _ => False) else (∀ f, o.about P w a.eval = some f → F.fn f) ∧ K' (a.put o.dst undef) w)
    (h3 : ∀ v, factWalkG F N P ms ops G w0 Xs Fp (i + 1) rest (fun q => if q = i then v else val q) (a.put o.dst v) K) : factWalkG F N P ms ops G w0 Xs Fp i (o :: rest) val a K := ⟨h1, h3⟩
theorem bcases (b : Bool) : b = false ∨ b = true := by cases b <;> simp
end Go.Proofs.YtjaocgmicdnghaaDoor
