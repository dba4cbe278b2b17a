/-
  What a call does to NetOnce's own lists.
-/
import Derived.Test.YtpgklhbbjbdejaaOnB
namespace Go.Proofs.Ytpgklhbbjbdejaa
set_option linter.unusedSimpArgs false
set_option linter.unusedVariables false
open Go Go.RowKit Go.Maps

section
variable {w wc w4 w5 w6 : World} {b0 g mb r k b c : Nat} {T : List Ms} {E : List Ge} {gv ov gv5 ov6 : Value}
theorem OnS.giv4 (st : OnS w b0 g mb r k T E gv ov wc) (f4 : Fr (Gm g mb) wc w4) : w4.ownsRow b0 51 3 gv (E.length + 1) (gcells E) := row_gm (base := 0) st.giv f4 st.net.gb st.net.mbb
theorem OnS.out4 (st : OnS w b0 g mb r k T E gv ov wc) (f4 : Fr (Gm g mb) wc w4) : w4.ownsRow b0 3 1 ov (T.length + 1) (ocells T) := row_gm (base := 0) st.out f4 st.net.gb st.net.mbb
theorem OnS.fr4 (st : OnS w b0 g mb r k T E gv ov wc) (f4 : Fr (Gm g mb) wc w4) : Fr (fun _ => False) w w4 := st.fr.trans f4 (fun q hq e => by have := st.lo; rcases e with e | e <;> omega)
theorem OnS.out5 (st : OnS w b0 g mb r k T E gv ov wc) (f4 : Fr (Gm g mb) wc w4) (o : Obj) (f5 : Fr (fun q => gv.ownBlock = some q) (w4.alloc o) w5) : w5.ownsRow b0 3 1 ov (T.length + 1) (ocells T) :=
  off_other (own_far (st.giv4 f4) ((Fr.refl _ _).alloc o)) (own_far (st.out4 f4) ((Fr.refl _ _).alloc o)) (by decide) f5 (fun _ h => h)
theorem OnS.add (st : OnS w b0 g mb r k T E gv ov wc) (f4 : Fr (Gm g mb) wc w4) {y : Ms} (nt : NetAt w4 b0 g mb r (T ++ [y]) (k + 1)) (hy : y.live = true) (o : Obj) {e : Ge}
    (r5 : w5.ownsRow b0 51 3 gv5 (T.length + 1 + 1) (gcells E ++ gcell e)) (f5 : Fr (fun q => gv.ownBlock = some q) (w4.alloc o) w5) (o' : Obj)
    (r6 : w6.ownsRow b0 3 1 ov6 (T.length + 1 + 1) (ocells T ++ [.int .i64 0])) (f6 : Fr (fun q => ov.ownBlock = some q) (w5.alloc o') w6)
    (he : e.f = y.f ∧ e.t = y.t ∧ e.m = y.bs.length ∧ Rd w e.A e.m (bv y.bs)) : OnS w b0 g mb r (k + 1) (T ++ [y]) (E ++ [e]) gv5 ov6 w6 := by
  have g4 := own_far (st.giv4 f4) ((Fr.refl (fun _ => False) w4).alloc o)
  have o5 := own_far (st.out5 f4 o f5) ((Fr.refl (fun _ => False) w5).alloc o')
  have g5 := own_far r5 ((Fr.refl (fun _ => False) w5).alloc o')
  have n4 := nt.far ((Fr.refl (fun _ => False) w4).alloc o)
  have n5 := (n4.fr f5 (off_row g4 (by decide) (by decide) (fun _ h => h))).far ((Fr.refl (fun _ => False) w5).alloc o')
  have F4 : Fr (fun _ => False) w (w4.alloc o) := (st.fr4 f4).alloc o
  have F5 := (fr_row g4 F4 f5 st.lo.2.2 (fun _ h => h)).alloc o'
  refine ⟨fr_row o5 F5 f6 st.lo.2.2 (fun _ h => h), n5.fr f6 (off_row o5 (by decide) (by decide) (fun _ h => h)), ?_, ?_, by simp [st.len], ?_, st.lo⟩
  · have := off_other o5 g5 (by decide) f6 (fun _ h => h)
    rw [gcells_add] at this
    rw [List.length_append, st.len]
    exact this
  · rw [ocells_add T y hy] at r6
    rw [List.length_append]
    exact r6
  · intro j e' x h1 h2
    have hl := st.len
    rcases Nat.lt_or_ge j E.length with hj | hj
    · rw [List.getElem?_append_left hj] at h1
      rw [List.getElem?_append_left (by omega)] at h2
      exact st.each j e' x h1 h2
    · rw [List.getElem?_append_right hj] at h1
      rw [List.getElem?_append_right (by omega)] at h2
      have hj0 : j - E.length = 0 := by
        have := (List.getElem?_eq_some_iff.1 h1).1
        simp at this
        omega
      rw [hj0] at h1
      rw [show j - T.length = 0 by omega] at h2
      simp at h1 h2
      subst h1 h2
      exact he
theorem OnS.kill (st : OnS w b0 g mb r k T E gv (.slice (some ⟨b, 0, none⟩) (T.length + 1) c) wc) (f4 : Fr (Gm g mb) wc w4) {j : Nat} {y : Ms} (nt : NetAt w4 b0 g mb r (Go.Proofs.Ytpgklhbbjbdejaa.kill T j y) (k + 1)) (hj : T[j]? = some y) (f5 : Fr (fun _ => False) w4 w5) :
    OnS w b0 g mb r (k + 1) (Go.Proofs.Ytpgklhbbjbdejaa.kill T j y) E gv (.slice (some ⟨b, 0, none⟩) (T.length + 1) c) (w5.setCell ⟨b, j + 1, none⟩ (.int .i64 1)) := by
  have g5 := own_far (st.giv4 f4) f5
  have o5 := own_far (st.out4 f4) f5
  have fs : Fr (fun q => (Value.slice (some ⟨b, 0, none⟩) (T.length + 1) c).ownBlock = some q) w5 (w5.setCell ⟨b, j + 1, none⟩ (.int .i64 1)) := (Fr.refl (fun q => (Value.slice (some ⟨b, 0, none⟩) (T.length + 1) c).ownBlock = some q) w5).setCell (p := ⟨b, j + 1, none⟩) (fun _ => rfl) _
  have hl : (Go.Proofs.Ytpgklhbbjbdejaa.kill T j y).length = T.length := by unfold Go.Proofs.Ytpgklhbbjbdejaa.kill; rw [List.length_set]
  refine ⟨fr_row o5 ((st.fr4 f4).trans f5 (fun _ _ h => h)) fs st.lo.2.2 (fun _ h => h), (nt.far f5).fr fs (off_row o5 (by decide) (by decide) (fun _ h => h)), off_other o5 g5 (by decide) fs (fun _ h => h), ?_, by rw [hl]; exact st.len, ?_, st.lo⟩
  · rw [hl, ← ocells_kill]
    exact own_set o5 _
  · intro q e x h1 h2
    unfold Go.Proofs.Ytpgklhbbjbdejaa.kill at h2
    by_cases hq : q = j
    · subst hq
      rw [List.getElem?_set_self (List.getElem?_eq_some_iff.1 hj).1] at h2
      injection h2 with h2
      subst h2
      exact st.each q e y h1 hj
    · rw [List.getElem?_set_ne (by omega)] at h2
      exact st.each q e x h1 h2
end
end Go.Proofs.Ytpgklhbbjbdejaa
