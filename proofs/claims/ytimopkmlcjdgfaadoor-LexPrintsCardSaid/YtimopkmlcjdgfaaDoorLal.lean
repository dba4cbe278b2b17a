/-
  CONTRACT of All. Written by gen_lal.py.
-/
import Derived.Test.YtimopkmlcjdgfaaDoorLtk
import Derived.Deep.AppendLies
namespace Go.Proofs.YtimopkmlcjdgfaaDoor
set_option linter.unusedSimpArgs false
set_option linter.unusedVariables false
open Go Go.RowKit

theorem t_info : (Tryd.prog.info? 32).map (fun i => (i.zero, i.size, i.bytes)) = some (some (.agg #[.int .i64 0, .string ⟨#[]⟩, .int .i64 0, .int .i64 0]), 4, 40) := by kernel_rfl
theorem src_t {w : World} {g : Nat} {C : Array Value} (hb : w.rangeAt g 0 C.toList) (h5 : C.size = 4) (h1 : ∀ u ∈ C.toList, u.oneCell' = true) : Src Tryd.prog 4 23 (.slice (some ⟨g, 0, none⟩) 1 1) 1 C.toList w :=
  Src.ofSlice w Tryd.underlying23 ⟨g, 0, none⟩ 1 1 C.toList (by rw [Array.length_toList, h5]) (fun j u hu => by
    rw [Addr.add_lit]
    exact hb j u hu) h1
theorem txt_short : ∀ {s : List UInt8} {q : List UInt8 × Nat}, txt s = some q → q.1.length ≤ s.length
  | [], q, h => by simp [txt] at h
  | [b], q, h => by
    unfold txt at h
    split at h
    · injection h with h; subst h; simp
    · cases h
  | b :: c :: r, q, h => by
    unfold txt at h
    split at h
    · injection h with h; subst h; simp
    · split at h
      · split at h
        · cases hq : txt r with
          | none => rw [hq] at h; simp at h
          | some q' =>
            rw [hq] at h
            simp at h
            subst h
            have := txt_short hq
            simp only [List.length_cons]
            omega
        · cases h
      · cases hq : txt (c :: r) with
        | none => rw [hq] at h; simp at h
        | some q' =>
          rw [hq] at h
          simp at h
          subst h
          have := txt_short hq
          simp only [List.length_cons] at this ⊢
          omega
/-- What All answers. -/
def AllQ (s : List UInt8) (w : World) (e : Ending) (w' : World) : Prop := Fr (fun _ => False) w w' ∧
  if 4096 < s.length then e = .returned (.tuple #[.slice none 0 0, .int .i64 0, .int .i64 6]) else match allS s with
  | .inr i => e = .returned (.tuple #[.slice none 0 0, .int .i64 (i : Nat), .int .i64 2])
  | .inl l => ∃ A c, e = .returned (.tuple #[.slice A l.length c, .int .i64 0, .int .i64 0]) ∧ w'.ownsRow 0 32 4 (.slice A l.length c) l.length (flatT l) ∧ ∀ q, (Value.slice A l.length c).ownBlock = some q → w.heap.size ≤ q
/-- One reader's call, and what it makes. -/
def OneQ (s : List UInt8) (j : Nat) (c : UInt8) (r : List UInt8) (w : World) (e : Ending) (w' : World) : Prop := ∃ (k : Int) (t : List UInt8) (n : Int) (m : Nat) (ok : Bool), e = .returned (.tuple #[.agg (tcs k t n 0), .int .i64 (m : Nat), .bool ok]) ∧ TokIs c r k t n m ok ∧ m ≤ s.length ∧ t.length ≤ 1000000 ∧ Fr (fun _ => False) w w'
theorem one_c (w : World) (p j : Nat) (s : List UInt8) (hs : s.length ≤ 4096) (hp : Blk w p 45 (xcs s j)) (hj : j < s.length) (hL : LaidOk w) :
    ∃ f, rdV (s[j]).toNat = .func (.func f) #[] #[] ∧ Calls Tryd.prog f #[.pointer (some ⟨p, 0, none⟩)] w (OneQ s j s[j] (s.drop (j + 1)) w) := by
  have hdr := List.drop_eq_getElem_cons hj
  have hl1 : (s.drop j).length ≤ 4096 := by rw [List.length_drop]; omega
  obtain ⟨c, hc⟩ : ∃ c, s[j] = c := ⟨_, rfl⟩
  obtain ⟨r, hr⟩ : ∃ r, s.drop (j + 1) = r := ⟨_, rfl⟩
  rw [hc] at hdr ⊢
  have hrl : r.length + 1 ≤ s.length := by rw [← hr, List.length_drop]; omega
  refine ⟨_, rfl, ?_⟩
  unfold rdF
  rw [← ltr_n, ← dgt_n]
  have h45 : decide (c.toNat = 45) = (c == 45) := (eq45 c).symm
  rw [h45]
  cases h1 : ltr c with
  | true =>
    rw [if_pos rfl]
    refine (word_c w p j s (by omega) hp hj).mono ?_
    rintro e w' ⟨rfl, hf⟩
    have := wEnd_le (s.drop (j + 1))
    rw [List.length_drop] at this
    have htk := tok_word (r := s.drop (j + 1)) h1
    rw [hr] at htk this ⊢
    rw [hdr, hr]
    rw [show s.drop (j + (1 + wEnd r)) = r.drop (wEnd r) by rw [← hr, List.drop_drop, Nat.add_assoc]]
    exact ⟨_, _, _, _, _, rfl, htk, by omega, by rw [List.length_take]; simp only [List.length_cons]; omega, hf⟩
  | false =>
    rw [if_neg (by decide)]
    cases h2 : (dgt c || c == 45) with
    | true =>
      rw [if_pos rfl]
      refine (number_c w p j s (by omega) hp hj hL).mono ?_
      rintro e w' ⟨v, hv0, hv1, ⟨rfl, hf⟩, hv⟩
      rw [show s.drop (j + (1 + ((s.drop (j + 1)).takeWhile dgt).length)) = (s.drop (j + 1)).drop ((s.drop (j + 1)).takeWhile dgt).length by rw [List.drop_drop, Nat.add_assoc]] at hv ⊢
      rw [hdr, hr] at hv ⊢
      have := (List.takeWhile_sublist (p := dgt) (l := r)).length_le
      exact ⟨_, _, _, _, _, rfl, tok_num h1 h2 hv, by omega, by simp, hf⟩
    | false =>
      rw [if_neg (by decide)]
      by_cases h3 : c = 34
      · rw [if_pos (by rw [h3]; rfl)]
        refine (text_c w p j s (by omega) hp hj).mono ?_
        intro e w' h
        unfold TextQ at h
        rw [hr] at h ⊢
        have htk := tok_txt (r := r) h3
        cases ht : txt r with
        | none =>
          rw [ht] at h htk
          obtain ⟨rfl, hf⟩ := h
          exact ⟨_, _, _, _, _, rfl, htk, by omega, by simp, hf⟩
        | some q =>
          rw [ht] at h htk
          obtain ⟨rfl, hf⟩ := h
          have := txt_le r q.1 q.2 ht
          exact ⟨_, _, _, _, _, rfl, htk, by omega, by have := txt_short ht; omega, hf⟩
      · have h3' : ¬ c.toNat = 34 := fun e => h3 (UInt8.toNat_inj.1 (by rw [e]; rfl))
        rw [if_neg h3']
        refine (mark_c w p j s (by omega) hp hj).mono ?_
        rintro e w' ⟨rfl, hf⟩
        rw [hdr, hr]
        refine ⟨_, _, _, _, _, rfl, tok_mark h1 h2 h3, ?_, ?_, hf⟩
        · split
          · rename_i hp2
            have := (List.isPrefixOf_iff_prefix.1 hp2).length_le
            simp only [List.length_cons, List.length_nil] at this
            omega
          · omega
        · rw [List.length_take]
          split <;> omega
end Go.Proofs.YtimopkmlcjdgfaaDoor
