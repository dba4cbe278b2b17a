/-
  CONTRACTS of an index's methods: what reads.
-/
import Derived.Test.YtillifkilkjpdaaDoorDel
namespace Go.Proofs.YtillifkilkjpdaaDoor
set_option linter.unusedSimpArgs false
set_option linter.unusedVariables false
open Go Go.RowKit

/-- An index as it is read (nil let in). -/
def XR (w : World) (x : Value) (m : Ents) : Prop := (x = .pointer none ∧ m = []) ∨ ∃ g A c, x = .pointer (some ⟨g, 0, none⟩) ∧ Blk w g 61 #[.slice A m.length c] ∧ Rd w A (m.length * 2) (ec m) ∧ m.length ≤ c ∧ c ≤ maxLen
theorem XR.fr {fp : Nat → Prop} {w w' : World} {x : Value} {m : Ents} (h : XR w x m) (hf : Fr fp w w') (hd : ∀ k, k < w.heap.size → ¬ fp k) : XR w' x m := by
  rcases h with h | ⟨g, A, c, rfl, hb, hr, h1, h2⟩
  · exact .inl h
  · refine .inr ⟨g, A, c, rfl, hb.fr hf (hd _ hb.lt), ?_, h1, h2⟩
    rcases Nat.eq_zero_or_pos m.length with h0 | h0
    · have : m = [] := List.eq_nil_of_length_eq_zero h0
      subst this
      exact Rd.none_ _ _
    · exact hr.fr hf (fun k hk => hd _ (hr.lt (by omega) hk))
theorem XR.far {w w' : World} {x : Value} {m : Ents} (h : XR w x m) (hf : Fr (fun _ => False) w w') : XR w' x m := h.fr hf (fun _ _ h => h)

theorem all_c (w : World) (x : Value) (m : Ents) (hx : XR w x m) : Calls Tryd.prog 38 #[x] w fun e w' => w' = w ∧ ∃ A c, e = .returned (.slice A m.length c) ∧ Rd w A (m.length * 2) (ec m) ∧ m.length ≤ c ∧ c ≤ maxLen := by
  rcases hx with ⟨rfl, rfl⟩ | ⟨g, A, c, rfl, hb, hr, h1, h2⟩
  · go_enter Tryd.func38, Tryd.ntmps38
    go_wp2_with fail
    go_ret
    exact ⟨rfl, none, 0, rfl, Rd.none_ _ _, Nat.le_refl _, by unfold maxLen; omega⟩
  · have x1 : w.cell? ⟨g, 0, none⟩ = some (.slice A m.length c) := hb.cell 0
    have HR := Lib.hid hr
    clear hr hb
    obtain ⟨n, hn⟩ : ∃ n, m.length = n := ⟨_, rfl⟩
    rw [hn] at x1 HR h1 ⊢
    have HN := Lib.hid hn
    clear hn
    go_enter Tryd.func38, Tryd.ntmps38
    go_wp2_with fail
    go_ret
    exact ⟨rfl, A, c, rfl, HR.out, h1, h2⟩

theorem find_c (w : World) (x : Value) (m : Ents) (key : List UInt8) (hx : XR w x m) (hm : m.length ≤ 140737488355328) (hs : Srt m) :
    Calls Tryd.prog 30 #[x, .string (strOf key)] w fun e w' => e = .returned (.tuple #[.int .i64 (pos m key : Nat), .bool (fnd m key)]) ∧ Fr (fun _ => False) w w' := by
  have HX := Lib.hid hx
  have HS := Lib.hid hs
  clear hx hs
  go_enter Tryd.func30, Tryd.ntmps30
  go_wp2_with (first
    | (go_at_call 38; refine (all_c _ x m HX.out).mono ?_; rintro e w1 ⟨rfl, A, c, rfl, h3, h4, h5⟩; have H3 := Lib.hid h3; clear h3)
    | (go_at_call 45; refine (bsf_c _ A c m key H3.out h4 hm HS.out).mono ?_; rintro e w2 ⟨rfl, f2⟩; have F2 := Lib.hid f2; clear f2))
  go_ret2
  exact ⟨rfl, F2.out⟩

theorem len_c (w : World) (x : Value) (m : Ents) (hx : XR w x m) : Calls Tryd.prog 26 #[x] w fun e w' => w' = w ∧ e = .returned (.int .i64 (m.length : Nat)) := by
  have HX := Lib.hid hx
  clear hx
  go_enter Tryd.func26, Tryd.ntmps26
  go_wp2_with (first
    | (go_at_call 38; refine (all_c _ x m HX.out).mono ?_; rintro e w1 ⟨rfl, A, c, rfl, h3, h4, h5⟩; have H3 := Lib.hid h3; clear h3))
  go_ret
  exact ⟨rfl, rfl⟩
end Go.Proofs.YtillifkilkjpdaaDoor
