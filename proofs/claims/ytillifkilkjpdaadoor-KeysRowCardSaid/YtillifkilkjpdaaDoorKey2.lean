/-
  CONTRACTS of an index's methods: Get, First, New, Clone, Copy.
-/
import Derived.Test.YtillifkilkjpdaaDoorKey
namespace Go.Proofs.YtillifkilkjpdaaDoor
set_option linter.unusedSimpArgs false
set_option linter.unusedVariables false
open Go Go.RowKit

/-- What stands at a key. -/
def gv (m : Ents) (key : List UInt8) : Int := if fnd m key then ((m[pos m key]?).map (·.2)).getD 0 else 0
theorem fnd_lt {m : Ents} (hs : Srt m) {key : List UInt8} (h : fnd m key = true) : pos m key < m.length := by
  rcases Nat.lt_or_ge (pos m key) m.length with h1 | h1
  · exact h1
  · have := fnd_end m hs key (Nat.le_antisymm (pos_le m key) h1)
    rw [h] at this
    cases this

set_option maxRecDepth 100000 in
theorem get_c (w : World) (x : Value) (m : Ents) (key : List UInt8) (hx : XR w x m) (hm : m.length ≤ 140737488355328) (hs : Srt m) :
    Calls Tryd.prog 24 #[x, .string (strOf key)] w fun e w' => e = .returned (.tuple #[.int .i64 (gv m key), .bool (fnd m key)]) ∧ Fr (fun _ => False) w w' := by
  have HX := Lib.hid hx
  have HS := Lib.hid hs
  have HPL := Lib.hid (pos_le m key)
  cases hf : fnd m key with
  | false =>
    have hg : gv m key = 0 := by unfold gv; rw [hf]; rfl
    have HF := Lib.hid hf
    have HG := Lib.hid hg
    clear hx hs hf hg
    go_enter Tryd.func24, Tryd.ntmps24
    go_wp2_with (first
      | (go_at_call 30; refine (find_c _ x m key HX.out hm HS.out).mono ?_; rintro e w2 ⟨rfl, f2⟩; rw [HF.out]; have F2 := Lib.hid f2; clear f2))
    go_ret2
    refine ⟨?_, F2.out⟩
    show Ending.returned (.tuple #[.int .i64 0, .bool false]) = _
    rw [HG.out]
  | true =>
    have hlt := fnd_lt hs hf
    have hg : gv m key = m[pos m key].2 := by unfold gv; rw [hf, List.getElem?_eq_getElem hlt]; rfl
    have HF := Lib.hid hf
    have HG := Lib.hid hg
    obtain ⟨p, hp⟩ : ∃ p, pos m key = p := ⟨_, rfl⟩
    rcases hx with ⟨rfl, rfl⟩ | ⟨g, A, c, rfl, hb, hr, h1, h2⟩
    · exact absurd hlt (by simp)
    obtain ⟨b, off, rfl, hcl⟩ := hr.lit (by omega)
    have HCL := Lib.hid hcl
    have HB := Lib.hid hb
    have HR := Lib.hid hr
    have x1 : w.cell? ⟨g, 0, none⟩ = some (.slice (some ⟨b, off, none⟩) m.length c) := hb.cell 0
    have x2 : w.cell? ⟨b, off + p * 2 + 1, none⟩ = some (.int .i64 (m[pos m key]).2) := by
      subst hp
      rw [Nat.add_assoc, hcl _ (by omega)]
      exact ec_val m _ hlt
    have hbl : b < w.heap.size := hr.lt (by omega) ⟨_, rfl, rfl⟩
    have hgl := hb.lt
    have HX1 := Lib.hid x1
    have HX2 := Lib.hid x2
    have HP := Lib.hid hp
    have hpl : p < m.length := hp ▸ hlt
    obtain ⟨n, hn⟩ : ∃ n, m.length = n := ⟨_, rfl⟩
    rw [hn] at hpl HX1 hm
    have HN := Lib.hid hn
    clear hr hb hcl hs hf hg x1 x2 hp hn
    go_enter Tryd.func24, Tryd.ntmps24
    go_wp2_with (first
      | (go_at_call 30
         refine (find_c _ _ m key HX.out (by rw [HN.out]; exact hm) HS.out).mono ?_
         rintro e w2 ⟨rfl, f2⟩
         rw [HF.out, HP.out]
         have F2 := Lib.hid f2
         have x1 : w2.cell? ⟨g, 0, none⟩ = some (.slice (some ⟨b, off, none⟩) n c) := (f2.cell hgl (fun h => h)).trans HX1.out
         have x2 : w2.cell? ⟨b, off + p * 2 + 1, none⟩ = some (.int .i64 (m[pos m key]'(by rw [HP.out, HN.out]; exact hpl)).2) := (f2.cell hbl (fun h => h)).trans HX2.out
         clear f2))
    go_ret2
    refine ⟨?_, F2.out⟩
    show Ending.returned (.tuple #[.int .i64 _, .bool true]) = _
    rw [HG.out]

/-- The first key not less than one. -/
def fk (m : Ents) (key : List UInt8) : List UInt8 := ((m[pos m key]?).map (·.1)).getD []
set_option maxRecDepth 100000 in
theorem first_c (w : World) (x : Value) (m : Ents) (key : List UInt8) (hx : XR w x m) (hm : m.length ≤ 140737488355328) (hs : Srt m) :
    Calls Tryd.prog 25 #[x, .string (strOf key)] w fun e w' => e = .returned (.tuple #[.string (strOf (fk m key)), .bool (decide (pos m key < m.length))]) ∧ Fr (fun _ => False) w w' := by
  have HX := Lib.hid hx
  have HS := Lib.hid hs
  have HPL := Lib.hid (pos_le m key)
  by_cases hlt : pos m key < m.length
  · have hg : fk m key = m[pos m key].1 := by unfold fk; rw [List.getElem?_eq_getElem hlt]; rfl
    have HG := Lib.hid hg
    obtain ⟨p, hp⟩ : ∃ p, pos m key = p := ⟨_, rfl⟩
    rcases hx with ⟨rfl, rfl⟩ | ⟨g, A, c, rfl, hb, hr, h1, h2⟩
    · exact absurd hlt (by simp)
    obtain ⟨b, off, rfl, hcl⟩ := hr.lit (by omega)
    have x1 : w.cell? ⟨g, 0, none⟩ = some (.slice (some ⟨b, off, none⟩) m.length c) := hb.cell 0
    have x2 : w.cell? ⟨b, off + p * 2, none⟩ = some (.string (strOf (m[pos m key]).1)) := by
      subst hp
      rw [hcl _ (by omega)]
      exact ec_key m _ hlt
    have hbl : b < w.heap.size := hr.lt (by omega) ⟨_, rfl, rfl⟩
    have hgl := hb.lt
    have HX1 := Lib.hid x1
    have HX2 := Lib.hid x2
    have HP := Lib.hid hp
    have hpl : p < m.length := hp ▸ hlt
    obtain ⟨n, hn⟩ : ∃ n, m.length = n := ⟨_, rfl⟩
    rw [hn] at hpl HX1 hm
    have HN := Lib.hid hn
    have hne : ((p : Int) == (n : Int)) = false := by simp; omega
    clear hr hb hcl hs hg x1 x2 hp hn
    go_enter Tryd.func25, Tryd.ntmps25
    go_wp2_with (first
      | (go_at_call 30
         refine (find_c _ _ m key HX.out (by rw [HN.out]; exact hm) HS.out).mono ?_
         rintro e w2 ⟨rfl, f2⟩
         rw [HP.out]
         have F2 := Lib.hid f2
         have x1 : w2.cell? ⟨g, 0, none⟩ = some (.slice (some ⟨b, off, none⟩) n c) := (f2.cell hgl (fun h => h)).trans HX1.out
         have x2 : w2.cell? ⟨b, off + p * 2, none⟩ = some (.string (strOf (m[pos m key]'(by rw [HP.out, HN.out]; exact hpl)).1)) := (f2.cell hbl (fun h => h)).trans HX2.out
         clear f2)
      | (go_at_call 26
         refine (len_c _ _ m (HX.out.far F2.out)).mono ?_
         rintro e w3 ⟨rfl, rfl⟩
         rw [HN.out]))
    go_ret2
    refine ⟨?_, F2.out⟩
    show Ending.returned (.tuple #[.string (strOf _), .bool true]) = _
    rw [HG.out, decide_eq_true hlt]
  · have hpe : pos m key = m.length := Nat.le_antisymm (pos_le m key) (by omega)
    have hg : fk m key = [] := by unfold fk; rw [hpe]; simp
    have HG := Lib.hid hg
    have HPE := Lib.hid hpe
    clear hx hs hg hpe hlt
    go_enter Tryd.func25, Tryd.ntmps25
    go_wp2_with (first
      | (go_at_call 30
         refine (find_c _ _ m key HX.out hm HS.out).mono ?_
         rintro e w2 ⟨rfl, f2⟩
         rw [HPE.out]
         have F2 := Lib.hid f2
         clear f2)
      | (go_at_call 26
         refine (len_c _ _ m (HX.out.far F2.out)).mono ?_
         rintro e w3 ⟨rfl, rfl⟩))
    go_ret2
    refine ⟨?_, F2.out⟩
    show Ending.returned (.tuple #[.string ⟨#[]⟩, .bool false]) = _
    rw [HG.out, HPE.out, decide_eq_false (Nat.lt_irrefl _)]
    rfl
end Go.Proofs.YtillifkilkjpdaaDoor
