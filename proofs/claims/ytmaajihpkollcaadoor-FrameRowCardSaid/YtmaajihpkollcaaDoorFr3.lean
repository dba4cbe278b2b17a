/-
  CONTRACTS: slices.Reverse of four bytes, bytes.Equal; frame's number, chained.
-/
import Derived.Test.YtmaajihpkollcaaDoorFr2
import Derived.RegionTactic
namespace Go.Proofs.YtmaajihpkollcaaDoor
set_option linter.unusedSimpArgs false
set_option linter.unusedVariables false
open Go Go.RowKit

/-- Four cells behind so many exchanges. -/
def rev4 (a b c d : Value) (t : Nat) : Array Value := if t = 0 then #[a, b, c, d] else if t = 1 then #[d, b, c, a] else #[d, c, b, a]

set_option maxRecDepth 100000 in
set_option maxHeartbeats 2000000 in
theorem reverse_c (w : World) (g : Nat) (a b c d : Int) (h : Blk w g 5 #[.int .u8 a, .int .u8 b, .int .u8 c, .int .u8 d]) :
    Calls Tryd.prog 31 #[.slice (some ⟨g, 0, none⟩) 4 4] w fun e w' => e = .returned (.tuple #[]) ∧ Blk w' g 5 #[.int .u8 d, .int .u8 c, .int .u8 b, .int .u8 a] ∧ Fr (fun k => k = g) w w' := by
  have H := Lib.hid h
  clear h
  go_enter Tryd.func31, Tryd.ntmps31
  go_wp2_with fail
  go_loopw [2, 3] (fun iv jv wr => ∃ t : Nat, t ≤ 2 ∧ iv = .int .i64 t ∧ jv = .int .i64 (3 - (t : Int)) ∧ Hid (Blk wr g 5 (rev4 (.int .u8 a) (.int .u8 b) (.int .u8 c) (.int .u8 d) t)) ∧ Hid (Fr (fun k => k = g) w wr)) (fun iv _ _ => 2 - (intOf iv).toNat)
  case atStart => exact ⟨0, by omega, rfl, rfl, H.out, Fr.refl _ _⟩
  case round =>
    obtain ⟨t, ht, rfl, rfl, hb, hf⟩ := hrel
    have ht3 : t = 0 ∨ t = 1 ∨ t = 2 := by omega
    rcases ht3 with rfl | rfl | rfl
    · have hb0 := hb.out
      have c0 := hb0.cell 0
      have c3 := hb0.cell 3
      have k0 := hb0.frozen 0
      have k3 := hb0.frozen 3
      simp [rev4] at c0 c3
      clear hb0
      go_wp2_with fail
      go_region
      all_goals
        go_wp2_with fail
        refine ⟨⟨1, by omega, rfl, rfl, ?_, ?_⟩, by simp [intOf]⟩
        · have e := ((hb.out.set_ 0 (.int .u8 d)).set_ 3 (.int .u8 a)).drew
          simpa [rev4, Hid] using e
        · exact ((hf.out).setCell (p := ⟨g, 0, none⟩) (fun _ => rfl) _).setCell (p := ⟨g, 3, none⟩) (fun _ => rfl) _ |>.drew
    · have hb0 := hb.out
      have c0 := hb0.cell 1
      have c3 := hb0.cell 2
      have k0 := hb0.frozen 1
      have k3 := hb0.frozen 2
      simp [rev4] at c0 c3
      clear hb0
      go_wp2_with fail
      go_region
      all_goals
        go_wp2_with fail
        refine ⟨⟨2, by omega, rfl, rfl, ?_, ?_⟩, by simp [intOf]⟩
        · have e := ((hb.out.set_ 1 (.int .u8 c)).set_ 2 (.int .u8 b)).drew
          simpa [rev4, Hid] using e
        · exact ((hf.out).setCell (p := ⟨g, 1, none⟩) (fun _ => rfl) _).setCell (p := ⟨g, 2, none⟩) (fun _ => rfl) _ |>.drew
    · go_wp2_with fail
      go_end0
      exact ⟨rfl, by have := hb.out; simpa [rev4] using this, hf.out⟩
end Go.Proofs.YtmaajihpkollcaaDoor
