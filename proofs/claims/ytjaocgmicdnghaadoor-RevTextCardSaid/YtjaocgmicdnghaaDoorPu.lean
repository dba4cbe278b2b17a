/-
  CONTRACT of strconv.ParseUint at base ten, off the shelf.
-/
import Derived.Test.YtjaocgmicdnghaaDoorSh
import Derived.Shelf.Lay
import Derived.Shelf.Pu.ParseUintPublic10
import Derived.Ground.MpProg
namespace Go.Proofs
set_option linter.unusedSimpArgs false
set_option linter.unusedVariables false
open Go.Shelf
shelf_lay LaysPu.n14 Mp 14 at Tryd as Tryd.laysPu14
end Go.Proofs
namespace Go.Proofs.YtjaocgmicdnghaaDoor
open Go Go.RowKit Go.Shelf

theorem parseUint_c (w : World) (s : List UInt8) (hs : s.length ≤ 1000) (hL : LaidOk w) :
    Calls Tryd.prog 23 #[.string (strOf s), .int .i64 10, .int .i64 64] w fun e w' => ∃ x, e = .returned (.tuple #[.int .u64 (genOf s : Nat), x]) ∧ Fr (fun _ => False) w w' := by
  cases h : Lib.parseUintB 64 s
  · rename_i u
    refine (Any.strconv_ParseUint_10_at64_ok Tryd.laysPu14 (strOf s) (by rw [strOf_size]; omega) u h w).mono ?_
    rintro e w' ⟨rfl, h2⟩
    refine ⟨_, by unfold genOf; rw [h], ?_⟩
    rcases h2 with rfl | rfl
    · exact Fr.refl _ _
    · exact fr_below (Lib.bytesWorld_below _ _ _)
  · obtain ⟨t, p, hp⟩ := hL.syn
    refine (Any.strconv_ParseUint_10_at64_syntax Tryd.laysPu14 (strOf s) (by rw [strOf_size]; omega) h _ w hp (.inr ⟨t, p, rfl⟩)).mono ?_
    rintro e w' ⟨N, rfl, h1, h2, h3⟩
    exact ⟨_, by unfold genOf; rw [h]; rfl, fr_below h3⟩
  · obtain ⟨t, p, hp⟩ := hL.rng
    refine (Any.strconv_ParseUint_10_at64_range Tryd.laysPu14 (strOf s) (by rw [strOf_size]; omega) h _ w hp (.inr ⟨t, p, rfl⟩)).mono ?_
    rintro e w' ⟨N, rfl, h1, h2, h3⟩
    exact ⟨_, by unfold genOf; rw [h]; rfl, fr_below h3⟩
end Go.Proofs.YtjaocgmicdnghaaDoor
