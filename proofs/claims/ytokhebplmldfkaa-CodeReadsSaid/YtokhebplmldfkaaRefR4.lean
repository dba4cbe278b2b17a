/-
  CONTRACTS of the reference's Reader: Uint.
-/
import Derived.Test.YtokhebplmldfkaaRefR3
namespace Go.Proofs.Ytokhebplmldfkaa
set_option linter.unusedSimpArgs false
set_option linter.unusedVariables false
open Go Go.RowKit

set_option maxRecDepth 100000 in
set_option maxHeartbeats 1000000 in
theorem ruint_ok (w : World) (b : Nat) (A : Option Addr) (l : List UInt8) (h : Rm w b A l false) (hl : l.length ≤ 60000) (x n : Nat) (hx : rdNum l = some (x, n)) :
    Calls Try.prog 45 #[.pointer (some ⟨b, 0, none⟩)] w fun e w' => e = .returned (.int .u64 (x : Int)) ∧ (∃ A'', Rm w' b A'' (l.drop n) false ∧ ∀ k, inA A'' k → inA A k) ∧ Fr (fun k => k = b) w w' := by
  have ha : aheadOf l = (n, x) := by unfold aheadOf; rw [hx]
  obtain ⟨h1, _, h3, h4⟩ := rdNum_some hx
  have hn9 := size_le x
  have H := Lib.hid h
  have HA := Lib.hid ha
  have HLL := Lib.hid hl
  have HN := Lib.hid h1
  have hpos : 0 < n := by omega
  have hn10 : n ≤ 9 := by omega
  clear h ha hl h1 hx h3 hn9
  have hd : decide ((0 : Int) < (n : Int)) = true := by simp; omega
  go_enter Try.func45, Try.ntmps45
  go_wp2_with fail
  refine (ahead_c w b A l false H.out HLL.out).mono ?_
  rintro e w1 ⟨rfl, q, rfl⟩
  rw [HA.out]
  go_wp2_with fail
  refine (off_ok (w.drewN q) b A l n _ rfl hpos (H.out.drewN q) HN.out HLL.out).mono ?_
  rintro e w2 ⟨g, c', rfl, r2, hc1, hc2, hg, h2, f2⟩
  have H2 := Lib.hid h2
  have F2 := Lib.hid (((Fr.refl (fun k => k = b) w).drewN q).trans f2 (fun _ _ h => h))
  have hs1 := fun W => Lib.run_eql_slice_nil (P := Try.prog) W 27 5 (some ⟨g, 0, none⟩) n c' 0 0 Try.underlying27
  clear r2 h2 f2
  go_wp2_with fail
  go_ret
  exact ⟨rfl, H2.out, F2.out⟩

end Go.Proofs.Ytokhebplmldfkaa
