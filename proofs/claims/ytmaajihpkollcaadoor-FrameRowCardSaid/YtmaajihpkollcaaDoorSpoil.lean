/-
  CONTRACT of the law's 'spoil': bytes of the call's own are written over; nothing else turns.
-/
import Derived.Test.YtmaajihpkollcaaDoorFr3
import Derived.Test.YtmaajihpkollcaaDoorRck
namespace Go.Proofs.YtmaajihpkollcaaDoor
set_option linter.unusedSimpArgs false
set_option linter.unusedVariables false
open Go Go.RowKit

theorem own_set (w : World) (base g n c : Nat) (l : List UInt8) (h : w.ownsRow base 5 1 (.slice (some ⟨g, 0, none⟩) n c) n (bv l)) (k : Nat) (hk : k < n) (x : UInt8) :
    (w.setCell ⟨g, k, none⟩ (.int .u8 x.toNat)).ownsRow base 5 1 (.slice (some ⟨g, 0, none⟩) n c) n (bv (l.set k x)) := by
  rcases h.2 with ⟨h1, -⟩ | ⟨g', cap, cur, he, hbg, hg, hnc, hcm, hcs, htake⟩
  · cases h1
  · injection he with h1 h2 h3
    injection h1 with h1
    injection h1 with h1
    subst h1 h3
    have hs := (show Blk w g 5 cur from hg).set_ k (.int .u8 x.toNat)
    refine ⟨by have := h.1; rw [bv_length] at *; rw [List.length_set]; exact this, .inr ⟨g, c, _, rfl, hbg, hs, hnc, hcm, by simp [hcs], ?_⟩⟩
    rw [Array.toList_setIfInBounds, List.take_set, htake]
    simp [bv, List.map_set]

/-- Whatever other row of bytes there is stays one, with whatever bytes. -/
def Keeps (w wr : World) : Prop := ∀ base v n l, w.ownsRow base 5 1 v n (bv l) → ∃ m, wr.ownsRow base 5 1 v n (bv m)
theorem Keeps.refl (w : World) : Keeps w w := fun _ _ _ l h => ⟨l, h⟩
theorem Keeps.trans {a b c : World} (h : Keeps a b) (k : Keeps b c) : Keeps a c := fun base v n l o => by
  obtain ⟨m, o1⟩ := h base v n l o
  exact k base v n m o1
theorem keeps_set (w : World) (g k : Nat) (x : UInt8) : Keeps w (w.setCell ⟨g, k, none⟩ (.int .u8 x.toNat)) := by
  intro base v n l h
  by_cases hg : v.ownBlock = some g
  · rcases h.2 with ⟨h1, h2⟩ | ⟨g', cap, cur, rfl, hbg, hh, hnc, hcm, hcs, htake⟩
    · rw [h1] at hg; cases hg
    · obtain rfl : g' = g := Option.some.inj hg
      by_cases hk : k < n
      · exact ⟨_, own_set w base g' n cap l h k hk x⟩
      · have hs := (show Blk w g' 5 cur from hh).set_ k (.int .u8 x.toNat)
        refine ⟨l, h.1, .inr ⟨g', cap, _, rfl, hbg, hs, hnc, hcm, by simp [hcs], ?_⟩⟩
        rw [Array.toList_setIfInBounds, ← htake, List.take_set]
        rw [List.set_eq_of_length_le (by simp; omega)]
  · exact ⟨l, own_fr h ((Fr.refl (fun k => k = g) w).setCell (p := ⟨g, k, none⟩) (fun _ => rfl) _) (fun k hk e => hg (by rw [hk, e]))⟩

set_option maxHeartbeats 1000000 in
theorem spoil_c (w : World) (base : Nat) (A : Option Addr) (n c : Nat) (l : List UInt8) (h : w.ownsRow base 5 1 (.slice A n c) n (bv l)) (hn : n ≤ 9223372036854775807) :
    Calls Tryd.prog 16 #[.slice A n c] w fun e w' => e = .returned (.tuple #[]) ∧ Fr (fun k => (Value.slice A n c).ownBlock = some k) w w' ∧ Keeps w w' := by
  have HO := Lib.hid h
  clear h
  go_enter Tryd.func16, Tryd.ntmps16
  go_wp2_with fail
  go_loopw [2] (fun iv wr => ∃ (k : Nat) (m : List UInt8), k ≤ n ∧ iv = .int .i64 k ∧ Hid (wr.ownsRow base 5 1 (.slice A n c) n (bv m)) ∧ Hid (Fr (fun k => (Value.slice A n c).ownBlock = some k) w wr) ∧ Hid (Keeps w wr)) (fun iv _ => n - (intOf iv).toNat)
  case atStart => exact ⟨0, l, Nat.zero_le _, rfl, HO.out, Fr.refl _ w, Keeps.refl w⟩
  case round =>
    obtain ⟨k, m, hk, rfl, ho, hf, hkp⟩ := hrel
    by_cases hlt : k < n
    · have hr := Rd.of_own (own_base ho.out (base' := 0) (fun _ _ => Nat.zero_le _))
      have hml : m.length = n := by rw [← bv_length]; exact hr.1
      obtain ⟨g, rfl⟩ : ∃ g, A = some ⟨g, 0, none⟩ := by
        rcases ho.out.2 with ⟨h1, h2⟩ | ⟨g', cap, cur, he, -⟩
        · omega
        · injection he with h1
          exact ⟨g', h1⟩
      have c0 := hr.cell (k := k) hlt
      rw [bv_get _ _ (by omega), Nat.zero_add] at c0
      have f0 : wr.frozen? ⟨g, k, none⟩ = false := by
        rcases ho.out.2 with ⟨h1, -⟩ | ⟨g', cap, cur, he, hbg, hg, -⟩
        · cases h1
        · injection he with h1
          injection h1 with h1
          injection h1 with h1
          subst h1
          exact (show Blk wr g 5 cur from hg).frozen k
      have hb := (m[k]'(by omega)).toNat_lt
      generalize (m[k]'(by omega)).toNat = x at *
      clear hr hml
      go_wp2_with fail
      have hv : (Value.int .u8 (((x : Int) + 1) % 256)) = .int .u8 (((by8 (x + 1)).toNat : Nat) : Int) := by
        rw [by8_toNat]
        congr 1
      rw [hv]
      exact ⟨⟨k + 1, _, hlt, by go_num, own_set _ _ _ _ _ _ ho.out k hlt _, hf.out.setCell (p := ⟨g, k, none⟩) (fun _ => rfl) _, hkp.out.trans (keeps_set _ _ _ _)⟩, by simp [intOf]; omega⟩
    · obtain rfl : k = n := by omega
      go_wp2_with fail
      go_end0
      exact ⟨rfl, hf.out, hkp.out⟩
end Go.Proofs.YtmaajihpkollcaaDoor
