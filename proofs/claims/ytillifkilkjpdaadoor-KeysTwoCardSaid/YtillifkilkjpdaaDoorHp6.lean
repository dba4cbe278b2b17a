/-
  THE HEAP behind its interface: CONTRACT of heap.Fix at the root.
-/
import Derived.Test.YtillifkilkjpdaaDoorHp5
namespace Go.Proofs.YtillifkilkjpdaaDoor
set_option linter.unusedSimpArgs false
set_option linter.unusedVariables false
open Go Go.RowKit

set_option maxRecDepth 100000 in
set_option maxHeartbeats 1000000 in
theorem hfix_c (w : World) (h b c n : Nat) (fs : List Frt) (hH : HpB w h b c fs) (hn : fs.length = n) (hn0 : 0 < n) (hnc : n ≤ c) (hm : n ≤ 100000) (hok : ∀ f ∈ fs, FOk w f) (hD : DownI (gf fs) n 0) :
    Calls Tryd.prog 41 #[.iface 79 (.pointer (some ⟨h, 0, none⟩)), .int .i64 0] w fun e w' => (∃ u, e = .returned u) ∧ ∃ fs', HpB w' h b c fs' ∧ fs'.Perm fs ∧ Heap (gf fs') n ∧ Fr (fun k => k = b) w w' := by
  have HH := Lib.hid hH
  have HN := Lib.hid hn
  have HOK := Lib.hid hok
  have HD := Lib.hid hD
  have c1 : w.cell? ⟨h, 0, none⟩ = some (.slice (some ⟨b, 0, none⟩) n c) := by rw [hH.1.cell 0, hn]; rfl
  have hml := meth_len n c _ h w c1
  have hokt : ∀ f ∈ fs.take n, FOk w f := fun f hf => hok f (List.mem_of_mem_take hf)
  have HOKT := Lib.hid hokt
  obtain ⟨-, cur0, hbb0, -, -⟩ := hH
  have HBB0 := Lib.hid hbb0
  clear hn hok hD hokt hbb0
  go_enter Tryd.func41, Tryd.ntmps41
  go_wp2_with (first
    | (go_at_call 97
       refine (flen_c w _ _ _).mono ?_
       rintro e w1' ⟨rfl, rfl⟩)
    | (go_at_call 51
       refine (down_c _ h b c n n fs 0 HH.out HN.out (Nat.le_refl _) hnc hm (Nat.zero_le _) HOKT.out HD.out).mono ?_
       rintro e w2 ⟨⟨i, hi, rfl⟩, fs', hH2, hl2, hp2, hdr, hh2, f2⟩
       have HH2 := Lib.hid hH2
       have HL2 := Lib.hid hl2
       have HP2 := Lib.hid hp2
       have HHP := Lib.hid hh2
       have F2 := Lib.hid f2
       clear hH2 hl2 hp2 hdr hh2 f2))
  all_goals
    have hperm : fs'.Perm fs := by
      have h1 := HP2.out
      have l1 := HL2.out
      have l2 := HN.out
      rw [List.take_of_length_le (by omega), List.take_of_length_le (by omega)] at h1
      exact h1
    have hok2 : ∀ f ∈ fs', FOk w2 f := fun f hf => by
      have h1 := HOK.out f (hperm.mem_iff.1 hf)
      exact h1.fr F2.out (fun e => h1.ne HBB0.out e)
    first
      | (go_end0
         exact ⟨⟨_, rfl⟩, fs', HH2.out, hperm, HHP.out, F2.out⟩)
      | (have hU : UpI (gf fs') n 0 := ⟨fun k h0 hk _ => HHP.out k h0 hk, fun k _ _ _ h => absurd h (Nat.lt_irrefl 0)⟩
         refine (up_c w2 h b c n fs' 0 HH2.out HL2.out hnc hm hn0 hok2 hU).mono ?_
         rintro e w3 ⟨⟨u3, rfl⟩, fs3, hH3, hp3, hh3, f3⟩
         have HH3 := Lib.hid hH3
         have HP3 := Lib.hid (hp3.trans hperm)
         have HHP3 := Lib.hid hh3
         have F3 := Lib.hid (F2.out.trans f3 (fun _ _ h => h))
         clear hH3 hp3 hh3 f3 hU hok2 hperm
         go_wp2_with fail
         go_end0
         exact ⟨⟨_, rfl⟩, fs3, HH3.out, HP3.out, HHP3.out, F3.out⟩)
end Go.Proofs.YtillifkilkjpdaaDoor
