/-
  THE HEAP behind its interface: CONTRACTS of heap.Push and heap.Fix.
-/
import Derived.Test.YtillifkilkjpdaaDoorHp4
namespace Go.Proofs.YtillifkilkjpdaaDoor
set_option linter.unusedSimpArgs false
set_option linter.unusedVariables false
open Go Go.RowKit

theorem meth_push (a : Addr) (w : World) : (method 250 79 (.pointer (some a)) "Push").run Tryd.prog w = .ok (101, .pointer (some a)) w := by kernel_rfl
theorem flen_c (w : World) (A : Option Addr) (n c : Nat) : Calls Tryd.prog 97 #[.slice A n c] w fun e w' => e = .returned (.int .i64 n) ∧ w' = w := by
  go_enter Tryd.func97, Tryd.ntmps97
  go_wp2_with fail
  go_ret
  exact ⟨rfl, rfl⟩

/-- The heap, in order. -/
structure HpS (w : World) (h B : Nat) (v : Value) (fs : List Frt) : Prop where
  blk : Blk w h 76 #[v]
  own : w.ownsRow B 81 2 v fs.length (fc fs)
  ok : ∀ f ∈ fs, FOk w f
  hp : Heap (gf fs) fs.length
theorem own_front {w : World} {B : Nat} {v : Value} {fs : List Frt} (h : w.ownsRow B 81 2 v fs.length (fc fs)) (hn : 0 < fs.length) : ∃ g c cur, v = .slice (some ⟨g, 0, none⟩) fs.length c ∧ B ≤ g ∧ Blk w g 81 cur ∧ fs.length ≤ c ∧ c ≤ maxLen ∧ cur.size = c * 2 ∧ cur.toList.take (fs.length * 2) = fc fs := by
  rcases h.2 with ⟨rfl, h0⟩ | ⟨g, cap, cur, rfl, hbg, hg, hnc, hcm, hcs, htake⟩
  · omega
  · exact ⟨g, cap, cur, rfl, hbg, hg, hnc, hcm, hcs, htake⟩
theorem front_own {w : World} {B g c n : Nat} {fs : List Frt} {cur : Array Value} (hb : B ≤ g) (h : Blk w g 81 cur) (hn : fs.length = n) (hnc : n ≤ c) (hcm : c ≤ maxLen) (hcs : cur.size = c * 2) (ht : cur.toList.take (n * 2) = fc fs) : w.ownsRow B 81 2 (.slice (some ⟨g, 0, none⟩) n c) fs.length (fc fs) := by
  subst hn
  exact ⟨fc_length fs, .inr ⟨g, c, cur, rfl, hb, h, hnc, hcm, hcs, ht⟩⟩

theorem gf_old (fs : List Frt) (f : Frt) (k : Nat) (h : k < fs.length) : gf (fs ++ [f]) k = gf fs k := by
  unfold gf
  rw [List.getD_eq_getElem?_getD, List.getD_eq_getElem?_getD, List.getElem?_append_left h]

set_option maxRecDepth 100000 in
set_option maxHeartbeats 1000000 in
theorem hpush_c (w : World) (h B : Nat) (v : Value) (fs : List Frt) (f : Frt) (hS : HpS w h B v fs) (hf : FOk w f) (hm : fs.length < 100000) (hB : B ≤ w.heap.size) :
    Calls Tryd.prog 39 #[.iface 79 (.pointer (some ⟨h, 0, none⟩)), .iface 81 (fval f)] w fun e w' => (∃ u, e = .returned u) ∧ ∃ v' fs', HpS w' h B v' fs' ∧ fs'.Perm (fs ++ [f]) ∧ Fr (fun k => k = h ∨ v.ownBlock = some k) w w' ∧ (v'.ownBlock = v.ownBlock ∨ ∃ k, v'.ownBlock = some k ∧ w.heap.size ≤ k) := by
  have HS := Lib.hid hS
  have HF := Lib.hid hf
  obtain ⟨n1, hn1⟩ : ∃ n1, fs.length + 1 = n1 := ⟨_, rfl⟩
  have hmI : (n1 : Int) ≤ 100000 := by omega
  have en1 : (n1 : Int) - 1 = (fs.length : Int) := by omega
  have HN := Lib.hid hn1
  have hmp := meth_push ⟨h, 0, none⟩ w
  clear hS hf hn1
  go_enter Tryd.func39, Tryd.ntmps39
  go_wp2_with (first
    | (go_at_call 101
       refine (fpush_c w h B v fs f HS.out.blk HS.out.own (by omega) hB).mono ?_
       rintro e w1 ⟨⟨u, rfl⟩, v1, hb1, ho1, hf1, hn1⟩
       have hl1 : (fs ++ [f]).length = n1 := by rw [← HN.out]; simp
       obtain ⟨b, c, cur, rfl, hBb, hbb, hnc, hcm, hcs, ht⟩ := own_front ho1 (by rw [hl1]; have := HN.out; omega)
       rw [hl1] at hb1 hnc ht hn1
       have c1 : w1.cell? ⟨h, 0, none⟩ = some (.slice (some ⟨b, 0, none⟩) n1 c) := hb1.cell 0
       have hml := meth_len n1 c _ h w1 c1
       have HB1 := Lib.hid hb1
       have HF1 := Lib.hid hf1
       have HN1 := Lib.hid hn1
       have HBB := Lib.hid hbb
       have HCS := Lib.hid hcs
       have HT := Lib.hid ht
       have HL1 := Lib.hid hl1
       have HCM := Lib.hid hcm
       clear hb1 ho1 hf1 hn1 hbb hcs ht hl1 hcm)
    | (go_at_call 97
       refine (flen_c w1 _ _ _).mono ?_
       rintro e w1' ⟨rfl, rfl⟩))
  have hL := HL1.out
  have hN := HN.out
  have hH1 : HpB w1' h b c (fs ++ [f]) := by
    refine ⟨?_, cur, HBB.out, HCS.out, ?_⟩
    · rw [hL]; exact HB1.out
    · rw [hL]; exact HT.out
  have hfar : ∀ g, FOk w g → FOk w1' g := fun g hg => by
    obtain ⟨-, -, -, ⟨cg, h4⟩, -⟩ := id hg
    refine hg.fr HF1.out ?_
    rintro (e | e)
    · exact h4.ne_ HS.out.blk (by decide) e
    · exact own_blk_ne HS.out.own h4 (by decide) e
  have hok : ∀ g ∈ fs ++ [f], FOk w1' g := fun g hg => by
    rcases List.mem_append.1 hg with hg | hg
    · exact hfar g (HS.out.ok g hg)
    · rw [List.mem_singleton.1 hg]; exact hfar f HF.out
  have hU : UpI (gf (fs ++ [f])) n1 fs.length := by
    constructor
    · intro k h0 hk hne
      have hp := par_lt h0
      rw [gf_old fs f k (by omega), gf_old fs f (par k) (by omega)]
      exact HS.out.hp k h0 (by omega)
    · intro k h0 hk hpk _
      have hp := par_lt h0
      omega
  refine (up_c w1' h b c n1 (fs ++ [f]) fs.length hH1 hL hnc (by omega) (by omega) hok hU).mono ?_
  rintro e w2 ⟨⟨u2, rfl⟩, fs', hH2, hp2, hh2, f2⟩
  have hl2 : fs'.length = n1 := hp2.length_eq.trans hL
  have hok2 : ∀ g ∈ fs', FOk w2 g := fun g hg => by
    have h1 := hok g (hp2.mem_iff.1 hg)
    exact h1.fr f2 (fun e => h1.ne HBB.out e)
  have HP2 := Lib.hid hp2
  have HO2 := Lib.hid hok2
  have HH2 := Lib.hid hH2
  have HHH := Lib.hid hh2
  have F2 := Lib.hid f2
  have HL2 := Lib.hid hl2
  have HNN := Lib.hid hN
  clear hH1 hfar hok hU hp2 hok2 hH2 hh2 f2 hl2 hL hN
  go_wp2_with fail
  go_end0
  obtain ⟨hb2, cur2, hbb2, hcs2, ht2⟩ := HH2.out
  rw [HL2.out] at hb2 ht2
  refine ⟨⟨_, rfl⟩, _, fs', ⟨hb2, front_own hBb hbb2 HL2.out hnc HCM.out hcs2 ht2, HO2.out, by rw [HL2.out]; exact HHH.out⟩, HP2.out, ?_, ?_⟩
  · refine HF1.out.trans F2.out (fun k hk e => ?_)
    have e' : (Value.slice (some ⟨b, 0, none⟩) n1 c).ownBlock = some k := by rw [e]; rfl
    rcases HN1.out with h1 | ⟨q, h1, h2⟩
    · exact .inr (h1 ▸ e')
    · rw [h1] at e'
      cases e'
      omega
  · exact HN1.out
end Go.Proofs.YtillifkilkjpdaaDoor
