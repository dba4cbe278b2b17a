/-
  THE HEAP behind its interface: CONTRACTS of Pop and heap.Pop.
-/
import Derived.Test.YtillifkilkjpdaaDoorHp6
namespace Go.Proofs.YtillifkilkjpdaaDoor
set_option linter.unusedSimpArgs false
set_option linter.unusedVariables false
open Go Go.RowKit

theorem meth_pop (a : Addr) (w : World) : (method 250 79 (.pointer (some a)) "Pop").run Tryd.prog w = .ok (100, .pointer (some a)) w := by kernel_rfl

theorem fc_take (m : List Frt) (k : Nat) : fc (m.take k) = (fc m).take (k * 2) := by
  induction m generalizing k with
  | nil => simp [fc]
  | cons e m ih => cases k with
    | zero => simp [fc]
    | succ k => rw [List.take_succ_cons, fc_cons, fc_cons, ih, show (k + 1) * 2 = k * 2 + 1 + 1 by omega, List.take_succ_cons, List.take_succ_cons]

set_option maxRecDepth 100000 in
set_option maxHeartbeats 1000000 in
theorem fpop_c (w : World) (h b c n : Nat) (fs : List Frt) (hH : HpB w h b c fs) (hn : fs.length = n + 1) (hnc : n + 1 ≤ c) (hm : n ≤ 100000) :
    Calls Tryd.prog 100 #[.pointer (some ⟨h, 0, none⟩)] w fun e w' => (∃ u, e = .returned u) ∧ HpB w' h b c (fs.take n) ∧ Fr (fun k => k = h) w w' := by
  have HH := Lib.hid hH
  have HN := Lib.hid hn
  obtain ⟨hb, cur, hbb, hcs, ht⟩ := hH
  have hnl : n < fs.length := by omega
  have c1 : w.cell? ⟨h, 0, none⟩ = some (.slice (some ⟨b, 0, none⟩) (n + 1) c) := by rw [hb.cell 0, hn]; rfl
  have z1 : w.frozen? ⟨h, 0, none⟩ = false := hb.frozen 0
  have gc : ∀ q, q < (n + 1) * 2 → w.cell? ⟨b, q, none⟩ = (fc fs)[q]? := fun q hq => by
    rw [hbb.cell, ← ht, List.getElem?_take, if_pos (by rw [hn]; exact hq), Array.getElem?_toList]
  have r1 := (gc (n * 2) (by omega)).trans (fc_rest fs n hnl)
  have r2 := (gc (n * 2 + 1) (by omega)).trans (fc_place fs n hnl)
  have hne : b ≠ h := hbb.ne_ hb (by decide)
  have HBB := Lib.hid hbb
  have HT := Lib.hid ht
  have HCS := Lib.hid hcs
  have HB := Lib.hid hb
  have hbl := hbb.lt
  have hhl := hb.lt
  have r1w : (w.alloc (.cells #[.slice (some ⟨fs[n].g, fs[n].off, none⟩) fs[n].l.length fs[n].cap, .int .i64 (fs[n].pl : Int)] 81)).cell? ⟨h, 0, none⟩ = some (.slice (some ⟨b, 0, none⟩) (n + 1) c) := by rw [(hb.alloc _).cell 0, hn]; rfl
  have z1w : (w.alloc (.cells #[.slice (some ⟨fs[n].g, fs[n].off, none⟩) fs[n].l.length fs[n].cap, .int .i64 (fs[n].pl : Int)] 81)).frozen? ⟨h, 0, none⟩ = false := (hb.alloc _).frozen 0
  generalize fs[n] = fn at *
  have en : ((n : Int) + 1) - 1 = (n : Int) := by omega
  have hnI : (n : Int) < (n : Int) + 1 := by omega
  obtain ⟨n1, hn1⟩ : ∃ n1, n + 1 = n1 := ⟨_, rfl⟩
  rw [hn1] at c1 r1w hnc
  have en1 : (n1 : Int) - 1 = (n : Int) := by omega
  have hnn1 : (n : Int) < (n1 : Int) := by omega
  have hnn2 : n ≤ n1 := by omega
  have HN1 := Lib.hid hn1
  clear gc hbb ht hcs hb hn hn1 en hnI
  go_enter Tryd.func100, Tryd.ntmps100
  go_wp2_with fail
  go_ret
  have hl : (fs.take n).length = n := by rw [List.length_take]; omega
  refine ⟨⟨_, rfl⟩, ⟨?_, cur, ?_, HCS.out, ?_⟩, ((Fr.refl (fun k => k = h) w).setCell (p := ⟨h, 0, none⟩) (fun _ => rfl) _).alloc _⟩
  · rw [hl]
    exact (HB.out.set_ 0 (.slice (some ⟨b, 0, none⟩) n c)).alloc _
  · exact (HBB.out.far (p := ⟨h, 0, none⟩) hne _).alloc _
  · rw [hl, fc_take, ← HT.out, List.take_take, Nat.min_eq_left (by omega)]

set_option maxRecDepth 100000 in
set_option maxHeartbeats 1000000 in
/-- heap.Pop where the root has nothing left: it goes, the others stand in order. -/
theorem hpop_c (w : World) (h b c n : Nat) (fs : List Frt) (hH : HpB w h b c fs) (hn : fs.length = n + 1) (hnc : n + 1 ≤ c) (hm : n < 100000) (hok : ∀ f ∈ fs.drop 1, FOk w f) (hD : DownI (gf fs) (n + 1) 0) :
    Calls Tryd.prog 40 #[.iface 79 (.pointer (some ⟨h, 0, none⟩))] w fun e w' => (∃ u, e = .returned u) ∧ ∃ fs', HpB w' h b c fs' ∧ fs'.Perm (fs.drop 1) ∧ Heap (gf fs') n ∧ Fr (fun k => k = b ∨ k = h) w w' := by
  obtain ⟨n1, hn1⟩ : ∃ n1, n + 1 = n1 := ⟨_, rfl⟩
  rw [hn1] at hn hnc hD
  have h0l : 0 < fs.length := by omega
  have hnl : n < fs.length := by omega
  have c1 : w.cell? ⟨h, 0, none⟩ = some (.slice (some ⟨b, 0, none⟩) n1 c) := by rw [hH.1.cell 0, hn]; rfl
  have hml := meth_len n1 c _ h w c1
  have hms := meth_swap n1 c _ h w c1
  have en1 : (n1 : Int) - 1 = (n : Int) := by omega
  have hnI : (n1 : Int) ≤ 100000 := by omega
  obtain ⟨gs, hgs⟩ : ∃ gs, (fs.set 0 fs[n]).set n fs[0] = gs := ⟨_, rfl⟩
  have hgl : gs.length = n1 := by rw [← hgs]; simp only [List.length_set]; exact hn
  have hgp : (gs.take n).Perm (fs.drop 1) := by
    have h1 : gs.Perm fs := by rw [← hgs]; exact List.set_set_perm h0l hnl
    have h2 : gs = gs.take n ++ [fs[0]] := by
      conv => lhs; rw [← List.take_append_drop n gs]
      congr 1
      have hdl : (gs.drop n).length = 1 := by rw [List.length_drop]; omega
      have hg : gs[n]? = some fs[0] := by rw [← hgs, List.getElem?_set]; simp [hnl]
      rw [List.drop_eq_getElem_cons (by omega), List.drop_of_length_le (by omega)]
      congr 1
      rw [List.getElem?_eq_getElem (by omega)] at hg
      exact Option.some.inj hg
    have h3 : fs = fs[0] :: fs.drop 1 := by
      conv => lhs; rw [← List.drop_zero (l := fs), List.drop_eq_getElem_cons h0l]
    have h4 : fs.Perm (fs[0] :: fs.drop 1) := List.Perm.of_eq h3
    have h5 : (gs.take n ++ [fs[0]]).Perm gs := List.Perm.of_eq h2.symm
    exact ((List.perm_append_singleton _ _).symm.trans (h5.trans (h1.trans h4))).cons_inv
  have hgd : DownI (gf gs) n 0 := by
    constructor
    · intro k hk0 hk hpk
      have hp := par_lt hk0
      rw [← hgs, gf_swap fs 0 n h0l hnl, swp_o _ (by omega) (by omega), swp_o _ hpk (by omega)]
      exact hD.1 k hk0 (by omega) hpk
    · intro k _ _ _ hh; exact absurd hh (Nat.lt_irrefl 0)
  have HH := Lib.hid hH
  have HOK := Lib.hid hok
  have HGS := Lib.hid hgs
  have HGL := Lib.hid hgl
  have HGP := Lib.hid hgp
  have HGD := Lib.hid hgd
  have HN := Lib.hid hn
  have HN1 := Lib.hid hn1
  have hbF : ∃ cur, Blk w b 81 cur := ⟨_, hH.2.choose_spec.1⟩
  have HBF := Lib.hid hbF
  have hhb : h ≠ b := hH.1.ne_ hH.2.choose_spec.1 (by decide)
  clear hH hok hgs hgl hgp hgd hn hn1 hbF hD
  go_enter Tryd.func40, Tryd.ntmps40
  go_wp2_with (first
    | (go_at_call 97
       refine (flen_c w _ _ _).mono ?_
       rintro e w1' ⟨rfl, rfl⟩)
    | (go_at_call 99
       obtain ⟨cur, hb1, hb2, hb3⟩ := HH.out.2
       rw [HN.out] at hb3
       refine (swap_c _ b n1 c 0 n fs cur hb1 hb2 hb3 HN.out hnc (by omega) (by omega) (by omega)).mono ?_
       rintro e w2 ⟨⟨u, rfl⟩, f2, cur', h4, h5, h6⟩
       rw [HGS.out] at h6
       have hh2 : HpB w2 h b c gs := ⟨by rw [HGL.out]; have := HH.out.1.fr f2 hhb; rw [HN.out] at this; exact this, cur', h4, h5, by rw [HGL.out]; exact h6⟩
       have HH2 := Lib.hid hh2
       have F2 := Lib.hid f2
       clear hb1 hb2 hb3 f2 h4 h5 h6 hh2)
    | (go_at_call 51
       refine (down_c w2 h b c n1 n gs 0 HH2.out HGL.out (by omega) hnc (by omega) (Nat.zero_le _) (fun f hf => by
         have h1 := HOK.out f (HGP.out.mem_iff.1 hf)
         exact h1.fr F2.out (fun e => h1.ne HBF.out.choose_spec e)) HGD.out).mono ?_
       rintro e w3 ⟨⟨i, hi, rfl⟩, fs', hH3, hl3, hp3, hdr, hh3, f3⟩
       have hmp := meth_pop ⟨h, 0, none⟩ w3
       have HH3 := Lib.hid hH3
       have HL3 := Lib.hid hl3
       have HP3 := Lib.hid hp3
       have HHP := Lib.hid hh3
       have F3 := Lib.hid f3
       clear hH3 hl3 hp3 hdr hh3 f3)
    | (go_at_call 100
       refine (fpop_c w3 h b c n fs' HH3.out (by rw [HL3.out]; exact HN1.out.symm) (by have := HN1.out; omega) (by omega)).mono ?_
       rintro e w4 ⟨⟨u4, rfl⟩, hH4, f4⟩
       have HH4 := Lib.hid hH4
       have F4 := Lib.hid f4
       clear hH4 f4))
  go_ret
  refine ⟨⟨_, rfl⟩, fs'.take n, HH4.out, HP3.out.trans HGP.out, ?_, ((F2.out.mono (fun k _ h => .inl h)).trans F3.out (fun k _ h => .inl h)).trans F4.out (fun k _ h => .inr h)⟩
  intro k hk0 hk
  have hp := par_lt hk0
  have hg : ∀ q, q < n → gf (fs'.take n) q = gf fs' q := fun q hq => by
    unfold gf
    rw [List.getD_eq_getElem?_getD, List.getD_eq_getElem?_getD, List.getElem?_take, if_pos hq]
  rw [hg k hk, hg (par k) (by omega)]
  exact HHP.out k hk0 hk
end Go.Proofs.YtillifkilkjpdaaDoor
