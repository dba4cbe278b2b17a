/-
  CONTRACT of the law's stands.
-/
import Derived.Test.YtillifkilkjpdaaDoorTwo1
namespace Go.Proofs.YtillifkilkjpdaaDoor
set_option linter.unusedSimpArgs false
set_option linter.unusedVariables false
open Go Go.RowKit

set_option maxRecDepth 100000 in
set_option maxHeartbeats 2000000 in
theorem stands_c (w : World) (x : Value) (m : Ents) (A : Option Addr) (c : Nat) (hx : XR w x m) (hs : Srt m) (hm : m.length ≤ 100000) (hr : Rd w A (m.length * 2) (ec m)) (hc : m.length ≤ c) :
    Calls Tryd.prog 16 #[x, .slice A m.length c] w fun e w' => e = .returned (.bool true) ∧ Fr (fun _ => False) w w' := by
  obtain ⟨xp, rfl⟩ := hx.ptr
  obtain ⟨n, hn⟩ : ∃ n, m.length = n := ⟨_, rfl⟩
  have HX := Lib.hid hx
  have HS := Lib.hid hs
  have HR := Lib.hid hr
  rw [hn] at HR hm hc ⊢
  have HN := Lib.hid hn
  clear hx hs hr hn
  have nn1 : ((n : Int) != (n : Int)) = false := by simp
  have nn2 : ((n : Int) == (n : Int)) = true := by simp
  have estr : (⟨#[]⟩ : ByteArray) = strOf [] := rfl
  go_enter Tryd.func16, Tryd.ntmps16
  go_wp2_with fail
  refine (keys_c w _ m HX.out HS.out (by rw [HN.out]; exact hm)).mono ?_
  rintro e w1 ⟨v1, rfl, k1, f1⟩
  obtain ⟨A1, c1, rfl, hc1, -⟩ := own_slice k1
  unfold OwK at k1
  rw [HN.out] at k1 hc1 ⊢
  have K1 := Lib.hid k1
  have F1 := Lib.hid f1
  clear k1 f1
  go_wp2_with fail
  refine (len_c w1 _ m (HX.out.far F1.out)).mono ?_
  rintro e w2 ⟨hz, rfl⟩
  rw [HN.out]
  have hz2 := hz.symm
  subst hz2
  clear hz
  go_wp2_with fail
  refine (scan_c w1 _ m [] [] (HX.out.far F1.out) HS.out (by rw [HN.out]; exact hm)).mono ?_
  rintro e w3 ⟨s3, rfl, hs3, f3⟩
  rw [scn_all] at hs3
  have HS3 := Lib.hid hs3
  have F3 := Lib.hid (F1.out.trans f3 (fun _ _ h => h))
  have K3 := Lib.hid (own_fr K1.out f3 (fun _ _ h => h))
  clear hs3 f3 F1 K1
  go_wp2_with fail
  refine (rows_c w3 _ (-1) m HS3.out (by rw [HN.out]; exact hm) (by decide)).mono ?_
  rintro e w4 ⟨r4, rfl, hr4, f4⟩
  rw [show upto (-1) m = m from rfl] at hr4
  obtain ⟨A4, c4, rfl, hr4', hc4⟩ := OwR.rd hr4
  have R4 := Lib.hid hr4'
  have F4 := Lib.hid (F3.out.trans f4 (fun _ _ h => h))
  have K4 := Lib.hid (own_fr K3.out f4 (fun _ _ h => h))
  clear hr4 hr4' f4 HS3 F3 K3
  rw [HN.out] at hc4 ⊢
  go_wp2_with fail
  have hsame := same_c w4 A4 A c4 c m m R4.out (by rw [HN.out]; exact HR.out.far F4.out) (by rw [HN.out]; exact hm) (by rw [HN.out]; exact hm)
  rw [HN.out, decide_eq_true (rfl : m = m)] at hsame
  refine hsame.mono ?_
  rintro e w5 ⟨rfl, f5⟩
  have F5 := Lib.hid (F4.out.trans f5 (fun _ _ h => h))
  have K5 := Lib.hid (own_fr K4.out f5 (fun _ _ h => h))
  clear f5 hsame R4 F4 K4
  go_wp2_with fail
  have HK : Hid (0 < n → ∃ g cur, A1 = some ⟨g, 0, none⟩ ∧ w.heap.size ≤ g ∧ Blk w5 g 9 cur ∧ ∀ j, 0 ≤ j → j < n → cur[j]? = (kc m)[j]?) := fun h0 => by
    rcases K5.out.2 with ⟨h1, h2⟩ | ⟨g, cap, cur, he, hbg, hg, hn2, hc2, hcs, ht⟩
    · omega
    · injection he with he1 he2 he3
      refine ⟨g, cur, he1, hbg, hg, fun j _ hj => ?_⟩
      rw [← ht, List.getElem?_take, if_pos (by omega), Array.getElem?_toList]
  clear K5
  go_loopw [6] (fun u wr => ∃ i : Nat, u = .int .i64 i ∧ i ≤ n ∧ Hid (0 < n → ∃ g cur, A1 = some ⟨g, 0, none⟩ ∧ w.heap.size ≤ g ∧ Blk wr g 9 cur ∧ ∀ j, i ≤ j → j < n → cur[j]? = (kc m)[j]?) ∧ Hid (Fr (fun _ => False) w wr)) (fun u _ => n - (intOf u).toNat)
  case atStart => exact ⟨0, rfl, Nat.zero_le _, HK.out, F5.out⟩
  case round =>
    clear HK F5
    obtain ⟨i, rfl, hi, hk, hf⟩ := hrel
    by_cases hlt : i < n
    · have hdl : decide ((i : Int) < (n : Int)) = true := decide_eq_true (by omega)
      have hdn : decide (i < n) = true := decide_eq_true hlt
      have hI : (i : Int) < n := by omega
      have hil : i < m.length := by rw [HN.out]; exact hlt
      obtain ⟨g, cur, rfl, hwg, hb, hcur⟩ := hk.out (by omega)
      obtain ⟨b, off, rfl, hcl⟩ := HR.out.lit (by omega)
      have hbl : b < w.heap.size := HR.out.lt (by omega) ⟨_, rfl, rfl⟩
      have x1w : w.cell? ⟨b, off + i * 2, none⟩ = some (.string (strOf m[i].1)) := by rw [hcl _ (by omega)]; exact ec_key m i hil
      have x2w : w.cell? ⟨b, off + i * 2 + 1, none⟩ = some (.int .i64 m[i].2) := by rw [Nat.add_assoc, hcl _ (by omega)]; exact ec_val m i hil
      have y1 : wr.cell? ⟨g, i, none⟩ = some (.string (strOf m[i].1)) := by
        rw [hb.cell, hcur i (Nat.le_refl _) hlt]
        unfold kc
        rw [List.getElem?_map, List.getElem?_eq_getElem hil]
        rfl
      have hgm : (m[i].1, m[i].2) ∈ m := List.getElem_mem hil
      have hlk := lk_of HS.out hgm
      have HGV : Hid (gv m m[i].1 = m[i].2) := by show _ = _; rw [gv_lk HS.out, hlk]; rfl
      have HFD : Hid (fnd m m[i].1 = true) := by show _ = _; rw [fnd_lk, hlk]; rfl
      have HB := Lib.hid hb
      have HC := Lib.hid hcur
      have HX1 := Lib.hid x1w
      have HX2 := Lib.hid x2w
      have HY1 := Lib.hid y1
      clear hcl hgm hlk x1w x2w hb hcur hk
      generalize m[i].1 = kk at *
      generalize m[i].2 = uu at *
      have h1 : ((strOf kk).toList != (strOf kk).toList) = false := by simp
      have h2 : ((strOf kk).toList == (strOf kk).toList) = true := by simp
      have h3 : (uu != uu) = false := by simp
      have h4 : (uu == uu) = true := by simp
      go_wp2_with fail
      refine (get_c wr _ m kk (HX.out.far hf.out) (by rw [HN.out]; omega) HS.out).mono ?_
      rintro e w6 ⟨rfl, f6⟩
      rw [HGV.out, HFD.out]
      have F6 := Lib.hid (hf.out.trans f6 (fun _ _ h => h))
      have B6 := Lib.hid (HB.out.fr f6 (fun h => h))
      clear y1 f6
      have y1 : w6.cell? ⟨g, i, none⟩ = some (.string (strOf kk)) := by rw [B6.out.cell, ← HB.out.cell]; exact HY1.out
      have y2 := (F6.out.cell hbl (fun h => h)).trans HX1.out
      have y3 := (F6.out.cell hbl (fun h => h)).trans HX2.out
      go_wp2_with fail
      go_quiet (fail)
      have F7 : Hid (Fr (fun _ => False) w (w6.drewN nq)) := F6.out.drewN nq
      have B7 : Hid (Blk (w6.drewN nq) g 9 cur) := B6.out.drewN nq
      clear y1 y2 y3 h1 h2 h3 h4
      generalize w6.drewN nq = w7 at *
      have z1 := B7.out.frozen i
      have z2 : w7.cell? ⟨g, i, none⟩ = some (.string (strOf kk)) := by rw [B7.out.cell, ← HB.out.cell]; exact HY1.out
      go_wp2_with fail
      refine ⟨⟨i + 1, by push_cast; rfl, by omega, fun _ => ⟨g, _, rfl, hwg, B7.out.set_ i _, fun j hj hjn => ?_⟩, ?_⟩, by simp only [intOf]; omega⟩
      · rw [Array.getElem?_setIfInBounds]
        rw [if_neg (by omega)]
        exact HC.out j (by omega) hjn
      · exact (F7.out.setCell (p := ⟨g, i, none⟩) (fun h => by simp only at h; omega) _)
    · have hdl : decide ((i : Int) < (n : Int)) = false := decide_eq_false (by omega)
      have hdn : decide (i < n) = false := decide_eq_false hlt
      go_wp2_with fail
      go_ret
      exact ⟨rfl, hf.out⟩
end Go.Proofs.YtillifkilkjpdaaDoor
