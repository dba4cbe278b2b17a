/-
  CONTRACT of the reference's Set, over a row in order.
-/
import Derived.Test.YtillifkilkjpdaaDoorMrg2
import Derived.Test.YtillifkilkjpdaaDoorRefd
namespace Go.Proofs.YtillifkilkjpdaaDoor
set_option linter.unusedSimpArgs false
set_option linter.unusedVariables false
open Go Go.RowKit

/-- What the reference has made of the first ones. -/
def sO (m : Ents) (key : List UInt8) (u : Int) (i : Nat) : Ents := if i ≤ pos m key then m.take i else m.take (pos m key) ++ (key, u) :: (m.take i).drop (pos m key + (fnd m key).toNat)
theorem take_next {m : Ents} {i : Nat} (h : i < m.length) : m.take (i + 1) = m.take i ++ [(m[i].1, m[i].2)] := by rw [List.take_add_one, List.getElem?_eq_getElem h]; rfl
theorem sO_lt {m : Ents} {key : List UInt8} {u : Int} {i : Nat} (h : i < m.length) (hi : i < pos m key) : sO m key u (i + 1) = sO m key u i ++ [(m[i].1, m[i].2)] := by
  unfold sO
  rw [if_pos (show i + 1 ≤ pos m key by omega), if_pos (show i ≤ pos m key by omega), take_next h]
theorem sO_no {m : Ents} {key : List UInt8} {u : Int} {i : Nat} (h : i < m.length) (hi : i = pos m key) (hf : fnd m key = false) : sO m key u (i + 1) = sO m key u i ++ [(key, u)] ++ [(m[i].1, m[i].2)] := by
  unfold sO
  rw [if_neg (show ¬ i + 1 ≤ pos m key by omega), if_pos (show i ≤ pos m key by omega), hf, ← hi, take_next h, show i + false.toNat = i from rfl, List.drop_append_of_le_length (by rw [List.length_take]; omega), List.drop_eq_nil_of_le (by rw [List.length_take]; omega)]
  simp
theorem sO_yes {m : Ents} {key : List UInt8} {u : Int} {i : Nat} (h : i < m.length) (hi : i = pos m key) (hf : fnd m key = true) : sO m key u (i + 1) = sO m key u i ++ [(key, u)] := by
  unfold sO
  rw [if_neg (show ¬ i + 1 ≤ pos m key by omega), if_pos (show i ≤ pos m key by omega), hf, ← hi, List.drop_eq_nil_of_le (by rw [List.length_take]; show _ ≤ i + 1; omega)]
theorem sO_gt {m : Ents} {key : List UInt8} {u : Int} {i : Nat} (h : i < m.length) (hi : pos m key < i) : sO m key u (i + 1) = sO m key u i ++ [(m[i].1, m[i].2)] := by
  unfold sO
  have hb : (fnd m key).toNat ≤ 1 := by cases fnd m key <;> decide
  rw [if_neg (show ¬ i + 1 ≤ pos m key by omega), if_neg (show ¬ i ≤ pos m key by omega), take_next h, List.drop_append_of_le_length (by rw [List.length_take]; omega)]
  simp
theorem sO_end {m : Ents} {key : List UInt8} {u : Int} (h : pos m key < m.length) : sO m key u m.length = mset m key u := by
  unfold sO mset
  rw [if_neg (show ¬ m.length ≤ pos m key by omega), List.take_length]
  cases fnd m key <;> simp
theorem sO_over {m : Ents} (hs : Srt m) {key : List UInt8} {u : Int} (h : pos m key = m.length) : sO m key u m.length ++ [(key, u)] = mset m key u := by
  unfold sO mset
  rw [if_pos (show m.length ≤ pos m key by omega), fnd_end m hs key h, h, List.take_length]
  simp
theorem srt_eq {m : Ents} (hs : Srt m) {key : List UInt8} {i : Nat} (h : i < m.length) (hi : i = pos m key) : fnd m key = decide (m[i].1 = key) := by
  subst hi
  exact fnd_pos m hs key h
theorem srt_gt {m : Ents} (hs : Srt m) {key : List UInt8} {i : Nat} (h : i < m.length) (hi : pos m key < i) : m[i].1 ≠ key := by
  have h1 := srt_pos m hs key (pos m key) (by omega)
  rw [decide_eq_false (Nat.lt_irrefl _)] at h1
  have h2 := (List.pairwise_iff_getElem.1 hs) (pos m key) i (by omega) h hi
  intro e
  rw [e, h1] at h2
  cases h2

set_option maxRecDepth 100000 in
set_option maxHeartbeats 1000000 in
theorem rset_c (w : World) (A : Option Addr) (c : Nat) (m : Ents) (key : List UInt8) (u : Int) (hr : Rd w A (m.length * 2) (ec m)) (hc : m.length ≤ c) (hm : m.length ≤ 100000) (hs : Srt m) :
    Calls Tryd.prog 17 #[.slice A m.length c, .string (strOf key), .int .i64 u] w fun e w' => ∃ v, e = .returned v ∧ OwR w' w.heap.size v (mset m key u) ∧ Fr (fun _ => False) w w' := by
  obtain ⟨i0, hi0, hz0, hz1, hz2⟩ := info_parts ent_info
  have HIN := Lib.hid hi0
  obtain ⟨n, hn⟩ : ∃ n, m.length = n := ⟨_, rfl⟩
  obtain ⟨P, hP⟩ : ∃ P, pos m key = P := ⟨_, rfl⟩
  have HPL := Lib.hid (pos_le m key)
  have HR := Lib.hid hr
  rw [hn] at HR hc hm ⊢
  have HN := Lib.hid hn
  have HP := Lib.hid hP
  have HS := Lib.hid hs
  clear hr hn hi0 hP hs
  go_enter Tryd.func17, Tryd.ntmps17
  go_wp2_with fail
  go_loopw [9, 7, 8] (fun iv ov pv wr => ∃ (i : Nat) (Ao : Option Addr) (p co : Nat), iv = .int .i64 i ∧ i ≤ n ∧ ov = .slice Ao p co ∧ pv = .bool (decide (P < i)) ∧ p ≤ i + 1 ∧ Hid ((sO m key u i).length = p) ∧ Hid (wr.ownsRow w.heap.size 63 2 (.slice Ao p co) p (ec (sO m key u i))) ∧ Hid (Fr (fun _ => False) w wr)) (fun iv _ _ _ => n - (intOf iv).toNat)
  case atStart =>
    refine ⟨0, none, 0, 0, rfl, Nat.zero_le _, rfl, by rw [decide_eq_false (Nat.not_lt_zero _)], Nat.zero_le _, ?_, ?_, Fr.refl _ _⟩
    · show (sO m key u 0).length = 0
      unfold sO; rw [if_pos (Nat.zero_le _)]; rfl
    · show World.ownsRow _ _ _ _ _ _ _
      unfold sO; rw [if_pos (Nat.zero_le _)]; exact World.ownsRow_nil _ _ _ _
  case round =>
    obtain ⟨i, Ao, p, co, rfl, hi, rfl, rfl, hpi, hp, ho, hf⟩ := hrel
    by_cases hlt : i < n
    · have hdl : decide ((i : Int) < (n : Int)) = true := decide_eq_true (by omega)
      have hdn : decide (i < n) = true := decide_eq_true hlt
      have hI : (i : Int) < n := by omega
      obtain ⟨b, off, rfl, hcl⟩ := HR.out.lit (by omega)
      have hbl : b < w.heap.size := HR.out.lt (by omega) ⟨_, rfl, rfl⟩
      have hil : i < m.length := by rw [HN.out]; exact hlt
      have x1w : w.cell? ⟨b, off + i * 2, none⟩ = some (.string (strOf m[i].1)) := by
        rw [hcl _ (by omega)]
        exact ec_key m i hil
      have x2w : w.cell? ⟨b, off + i * 2 + 1, none⟩ = some (.int .i64 m[i].2) := by
        rw [Nat.add_assoc, hcl _ (by omega)]
        exact ec_val m i hil
      have x1 := (hf.out.cell hbl (fun h => h)).trans x1w
      have x2 := (hf.out.cell hbl (fun h => h)).trans x2w
      have HX1 := Lib.hid x1w
      have HX2 := Lib.hid x2w
      clear hcl x1w x2w
      have hws := hf.out.size
      rcases Nat.lt_trichotomy i P with hc3 | hc3 | hc3
      · have hb : decide (P < i) = false := decide_eq_false (by omega)
        have HD : Hid (decide (P < i + 1) = false) := decide_eq_false (by omega)
        have hk : kl m[i].1 key = true := by rw [srt_pos m HS.out key i hil, HP.out]; exact decide_eq_true hc3
        have hbl2 : Op.bytesLess (strOf m[i].1).toList (strOf key).toList = true := by rw [strOf_toList, strOf_toList]; exact hk
        have heq : ((strOf m[i].1).toList == (strOf key).toList) = false := by
          rw [strOf_toList, strOf_toList]
          simpa using kl_ne hk
        have hre : Hid (sO m key u (i + 1) = sO m key u i ++ [(m[i].1, m[i].2)]) := sO_lt hil (by rw [HP.out]; exact hc3)
        rw [hb]
        clear hk hb
        generalize m[i].1 = k at *
        generalize m[i].2 = uu at *
        go_wp2_with (first
        | (at_builtin
           refine wpList_app rfl _ _ _ _ rfl w.heap.size 63 i0 _ 2 24 Tryd.underlying27 HIN.out hz0 hz1 hz2 (by kernel_rfl) _ p _ rfl (own_fr ho.out ((Fr.refl (fun _ => False) wr).alloc (.cells #[.string (strOf k), .int .i64 uu] 63)) (fun _ _ h => h)) _ 1 (ec [(k, uu)]) rfl
             (Src.ofSlice _ Tryd.underlying27 ⟨wr.heap.size, 0, none⟩ 1 1 (ec [(k, uu)]) (ec_length _) (fun j u' hj => by rw [Addr.add_lit, (Blk.new wr 63 #[.string (strOf k), .int .i64 uu]).cell, ← Array.getElem?_toList, Nat.zero_add]; exact hj) (ec_one _))
             (by omega) (by unfold maxLen; omega) (by rw [World.size_alloc]; omega) ?_
           intro w9v w9 w9o w9f w9n
           obtain ⟨A9, c9, rfl, -, -⟩ := own_slice w9o
           have HO9 := Lib.hid w9o
           have HF9 := Lib.hid w9f
           clear w9o w9f w9n))
        refine ⟨⟨i + 1, A9, p + 1, c9, by push_cast; rfl, by omega, rfl, by rw [HD.out], by omega, ?_, ?_, ?_⟩, by simp only [intOf]; omega⟩
        · show _ = _
          rw [hre.out, List.length_append, hp.out]; rfl
        · rw [hre.out, ec_append]; exact HO9.out
        ·
          refine (hf.out.alloc _).trans HF9.out (fun k hk e => ?_)
          have := (World.ownsRow.lt ho.out k e).1
          omega
      · have hb : decide (P < i) = false := decide_eq_false (by omega)
        have HD : Hid (decide (P < i + 1) = true) := decide_eq_true (by omega)
        have hk : kl m[i].1 key = false := by rw [srt_pos m HS.out key i hil, HP.out]; exact decide_eq_false (by omega)
        have hbl2 : Op.bytesLess (strOf m[i].1).toList (strOf key).toList = false := by rw [strOf_toList, strOf_toList]; exact hk
        rw [hb]
        clear hb hk
        cases hfd : fnd m key with
        | true =>
          have hke : m[i].1 = key := by
            have := srt_eq HS.out hil (hc3.trans HP.out.symm)
            rw [hfd] at this
            exact of_decide_eq_true this.symm
          have heq : ((strOf m[i].1).toList == (strOf key).toList) = true := by rw [hke]; simp
          have hre : Hid (sO m key u (i + 1) = sO m key u i ++ [(key, u)]) := sO_yes hil (hc3.trans HP.out.symm) hfd
          clear hke hfd hc3
          generalize m[i].1 = k at *
          generalize m[i].2 = uu at *
          go_wp2_with (first
          | (at_builtin
             refine wpList_app rfl _ _ _ _ rfl w.heap.size 63 i0 _ 2 24 Tryd.underlying27 HIN.out hz0 hz1 hz2 (by kernel_rfl) _ p _ rfl (own_fr ho.out ((Fr.refl (fun _ => False) wr).alloc (.cells #[.string (strOf key), .int .i64 u] 63)) (fun _ _ h => h)) _ 1 (ec [(key, u)]) rfl
               (Src.ofSlice _ Tryd.underlying27 ⟨wr.heap.size, 0, none⟩ 1 1 (ec [(key, u)]) (ec_length _) (fun j u' hj => by rw [Addr.add_lit, (Blk.new wr 63 #[.string (strOf key), .int .i64 u]).cell, ← Array.getElem?_toList, Nat.zero_add]; exact hj) (ec_one _))
               (by omega) (by unfold maxLen; omega) (by rw [World.size_alloc]; omega) ?_
             intro w9v w9 w9o w9f w9n
             obtain ⟨A9, c9, rfl, -, -⟩ := own_slice w9o
             have HO9 := Lib.hid w9o
             have HF9 := Lib.hid w9f
             have y1 := (hf.out.alloc (.cells #[.string (strOf key), .int .i64 u] 63)).trans w9f (fun k hk e => by have := (World.ownsRow.lt ho.out k e).1; omega)
             have hws9 := y1.size
             have HY := Lib.hid y1
             have z1 := (y1.cell (p := ⟨b, off + i * 2, none⟩) hbl (fun h => h)).trans HX1.out
             have z2 := (y1.cell (p := ⟨b, off + i * 2 + 1, none⟩) hbl (fun h => h)).trans HX2.out
             clear y1
             clear w9o w9f w9n))
          refine ⟨⟨i + 1, A9, p + 1, c9, by push_cast; rfl, by omega, rfl, by rw [HD.out], by omega, ?_, ?_, HY.out⟩, by simp only [intOf]; omega⟩
          · show _ = _
            rw [hre.out, List.length_append, hp.out]; rfl
          · rw [hre.out, ec_append]; exact HO9.out
        | false =>
          have hke : m[i].1 ≠ key := by
            have := srt_eq HS.out hil (hc3.trans HP.out.symm)
            rw [hfd] at this
            exact of_decide_eq_false this.symm
          have heq : ((strOf m[i].1).toList == (strOf key).toList) = false := by
            rw [strOf_toList, strOf_toList]
            simpa using hke
          have hre : Hid (sO m key u (i + 1) = sO m key u i ++ [(key, u)] ++ [(m[i].1, m[i].2)]) := sO_no hil (hc3.trans HP.out.symm) hfd
          have hpi2 : p ≤ i := by
            have h1 := hp.out
            unfold sO at h1
            rw [if_pos (by rw [HP.out, hc3]; exact Nat.le_refl _), List.length_take] at h1
            omega
          clear hke hfd hc3
          generalize m[i].1 = k at *
          generalize m[i].2 = uu at *
          go_wp2_with (first
          | (at_builtin
             refine wpList_app rfl _ _ _ _ rfl w.heap.size 63 i0 _ 2 24 Tryd.underlying27 HIN.out hz0 hz1 hz2 (by kernel_rfl) _ (p + 1) _ rfl (own_fr HO9.out ((Fr.refl (fun _ => False) w9).alloc (.cells #[.string (strOf k), .int .i64 uu] 63)) (fun _ _ h => h)) _ 1 (ec [(k, uu)]) rfl
               (Src.ofSlice _ Tryd.underlying27 ⟨w9.heap.size, 0, none⟩ 1 1 (ec [(k, uu)]) (ec_length _) (fun j u' hj => by rw [Addr.add_lit, (Blk.new w9 63 #[.string (strOf k), .int .i64 uu]).cell, ← Array.getElem?_toList, Nat.zero_add]; exact hj) (ec_one _))
               (by omega) (by unfold maxLen; omega) (by rw [World.size_alloc]; omega) ?_
             intro w8v w8 w8o w8f w8n
             obtain ⟨A8, c8, rfl, -, -⟩ := own_slice w8o
             have HO8 := Lib.hid w8o
             have HF8 := Lib.hid w8f
             clear w8o w8f w8n)
          | (at_builtin
             refine wpList_app rfl _ _ _ _ rfl w.heap.size 63 i0 _ 2 24 Tryd.underlying27 HIN.out hz0 hz1 hz2 (by kernel_rfl) _ p _ rfl (own_fr ho.out ((Fr.refl (fun _ => False) wr).alloc (.cells #[.string (strOf key), .int .i64 u] 63)) (fun _ _ h => h)) _ 1 (ec [(key, u)]) rfl
               (Src.ofSlice _ Tryd.underlying27 ⟨wr.heap.size, 0, none⟩ 1 1 (ec [(key, u)]) (ec_length _) (fun j u' hj => by rw [Addr.add_lit, (Blk.new wr 63 #[.string (strOf key), .int .i64 u]).cell, ← Array.getElem?_toList, Nat.zero_add]; exact hj) (ec_one _))
               (by omega) (by unfold maxLen; omega) (by rw [World.size_alloc]; omega) ?_
             intro w9v w9 w9o w9f w9n
             obtain ⟨A9, c9, rfl, -, -⟩ := own_slice w9o
             have HO9 := Lib.hid w9o
             have HF9 := Lib.hid w9f
             have y1 := (hf.out.alloc (.cells #[.string (strOf key), .int .i64 u] 63)).trans w9f (fun k hk e => by have := (World.ownsRow.lt ho.out k e).1; omega)
             have hws9 := y1.size
             have HY := Lib.hid y1
             have z1 := (y1.cell (p := ⟨b, off + i * 2, none⟩) hbl (fun h => h)).trans HX1.out
             have z2 := (y1.cell (p := ⟨b, off + i * 2 + 1, none⟩) hbl (fun h => h)).trans HX2.out
             clear y1
             clear w9o w9f w9n))
          refine ⟨⟨i + 1, A8, p + 1 + 1, c8, by push_cast; rfl, by omega, rfl, by rw [HD.out], by omega, ?_, ?_, ?_⟩, by simp only [intOf]; omega⟩
          · show _ = _
            rw [hre.out, List.length_append, List.length_append, hp.out]; rfl
          · rw [hre.out, ec_append, ec_append]; exact HO8.out
          · refine (HY.out.alloc _).trans HF8.out (fun k hk e => ?_)
            have := (World.ownsRow.lt HO9.out k e).1
            omega
      · have hb : decide (P < i) = true := decide_eq_true hc3
        have HD : Hid (decide (P < i + 1) = true) := decide_eq_true (by omega)
        have heq : ((strOf m[i].1).toList == (strOf key).toList) = false := by
          rw [strOf_toList, strOf_toList]
          simpa using srt_gt HS.out hil (by rw [HP.out]; exact hc3)
        have hre : Hid (sO m key u (i + 1) = sO m key u i ++ [(m[i].1, m[i].2)]) := sO_gt hil (by rw [HP.out]; exact hc3)
        rw [hb]
        clear hb
        generalize m[i].1 = k at *
        generalize m[i].2 = uu at *
        go_wp2_with (first
        | (at_builtin
           refine wpList_app rfl _ _ _ _ rfl w.heap.size 63 i0 _ 2 24 Tryd.underlying27 HIN.out hz0 hz1 hz2 (by kernel_rfl) _ p _ rfl (own_fr ho.out ((Fr.refl (fun _ => False) wr).alloc (.cells #[.string (strOf k), .int .i64 uu] 63)) (fun _ _ h => h)) _ 1 (ec [(k, uu)]) rfl
             (Src.ofSlice _ Tryd.underlying27 ⟨wr.heap.size, 0, none⟩ 1 1 (ec [(k, uu)]) (ec_length _) (fun j u' hj => by rw [Addr.add_lit, (Blk.new wr 63 #[.string (strOf k), .int .i64 uu]).cell, ← Array.getElem?_toList, Nat.zero_add]; exact hj) (ec_one _))
             (by omega) (by unfold maxLen; omega) (by rw [World.size_alloc]; omega) ?_
           intro w9v w9 w9o w9f w9n
           obtain ⟨A9, c9, rfl, -, -⟩ := own_slice w9o
           have HO9 := Lib.hid w9o
           have HF9 := Lib.hid w9f
           clear w9o w9f w9n))
        refine ⟨⟨i + 1, A9, p + 1, c9, by push_cast; rfl, by omega, rfl, by rw [HD.out], by omega, ?_, ?_, ?_⟩, by simp only [intOf]; omega⟩
        · show _ = _
          rw [hre.out, List.length_append, hp.out]; rfl
        · rw [hre.out, ec_append]; exact HO9.out
        ·
          refine (hf.out.alloc _).trans HF9.out (fun k hk e => ?_)
          have := (World.ownsRow.lt ho.out k e).1
          omega
    · have hdl : decide ((i : Int) < (n : Int)) = false := decide_eq_false (by omega)
      have hdn : decide (i < n) = false := decide_eq_false hlt
      have hin : i = n := by omega
      have hws := hf.out.size
      by_cases hpn : P < n
      · have hb : decide (P < i) = true := decide_eq_true (by omega)
        rw [hb]
        have HE : Hid (sO m key u i = mset m key u) := by
          show _ = _
          rw [hin, ← HN.out]
          exact sO_end (by rw [HP.out, HN.out]; exact hpn)
        clear hb
        go_wp2_with fail
        go_ret
        refine ⟨_, rfl, ?_, hf.out⟩
        have h1 := ho.out
        have h2 := hp.out
        rw [HE.out] at h1 h2
        unfold OwR
        rw [h2]
        exact h1
      · have hb : decide (P < i) = false := decide_eq_false (by omega)
        rw [hb]
        have HE : Hid (sO m key u i ++ [(key, u)] = mset m key u) := by
          show _ = _
          rw [hin, ← HN.out]
          exact sO_over HS.out (by have := HPL.out; rw [HP.out] at this ⊢; have := HN.out; omega)
        clear hb
        go_wp2_with (first
        | (at_builtin
           refine wpList_app rfl _ _ _ _ rfl w.heap.size 63 i0 _ 2 24 Tryd.underlying27 HIN.out hz0 hz1 hz2 (by kernel_rfl) _ p _ rfl (own_fr ho.out ((Fr.refl (fun _ => False) wr).alloc (.cells #[.string (strOf key), .int .i64 u] 63)) (fun _ _ h => h)) _ 1 (ec [(key, u)]) rfl
             (Src.ofSlice _ Tryd.underlying27 ⟨wr.heap.size, 0, none⟩ 1 1 (ec [(key, u)]) (ec_length _) (fun j u' hj => by rw [Addr.add_lit, (Blk.new wr 63 #[.string (strOf key), .int .i64 u]).cell, ← Array.getElem?_toList, Nat.zero_add]; exact hj) (ec_one _))
             (by omega) (by unfold maxLen; omega) (by rw [World.size_alloc]; omega) ?_
           intro w9v w9 w9o w9f w9n
           obtain ⟨A9, c9, rfl, -, -⟩ := own_slice w9o
           have HO9 := Lib.hid w9o
           have HF9 := Lib.hid w9f
           clear w9o w9f w9n))
        go_ret
        refine ⟨_, rfl, ?_, ?_⟩
        · have h1 := HO9.out
          rw [← ec_append, HE.out] at h1
          have h2 : (mset m key u).length = p + 1 := by rw [← HE.out, List.length_append, hp.out]; rfl
          unfold OwR
          rw [h2]
          exact h1
        · refine (hf.out.alloc _).trans HF9.out (fun k hk e => ?_)
          have := (World.ownsRow.lt ho.out k e).1
          omega
end Go.Proofs.YtillifkilkjpdaaDoor
