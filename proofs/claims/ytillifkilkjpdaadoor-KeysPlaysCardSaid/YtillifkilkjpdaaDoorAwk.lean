/-
  THE LAW'S awake.
-/
import Derived.Test.YtillifkilkjpdaaDoorRmrg
import Derived.Lib.SmallJoins
namespace Go.Proofs.YtillifkilkjpdaaDoor
set_option linter.unusedSimpArgs false
set_option linter.unusedVariables false
open Go Go.RowKit

def TabOk (w : World) : Prop := Lib.TabIs Tryd.prog w "internal/strconv.uint64pow10" .u64 Lib.pow10Tab
theorem pow10G : Tryd.prog.globalNamed "internal/strconv.uint64pow10" = some 0 := by kernel_rfl
theorem TabOk.below {w w' : World} (h : TabOk w) (hb : Below w.heap.size w w') : TabOk w' := Joins.tab_stays pow10G h hb (Nat.le_refl _)
theorem TabOk.far {w w' : World} (h : TabOk w) (hf : Fr (fun _ => False) w w') : TabOk w' := h.below (hf.below (Nat.le_refl _) (fun _ _ h => h))
theorem TabOk.up {w w' : World} {n : Nat} (h : TabOk w) (hf : Fr (fun k => w.heap.size ≤ k) w w') : TabOk w' := h.below (hf.below (Nat.le_refl _) (fun i hi h => by omega))
/-- Changes among what is new. -/
theorem Fr.new_ {w w' : World} (h : Fr (fun k => w.heap.size ≤ k) w w') : Fr (fun _ => False) w w' := h.mono (fun k hk e => by omega)
theorem IX.step {W w w' : World} {B g : Nat} {v : Value} {m : Ents} (F : Fr (fun _ => False) W w) (hx : IX w W.heap.size g v m) (h : Fr (fun k => k = g ∨ v.ownBlock = some k) w w') : Fr (fun _ => False) W w' :=
  F.trans h (fun k hk e => by
    rcases e with e | e
    · have := hx.base; omega
    · have := (World.ownsRow.lt hx.own k e).1; omega)

theorem key42 : keyNum (clampN 42) = [48, 48, 48, 48, 48, 48, 48, 48, 52, 50] := by
  have h : clampN 42 = 42 := by decide
  rw [h]
  unfold keyNum
  simp [Lib.nDigits, Lib.decDigits, Lib.repeatL]

set_option maxRecDepth 100000 in
set_option maxHeartbeats 2000000 in
theorem awake_c (w : World) (htab : TabOk w) : Calls Tryd.prog 10 #[] w fun e w' => e = .returned (.bool true) ∧ Fr (fun _ => False) w w' := by
  have HT := Lib.hid htab
  clear htab
  go_enter Tryd.func10, Tryd.ntmps10
  go_wp2_with fail
  refine (new_c w).mono ?_
  rintro e w1 ⟨rfl, x1, f1⟩
  obtain ⟨g, hg⟩ : ∃ g, w.heap.size = g := ⟨_, rfl⟩
  rw [hg] at x1 ⊢
  have HG := Lib.hid hg
  have X1 := Lib.hid x1
  have F1 := Lib.hid f1
  clear hg x1 f1
  go_wp2_with fail
  refine (set_c w1 g g _ [] [98] 2 X1.out (by simp)).mono ?_
  rintro e w2 ⟨rfl, v2, x2, f2, -⟩
  have X2 : Hid (IX w2 g g v2 [([98], 2)]) := x2
  have F2 : Hid (Fr (fun _ => False) w w2) := IX.step F1.out (B := g) (by rw [HG.out]; exact X1.out) f2
  rw [show (!fnd [] [98]) = true from rfl]
  clear x2 f2 X1 F1
  go_wp2_with fail
  refine (set_c w2 g g _ [([98], 2)] [97] 1 X2.out (by simp)).mono ?_
  rintro e w3 ⟨rfl, v3, x3, f3, -⟩
  have X3 : Hid (IX w3 g g v3 [([97], 1), ([98], 2)]) := x3
  have F3 : Hid (Fr (fun _ => False) w w3) := IX.step F2.out (B := g) (by rw [HG.out]; exact X2.out) f3
  rw [show (!fnd [([98], 2)] [97]) = true from rfl]
  clear x3 f3 X2 F2
  go_wp2_with fail
  refine (set_c w3 g g _ [([97], 1), ([98], 2)] [98] 3 X3.out (by simp)).mono ?_
  rintro e w4 ⟨rfl, v4, x4, f4, -⟩
  have X4 : Hid (IX w4 g g v4 [([97], 1), ([98], 3)]) := x4
  have F4 : Hid (Fr (fun _ => False) w w4) := IX.step F3.out (B := g) (by rw [HG.out]; exact X3.out) f4
  rw [show (!fnd [([97], 1), ([98], 2)] [98]) = false from rfl]
  clear x4 f4 X3 F3
  go_wp2_with fail
  refine (keys_c w4 _ _ X4.out.xr X4.out.srt (by simp)).mono ?_
  rintro e w5 ⟨v5, rfl, k5, f5⟩
  obtain ⟨A5, c5, rfl, hc5, -⟩ := own_slice k5
  have K5 := Lib.hid k5
  have X5 := Lib.hid (X4.out.far f5)
  have F5 := Lib.hid (F4.out.trans f5 (fun _ _ h => h))
  clear k5 f5 X4 F4
  go_wp2_with fail
  refine (get_c w5 _ _ [98] X5.out.xr (by simp) X5.out.srt).mono ?_
  rintro e w6 ⟨rfl, f6⟩
  rw [show gv [([97], 1), ([98], 3)] [98] = 3 from rfl, show fnd [([97], 1), ([98], 3)] [98] = true from rfl]
  have X6 := Lib.hid (X5.out.far f6)
  have F6 := Lib.hid (F5.out.trans f6 (fun _ _ h => h))
  have K6 := Lib.hid (own_fr K5.out f6 (fun _ _ h => h))
  clear f6 X5 F5 K5
  go_wp2_with fail
  refine (first_c w6 _ _ [97, 97] X6.out.xr (by simp) X6.out.srt).mono ?_
  rintro e w7 ⟨rfl, f7⟩
  rw [show fk [([97], 1), ([98], 3)] [97, 97] = [98] from rfl, show decide (pos [([97], 1), ([98], 3)] [97, 97] < [(([97] : List UInt8), (1 : Int)), ([98], 3)].length) = true from rfl]
  have X7 := Lib.hid (X6.out.far f7)
  have F7 := Lib.hid (F6.out.trans f7 (fun _ _ h => h))
  have K7 := Lib.hid (own_fr K6.out f7 (fun _ _ h => h))
  clear f7 X6 F6 K6
  go_wp2_with fail
  refine (scan_c w7 _ _ [97] [98] X7.out.xr X7.out.srt (by simp)).mono ?_
  rintro e w8 ⟨s8, rfl, hs8, f8⟩
  rw [show scn [([97], 1), ([98], 3)] [97] [98] = [([97], 1)] from rfl] at hs8
  have HS8 := Lib.hid hs8
  have F8 := Lib.hid (F7.out.trans f8 (fun _ _ h => h))
  have K8 := Lib.hid (own_fr K7.out f8 (fun _ _ h => h))
  clear f8 X7 F7 K7 hs8
  go_wp2_with fail
  refine (rows_c w8 _ (-1) _ HS8.out (by simp) (by decide)).mono ?_
  rintro e w9 ⟨r9, rfl, hr9, f9⟩
  rw [show upto (-1) [(([97] : List UInt8), (1 : Int))] = [([97], 1)] from rfl] at hr9
  obtain ⟨A9, c9, rfl, hr9', hc9⟩ := OwR.rd hr9
  have R9 := Lib.hid hr9'
  have F9 := Lib.hid (F8.out.trans f9 (fun _ _ h => h))
  have K9 := Lib.hid (own_fr K8.out f9 (fun _ _ h => h))
  clear f9 F8 K8 hr9 hr9' HS8
  go_wp2_with fail
  refine (new_c w9).mono ?_
  rintro e w10 ⟨rfl, y10, f10⟩
  obtain ⟨gy, hgy⟩ : ∃ gy, w9.heap.size = gy := ⟨_, rfl⟩
  rw [hgy] at y10 ⊢
  have HGY := Lib.hid hgy
  have Y10 := Lib.hid y10
  have FW10 := Lib.hid f10
  clear hgy y10 f10
  go_wp2_with fail
  refine (new_c w10).mono ?_
  rintro e w11 ⟨rfl, z11, f11⟩
  obtain ⟨gz, hgz⟩ : ∃ gz, w10.heap.size = gz := ⟨_, rfl⟩
  rw [hgz] at z11 ⊢
  have hyz : gy < gz := by have := Y10.out.blk.lt; omega
  have Y11 := Lib.hid (Y10.out.far f11)
  have Z11 := Lib.hid z11
  have FW11 := Lib.hid (FW10.out.trans f11 (fun _ _ h => h))
  clear hgz z11 f11 Y10 FW10
  go_wp2_with fail
  have nil_own : ∀ k, (Value.slice none 0 0).ownBlock ≠ some k := fun k h => by cases h
  have NO := Lib.hid nil_own
  clear nil_own
  refine (set_c w11 gy gy _ [] [97] 1 Y11.out (by simp)).mono ?_
  rintro e w12 ⟨rfl, vy, y12, f12, -⟩
  have Y12 : Hid (IX w12 gy gy vy [([97], 1)]) := y12
  have Z12 : Hid (IX w12 gz gz (.slice none 0 0) []) := Z11.out.fr f12 (by rintro (h | h); omega; exact NO.out _ h) (fun k hk => absurd hk (NO.out k))
  have FW12 : Hid (Fr (fun _ => False) w9 w12) := IX.step FW11.out (B := gy) (by rw [HGY.out]; exact Y11.out) f12
  rw [show (!fnd [] [97]) = true from rfl]
  clear y12 f12 Y11 Z11 FW11
  go_wp2_with fail
  refine (set_c w12 gy gy _ [([97], 1)] [99] 3 Y12.out (by simp)).mono ?_
  rintro e w13 ⟨rfl, vy3, y13, f13, -⟩
  have Y13 : Hid (IX w13 gy gy vy3 [([97], 1), ([99], 3)]) := y13
  have Z13 : Hid (IX w13 gz gz (.slice none 0 0) []) := Z12.out.fr f13 (by rintro (h | h); omega; exact own_blk_ne Y12.out.own Z12.out.blk (by decide) h) (fun k hk => absurd hk (NO.out k))
  have FW13 : Hid (Fr (fun _ => False) w9 w13) := IX.step FW12.out (B := gy) (by rw [HGY.out]; exact Y12.out) f13
  rw [show (!fnd [([97], 1)] [99]) = true from rfl]
  clear y13 f13 Y12 Z12 FW12
  go_wp2_with fail
  refine (set_c w13 gz gz _ [] [97] 7 Z13.out (by simp)).mono ?_
  rintro e w14 ⟨rfl, vz, z14, f14, n14⟩
  have Z14 : Hid (IX w14 gz gz vz [([97], 7)]) := z14
  have Y14 : Hid (IX w14 gy gy vy3 [([97], 1), ([99], 3)]) := Y13.out.fr f14 (by rintro (h | h); omega; exact NO.out _ h) (by rintro k hk (h | h); exact own_blk_ne Y13.out.own Z13.out.blk (by decide) (h ▸ hk); exact NO.out _ h)
  have FW14 : Hid (Fr (fun _ => False) w9 w14) := FW13.out.trans f14 (by
    rintro k hk (h | h)
    · have := HGY.out; omega
    · exact NO.out _ h)
  have N14 : Hid (∀ k, vz.ownBlock = some k → w13.heap.size ≤ k) := fun k hk => by
    rcases n14 with h | ⟨q, h, hq⟩
    · rw [h] at hk; exact absurd hk (NO.out k)
    · rw [h] at hk; cases hk; exact hq
  rw [show (!fnd [] [97]) = true from rfl]
  have S13 : Hid (∀ k, vy3.ownBlock = some k → k < w13.heap.size) := Y13.out.lt
  have hs13 : gz < w13.heap.size := Z13.out.blk.lt
  have hs9 : w9.heap.size ≤ w13.heap.size := FW13.out.size
  clear z14 f14 n14 Y13 Z13 FW13
  go_wp2_with fail
  refine (set_c w14 gz gz _ [([97], 7)] [98] 2 Z14.out (by simp)).mono ?_
  rintro e w15 ⟨rfl, vz5, z15, f15, -⟩
  have Z15 : Hid (IX w15 gz gz vz5 [([97], 7), ([98], 2)]) := z15
  have Y15 : Hid (IX w15 gy gy vy3 [([97], 1), ([99], 3)]) := Y14.out.fr f15 (by
    rintro (h | h)
    · omega
    · exact own_blk_ne Z14.out.own Y14.out.blk (by decide) h) (by
    rintro k hk (h | h)
    · exact own_blk_ne Y14.out.own Z14.out.blk (by decide) (h ▸ hk)
    · have h1 := S13.out k hk
      have h2 := N14.out k h
      omega)
  have FW15 : Hid (Fr (fun _ => False) w9 w15) := FW14.out.trans f15 (by
    rintro k hk (h | h)
    · have := HGY.out; omega
    · have h2 := N14.out k h
      omega)
  rw [show (!fnd [([97], 7)] [98]) = true from rfl]
  clear z15 f15 Y14 Z14 FW14 S13 N14
  go_wp2_with fail
  have FB : Fr (fun _ => False) w15 (w15.alloc (.cells #[.pointer (some ⟨gy, 0, none⟩), .pointer (some ⟨gz, 0, none⟩)] 25)) := (Fr.refl _ w15).alloc _
  have HRD : Hid (Rd (w15.alloc (.cells #[.pointer (some ⟨gy, 0, none⟩), .pointer (some ⟨gz, 0, none⟩)] 25)) (some ⟨w15.heap.size, 0, none⟩) 2 [.pointer (some ⟨gy, 0, none⟩), .pointer (some ⟨gz, 0, none⟩)]) := by
    have := Rd.of_blk (n := 2) (Blk.new w15 25 #[.pointer (some ⟨gy, 0, none⟩), .pointer (some ⟨gz, 0, none⟩)]) (by simp)
    exact this
  have HXS : Hid (XRs (w15.alloc (.cells #[.pointer (some ⟨gy, 0, none⟩), .pointer (some ⟨gz, 0, none⟩)] 25)) [.pointer (some ⟨gy, 0, none⟩), .pointer (some ⟨gz, 0, none⟩)] [[([97], 1), ([99], 3)], [([97], 7), ([98], 2)]]) := ⟨rfl, fun i x m h1 h2 => by
    match i, h1, h2 with
    | 0, h1, h2 => cases h1; cases h2; exact Y15.out.xr.far FB
    | 1, h1, h2 => cases h1; cases h2; exact Z15.out.xr.far FB⟩
  have HSR : Hid (∀ m ∈ ([[([97], 1), ([99], 3)], [([97], 7), ([98], 2)]] : List Ents), Srt m) := by
    intro m hm
    rcases List.mem_cons.1 hm with rfl | hm
    · exact Y15.out.srt
    · rcases List.mem_cons.1 hm with rfl | hm
      · exact Z15.out.srt
      · cases hm
  have HLN : Hid (∀ m ∈ ([[([97], 1), ([99], 3)], [([97], 7), ([98], 2)]] : List Ents), m.length ≤ 100000) := by
    intro m hm
    rcases List.mem_cons.1 hm with rfl | hm
    · simp
    · rcases List.mem_cons.1 hm with rfl | hm
      · simp
      · cases hm
  refine (merge_c _ (some ⟨w15.heap.size, 0, none⟩) 2 [.pointer (some ⟨gy, 0, none⟩), .pointer (some ⟨gz, 0, none⟩)] [[([97], 1), ([99], 3)], [([97], 7), ([98], 2)]] HRD.out HXS.out HSR.out HLN.out (by simp)).mono ?_
  rintro e w16 ⟨s16, rfl, hs16, f16⟩
  rw [show mrg [[([97], 1), ([99], 3)], [([97], 7), ([98], 2)]] = [([97], 1), ([98], 2), ([99], 3)] from rfl] at hs16
  have HS16 := Lib.hid hs16
  have FW16 := Lib.hid (FW15.out.trans (FB.trans f16 (fun _ _ h => h)) (fun _ _ h => h))
  clear hs16 f16 FB HRD HXS HSR HLN Y15 Z15 FW15
  go_wp2_with fail
  refine (rows_c w16 _ (-1) _ HS16.out (by simp) (by decide)).mono ?_
  rintro e w17 ⟨r17, rfl, hr17, f17⟩
  rw [show upto (-1) [(([97] : List UInt8), (1 : Int)), ([98], 2), ([99], 3)] = [([97], 1), ([98], 2), ([99], 3)] from rfl] at hr17
  obtain ⟨A17, c17, rfl, hr17', hc17⟩ := OwR.rd hr17
  have FW17 := FW16.out.trans f17 (fun _ _ h => h)
  have K17 := own_fr K9.out FW17 (fun _ _ h => h)
  have R17 := R9.out.far FW17
  have HF17 := Lib.hid (F9.out.trans FW17 (fun _ _ h => h))
  have HT17 := Lib.hid (HT.out.far HF17.out)
  obtain ⟨b1, o1, rfl, q1⟩ := (Rd.of_own K17).lit (by decide)
  obtain ⟨b2, o2, rfl, q2⟩ := R17.lit (by decide)
  obtain ⟨b3, o3, rfl, q3⟩ := hr17'.lit (by decide)
  have l1 : w17.cell? ⟨b1, o1, none⟩ = some (.string (strOf [97])) := q1 0 (by decide)
  have l2 : w17.cell? ⟨b2, o2 + 1, none⟩ = some (.int .i64 1) := q2 1 (by decide)
  have l3 : w17.cell? ⟨b3, o3 + 1, none⟩ = some (.int .i64 1) := q3 1 (by decide)
  have l4 : w17.cell? ⟨b3, o3 + 2, none⟩ = some (.string (strOf [98])) := q3 2 (by decide)
  have l5 : w17.cell? ⟨b3, o3 + 4 + 1, none⟩ = some (.int .i64 3) := q3 5 (by decide)
  clear q1 q2 q3 FW17 K17 R17 hr17 hr17' f17 R9 K9 F9 FW16 HS16
  have t97 : (strOf [97]).toList = [97] := strOf_toList _
  have t98 : (strOf [98]).toList = [98] := strOf_toList _
  go_wp2_with fail
  refine (number_c w17 42 (by decide) (by decide) HT17.out).mono ?_
  rintro e w18 ⟨rfl, f18⟩
  rw [key42]
  have HF18 := Lib.hid (HF17.out.trans f18 (fun _ _ h => h))
  clear f18 l1 l2 l3 l4 l5 HF17 HT17
  have t42 : (strOf [48, 48, 48, 48, 48, 48, 48, 48, 52, 50]).toList = [48, 48, 48, 48, 48, 48, 48, 48, 52, 50] := strOf_toList _
  go_wp2_with fail
  go_ret
  refine ⟨?_, HF18.out⟩
  show Ending.returned (.bool _) = _
  simp
end Go.Proofs.YtillifkilkjpdaaDoor
