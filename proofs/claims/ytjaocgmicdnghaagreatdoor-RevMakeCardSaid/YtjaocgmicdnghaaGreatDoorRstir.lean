/-
  CONTRACT of the reference's stir.
-/
import Derived.Test.YtjaocgmicdnghaaGreatDoorRror
namespace Go.Proofs.YtjaocgmicdnghaaGreatDoor
set_option linter.unusedSimpArgs false
set_option linter.unusedVariables false
open Go Go.RowKit

set_option maxRecDepth 100000 in
set_option maxHeartbeats 20000000 in
theorem rstir_c (w : World) (g cap a b c d : Nat) (V : List Nat) (hv : Blk w g 76 (uv V)) (hV : Ws 16 V) (ha : a < 16) (hb : b < 16) (hc : c < 16) (hd : d < 16) (x y : Nat) (hx : x < 4294967296) (hy : y < 4294967296) :
    Calls Tryz.prog 95 #[.slice (some ⟨g, 0, none⟩) 16 cap, .int .i64 a, .int .i64 b, .int .i64 c, .int .i64 d, .int .u32 x, .int .u32 y] w fun e w' => e = .returned (.tuple #[]) ∧ Blk w' g 76 (uv (st V a b c d x y)) ∧ Fr (fun k => k = g) w w' := by
  have HV0 := Lib.hid hV
  have HB0 := Lib.hid hv
  have F0 := Lib.hid (Fr.refl (fun k => k = g) w)
  clear hv hV
  have ha' : (a : Int) < 16 := by omega
  have hb' : (b : Int) < 16 := by omega
  have hc' : (c : Int) < 16 := by omega
  have hd' : (d : Int) < 16 := by omega
  go_enter Tryz.func95, Tryz.ntmps95
  have x1 : w.cell? ⟨g, a, none⟩ = some (.int .u32 (at_ V a : Nat)) := by rw [HB0.out.cell, uv_get _ _ (by rw [HV0.out.1]; assumption)]
  have x2 : w.cell? ⟨g, b, none⟩ = some (.int .u32 (at_ V b : Nat)) := by rw [HB0.out.cell, uv_get _ _ (by rw [HV0.out.1]; assumption)]
  have fr : w.frozen? ⟨g, a, none⟩ = false := HB0.out.frozen a
  have l1 := at_lt HV0.out a
  have l2 := at_lt HV0.out b
  go_wp2_with fail
  go_region
  have e1 : ((at_ V a : Int) + (at_ V b : Int) + (x : Int)) % 4294967296 = (((at_ V a + at_ V b + x) % 4294967296 : Nat) : Int) := by omega
  first | rw [e1] | (have e2 : (((at_ V a : Int) + (at_ V b : Int)) % 4294967296 + (x : Int)) % 4294967296 = (((at_ V a + at_ V b + x) % 4294967296 : Nat) : Int) := by omega
                     rw [e2])
  have bN := ((HB0.out).set_ a (.int .u32 (((at_ V a + at_ V b + x) % 4294967296 : Nat) : Int)))
  rw [uv_set] at bN
  obtain ⟨V1, hV1⟩ : ∃ V1, V.set a ((at_ V a + at_ V b + x) % 4294967296) = V1 := ⟨_, rfl⟩
  rw [hV1] at bN
  have HB1 := Lib.hid bN.drew
  have HV1 := Lib.hid (show Ws 16 V1 by rw [← hV1]; exact HV0.out.add a _)
  have F1 := Lib.hid ((F0.out).trans ((Fr.refl (fun k => k = g) w).setCell (p := ⟨g, a, none⟩) (fun _ => rfl) (.int .u32 (((at_ V a + at_ V b + x) % 4294967296 : Nat) : Int))).drew (fun _ _ h => h))
  have EV1 := Lib.hid hV1
  clear x1 x2 fr l1 l2 bN hV1 e1
  generalize (w.setCell ⟨g, a, none⟩ (.int .u32 (((at_ V a + at_ V b + x) % 4294967296 : Nat) : Int))).drew = w1 at *
  have x1 : w1.cell? ⟨g, d, none⟩ = some (.int .u32 (at_ V1 d : Nat)) := by rw [HB1.out.cell, uv_get _ _ (by rw [HV1.out.1]; assumption)]
  have x2 : w1.cell? ⟨g, a, none⟩ = some (.int .u32 (at_ V1 a : Nat)) := by rw [HB1.out.cell, uv_get _ _ (by rw [HV1.out.1]; assumption)]
  have fr : w1.frozen? ⟨g, d, none⟩ = false := HB1.out.frozen d
  have l1 := at_lt HV1.out d
  have l2 := at_lt HV1.out a
  have hx1 : bits .xor .u32 (at_ V1 d : Int) (at_ V1 a : Int) = ((at_ V1 d ^^^ at_ V1 a : Nat) : Int) := u32_xor_nat _ _ l1 l2
  have hxl : at_ V1 d ^^^ at_ V1 a < 4294967296 := Nat.xor_lt_two_pow (n := 32) l1 l2
  go_wp2_with fail
  go_region_with ((go_at_call 109; refine (ror16 _ (at_ V1 d ^^^ at_ V1 a) hxl).mono ?_; rintro e w' ⟨rfl, nd, rfl⟩))
  all_goals
    go_wp2_with fail
    have bN := ((HB1.out.drewN (1 + nd)).set_ d (.int .u32 ((rr (at_ V1 d ^^^ at_ V1 a) 16 : Nat) : Int)))
    rw [uv_set] at bN
    obtain ⟨V2, hV2⟩ : ∃ V2, V1.set d (rr (at_ V1 d ^^^ at_ V1 a) 16) = V2 := ⟨_, rfl⟩
    rw [hV2] at bN
    have HB2 := Lib.hid bN
    have HV2 := Lib.hid (show Ws 16 V2 by rw [← hV2]; exact HV1.out.rot d d a 16)
    have F2 := Lib.hid ((F1.out.drewN (1 + nd)).trans ((Fr.refl (fun k => k = g) (w1.drewN (1 + nd))).setCell (p := ⟨g, d, none⟩) (fun _ => rfl) (.int .u32 ((rr (at_ V1 d ^^^ at_ V1 a) 16 : Nat) : Int))) (fun _ _ h => h))
    have EV2 := Lib.hid hV2
    clear x1 x2 fr l1 l2 bN hV2 hx1 hxl
    generalize ((w1.drewN (1 + nd)).setCell ⟨g, d, none⟩ (.int .u32 ((rr (at_ V1 d ^^^ at_ V1 a) 16 : Nat) : Int))) = w2 at *
    have x1 : w2.cell? ⟨g, c, none⟩ = some (.int .u32 (at_ V2 c : Nat)) := by rw [HB2.out.cell, uv_get _ _ (by rw [HV2.out.1]; assumption)]
    have x2 : w2.cell? ⟨g, d, none⟩ = some (.int .u32 (at_ V2 d : Nat)) := by rw [HB2.out.cell, uv_get _ _ (by rw [HV2.out.1]; assumption)]
    have fr : w2.frozen? ⟨g, c, none⟩ = false := HB2.out.frozen c
    have l1 := at_lt HV2.out c
    have l2 := at_lt HV2.out d
    go_wp2_with fail
    go_region
    have e1 : ((at_ V2 c : Int) + (at_ V2 d : Int)) % 4294967296 = (((at_ V2 c + at_ V2 d) % 4294967296 : Nat) : Int) := by omega
    rw [e1]
    have bN := ((HB2.out).set_ c (.int .u32 (((at_ V2 c + at_ V2 d) % 4294967296 : Nat) : Int)))
    rw [uv_set] at bN
    obtain ⟨V3, hV3⟩ : ∃ V3, V2.set c ((at_ V2 c + at_ V2 d) % 4294967296) = V3 := ⟨_, rfl⟩
    rw [hV3] at bN
    have HB3 := Lib.hid bN.drew
    have HV3 := Lib.hid (show Ws 16 V3 by rw [← hV3]; exact HV2.out.add c _)
    have F3 := Lib.hid ((F2.out).trans ((Fr.refl (fun k => k = g) w2).setCell (p := ⟨g, c, none⟩) (fun _ => rfl) (.int .u32 (((at_ V2 c + at_ V2 d) % 4294967296 : Nat) : Int))).drew (fun _ _ h => h))
    have EV3 := Lib.hid hV3
    clear x1 x2 fr l1 l2 bN hV3 e1
    generalize (w2.setCell ⟨g, c, none⟩ (.int .u32 (((at_ V2 c + at_ V2 d) % 4294967296 : Nat) : Int))).drew = w3 at *
    have x1 : w3.cell? ⟨g, b, none⟩ = some (.int .u32 (at_ V3 b : Nat)) := by rw [HB3.out.cell, uv_get _ _ (by rw [HV3.out.1]; assumption)]
    have x2 : w3.cell? ⟨g, c, none⟩ = some (.int .u32 (at_ V3 c : Nat)) := by rw [HB3.out.cell, uv_get _ _ (by rw [HV3.out.1]; assumption)]
    have fr : w3.frozen? ⟨g, b, none⟩ = false := HB3.out.frozen b
    have l1 := at_lt HV3.out b
    have l2 := at_lt HV3.out c
    have hx1 : bits .xor .u32 (at_ V3 b : Int) (at_ V3 c : Int) = ((at_ V3 b ^^^ at_ V3 c : Nat) : Int) := u32_xor_nat _ _ l1 l2
    have hxl : at_ V3 b ^^^ at_ V3 c < 4294967296 := Nat.xor_lt_two_pow (n := 32) l1 l2
    go_wp2_with fail
    go_region_with ((go_at_call 109; refine (ror12 _ (at_ V3 b ^^^ at_ V3 c) hxl).mono ?_; rintro e w' ⟨rfl, nd, rfl⟩))
    all_goals
      go_wp2_with fail
      have bN := ((HB3.out.drewN (1 + nd)).set_ b (.int .u32 ((rr (at_ V3 b ^^^ at_ V3 c) 12 : Nat) : Int)))
      rw [uv_set] at bN
      obtain ⟨V4, hV4⟩ : ∃ V4, V3.set b (rr (at_ V3 b ^^^ at_ V3 c) 12) = V4 := ⟨_, rfl⟩
      rw [hV4] at bN
      have HB4 := Lib.hid bN
      have HV4 := Lib.hid (show Ws 16 V4 by rw [← hV4]; exact HV3.out.rot b b c 12)
      have F4 := Lib.hid ((F3.out.drewN (1 + nd)).trans ((Fr.refl (fun k => k = g) (w3.drewN (1 + nd))).setCell (p := ⟨g, b, none⟩) (fun _ => rfl) (.int .u32 ((rr (at_ V3 b ^^^ at_ V3 c) 12 : Nat) : Int))) (fun _ _ h => h))
      have EV4 := Lib.hid hV4
      clear x1 x2 fr l1 l2 bN hV4 hx1 hxl
      generalize ((w3.drewN (1 + nd)).setCell ⟨g, b, none⟩ (.int .u32 ((rr (at_ V3 b ^^^ at_ V3 c) 12 : Nat) : Int))) = w4 at *
      have x1 : w4.cell? ⟨g, a, none⟩ = some (.int .u32 (at_ V4 a : Nat)) := by rw [HB4.out.cell, uv_get _ _ (by rw [HV4.out.1]; assumption)]
      have x2 : w4.cell? ⟨g, b, none⟩ = some (.int .u32 (at_ V4 b : Nat)) := by rw [HB4.out.cell, uv_get _ _ (by rw [HV4.out.1]; assumption)]
      have fr : w4.frozen? ⟨g, a, none⟩ = false := HB4.out.frozen a
      have l1 := at_lt HV4.out a
      have l2 := at_lt HV4.out b
      go_wp2_with fail
      go_region
      have e1 : ((at_ V4 a : Int) + (at_ V4 b : Int) + (y : Int)) % 4294967296 = (((at_ V4 a + at_ V4 b + y) % 4294967296 : Nat) : Int) := by omega
      first | rw [e1] | (have e2 : (((at_ V4 a : Int) + (at_ V4 b : Int)) % 4294967296 + (y : Int)) % 4294967296 = (((at_ V4 a + at_ V4 b + y) % 4294967296 : Nat) : Int) := by omega
                         rw [e2])
      have bN := ((HB4.out).set_ a (.int .u32 (((at_ V4 a + at_ V4 b + y) % 4294967296 : Nat) : Int)))
      rw [uv_set] at bN
      obtain ⟨V5, hV5⟩ : ∃ V5, V4.set a ((at_ V4 a + at_ V4 b + y) % 4294967296) = V5 := ⟨_, rfl⟩
      rw [hV5] at bN
      have HB5 := Lib.hid bN.drew
      have HV5 := Lib.hid (show Ws 16 V5 by rw [← hV5]; exact HV4.out.add a _)
      have F5 := Lib.hid ((F4.out).trans ((Fr.refl (fun k => k = g) w4).setCell (p := ⟨g, a, none⟩) (fun _ => rfl) (.int .u32 (((at_ V4 a + at_ V4 b + y) % 4294967296 : Nat) : Int))).drew (fun _ _ h => h))
      have EV5 := Lib.hid hV5
      clear x1 x2 fr l1 l2 bN hV5 e1
      generalize (w4.setCell ⟨g, a, none⟩ (.int .u32 (((at_ V4 a + at_ V4 b + y) % 4294967296 : Nat) : Int))).drew = w5 at *
      have x1 : w5.cell? ⟨g, d, none⟩ = some (.int .u32 (at_ V5 d : Nat)) := by rw [HB5.out.cell, uv_get _ _ (by rw [HV5.out.1]; assumption)]
      have x2 : w5.cell? ⟨g, a, none⟩ = some (.int .u32 (at_ V5 a : Nat)) := by rw [HB5.out.cell, uv_get _ _ (by rw [HV5.out.1]; assumption)]
      have fr : w5.frozen? ⟨g, d, none⟩ = false := HB5.out.frozen d
      have l1 := at_lt HV5.out d
      have l2 := at_lt HV5.out a
      have hx1 : bits .xor .u32 (at_ V5 d : Int) (at_ V5 a : Int) = ((at_ V5 d ^^^ at_ V5 a : Nat) : Int) := u32_xor_nat _ _ l1 l2
      have hxl : at_ V5 d ^^^ at_ V5 a < 4294967296 := Nat.xor_lt_two_pow (n := 32) l1 l2
      go_wp2_with fail
      go_region_with ((go_at_call 109; refine (ror8 _ (at_ V5 d ^^^ at_ V5 a) hxl).mono ?_; rintro e w' ⟨rfl, nd, rfl⟩))
      all_goals
        go_wp2_with fail
        have bN := ((HB5.out.drewN (1 + nd)).set_ d (.int .u32 ((rr (at_ V5 d ^^^ at_ V5 a) 8 : Nat) : Int)))
        rw [uv_set] at bN
        obtain ⟨V6, hV6⟩ : ∃ V6, V5.set d (rr (at_ V5 d ^^^ at_ V5 a) 8) = V6 := ⟨_, rfl⟩
        rw [hV6] at bN
        have HB6 := Lib.hid bN
        have HV6 := Lib.hid (show Ws 16 V6 by rw [← hV6]; exact HV5.out.rot d d a 8)
        have F6 := Lib.hid ((F5.out.drewN (1 + nd)).trans ((Fr.refl (fun k => k = g) (w5.drewN (1 + nd))).setCell (p := ⟨g, d, none⟩) (fun _ => rfl) (.int .u32 ((rr (at_ V5 d ^^^ at_ V5 a) 8 : Nat) : Int))) (fun _ _ h => h))
        have EV6 := Lib.hid hV6
        clear x1 x2 fr l1 l2 bN hV6 hx1 hxl
        generalize ((w5.drewN (1 + nd)).setCell ⟨g, d, none⟩ (.int .u32 ((rr (at_ V5 d ^^^ at_ V5 a) 8 : Nat) : Int))) = w6 at *
        have x1 : w6.cell? ⟨g, c, none⟩ = some (.int .u32 (at_ V6 c : Nat)) := by rw [HB6.out.cell, uv_get _ _ (by rw [HV6.out.1]; assumption)]
        have x2 : w6.cell? ⟨g, d, none⟩ = some (.int .u32 (at_ V6 d : Nat)) := by rw [HB6.out.cell, uv_get _ _ (by rw [HV6.out.1]; assumption)]
        have fr : w6.frozen? ⟨g, c, none⟩ = false := HB6.out.frozen c
        have l1 := at_lt HV6.out c
        have l2 := at_lt HV6.out d
        go_wp2_with fail
        go_region
        have e1 : ((at_ V6 c : Int) + (at_ V6 d : Int)) % 4294967296 = (((at_ V6 c + at_ V6 d) % 4294967296 : Nat) : Int) := by omega
        rw [e1]
        have bN := ((HB6.out).set_ c (.int .u32 (((at_ V6 c + at_ V6 d) % 4294967296 : Nat) : Int)))
        rw [uv_set] at bN
        obtain ⟨V7, hV7⟩ : ∃ V7, V6.set c ((at_ V6 c + at_ V6 d) % 4294967296) = V7 := ⟨_, rfl⟩
        rw [hV7] at bN
        have HB7 := Lib.hid bN.drew
        have HV7 := Lib.hid (show Ws 16 V7 by rw [← hV7]; exact HV6.out.add c _)
        have F7 := Lib.hid ((F6.out).trans ((Fr.refl (fun k => k = g) w6).setCell (p := ⟨g, c, none⟩) (fun _ => rfl) (.int .u32 (((at_ V6 c + at_ V6 d) % 4294967296 : Nat) : Int))).drew (fun _ _ h => h))
        have EV7 := Lib.hid hV7
        clear x1 x2 fr l1 l2 bN hV7 e1
        generalize (w6.setCell ⟨g, c, none⟩ (.int .u32 (((at_ V6 c + at_ V6 d) % 4294967296 : Nat) : Int))).drew = w7 at *
        have x1 : w7.cell? ⟨g, b, none⟩ = some (.int .u32 (at_ V7 b : Nat)) := by rw [HB7.out.cell, uv_get _ _ (by rw [HV7.out.1]; assumption)]
        have x2 : w7.cell? ⟨g, c, none⟩ = some (.int .u32 (at_ V7 c : Nat)) := by rw [HB7.out.cell, uv_get _ _ (by rw [HV7.out.1]; assumption)]
        have fr : w7.frozen? ⟨g, b, none⟩ = false := HB7.out.frozen b
        have l1 := at_lt HV7.out b
        have l2 := at_lt HV7.out c
        have hx1 : bits .xor .u32 (at_ V7 b : Int) (at_ V7 c : Int) = ((at_ V7 b ^^^ at_ V7 c : Nat) : Int) := u32_xor_nat _ _ l1 l2
        have hxl : at_ V7 b ^^^ at_ V7 c < 4294967296 := Nat.xor_lt_two_pow (n := 32) l1 l2
        go_wp2_with fail
        go_region_with ((go_at_call 109; refine (ror7 _ (at_ V7 b ^^^ at_ V7 c) hxl).mono ?_; rintro e w' ⟨rfl, nd, rfl⟩))
        all_goals
          go_wp2_with fail
          have bN := ((HB7.out.drewN (1 + nd)).set_ b (.int .u32 ((rr (at_ V7 b ^^^ at_ V7 c) 7 : Nat) : Int)))
          rw [uv_set] at bN
          obtain ⟨V8, hV8⟩ : ∃ V8, V7.set b (rr (at_ V7 b ^^^ at_ V7 c) 7) = V8 := ⟨_, rfl⟩
          rw [hV8] at bN
          have HB8 := Lib.hid bN
          have HV8 := Lib.hid (show Ws 16 V8 by rw [← hV8]; exact HV7.out.rot b b c 7)
          have F8 := Lib.hid ((F7.out.drewN (1 + nd)).trans ((Fr.refl (fun k => k = g) (w7.drewN (1 + nd))).setCell (p := ⟨g, b, none⟩) (fun _ => rfl) (.int .u32 ((rr (at_ V7 b ^^^ at_ V7 c) 7 : Nat) : Int))) (fun _ _ h => h))
          have EV8 := Lib.hid hV8
          clear x1 x2 fr l1 l2 bN hV8 hx1 hxl
          generalize ((w7.drewN (1 + nd)).setCell ⟨g, b, none⟩ (.int .u32 ((rr (at_ V7 b ^^^ at_ V7 c) 7 : Nat) : Int))) = w8 at *
          go_wp2_with fail
          go_end0
          have e : st V a b c d x y = V8 := by
            rw [← EV8.out, ← EV7.out, ← EV6.out, ← EV5.out, ← EV4.out, ← EV3.out, ← EV2.out, ← EV1.out]
            rfl
          rw [e]
          exact ⟨rfl, HB8.out, F8.out⟩
end Go.Proofs.YtjaocgmicdnghaaGreatDoor
