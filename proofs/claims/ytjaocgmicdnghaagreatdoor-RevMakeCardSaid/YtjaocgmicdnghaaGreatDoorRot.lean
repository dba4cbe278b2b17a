/-
  CONTRACTS: math/bits.RotateLeft32 at the four turns; a stirring's half (a closure); a stirring.
-/
import Derived.Test.YtjaocgmicdnghaaGreatDoorBlP
import Derived.Test.YtjaocgmicdnghaaGreatDoorChecked
import Derived.Laws.BitsAllLaws
import Derived.Deep.RegionHeld3
import Derived.StillTailTactics
namespace Go.Proofs.YtjaocgmicdnghaaGreatDoor
set_option linter.unusedSimpArgs false
set_option linter.unusedVariables false
open Go Go.RowKit

theorem rr_or (x A B p : Nat) (hx : x < 4294967296) (hA : A = 2 ^ (32 - p)) (hB : B = 2 ^ p) : bits .or .u32 ((x : Int) * (A : Int) % 4294967296) ((x : Int) / (B : Int)) = ((rr x p : Nat) : Int) := by
  subst hA hB
  have h1 : (x : Int) * ((2 ^ (32 - p) : Nat) : Int) % 4294967296 = ((x * 2 ^ (32 - p) % 4294967296 : Nat) : Int) := by
    rw [Int.natCast_emod, Int.natCast_mul]
    rfl
  have h2 : (x : Int) / ((2 ^ p : Nat) : Int) = ((x / 2 ^ p : Nat) : Int) := (Int.natCast_ediv _ _).symm
  rw [h1, h2, u32_or_nat _ _ (Nat.mod_lt _ (by omega)) (Nat.lt_of_le_of_lt (Nat.div_le_self _ _) hx), Nat.or_comm]
  rfl

set_option maxHeartbeats 400000 in
theorem rot16 (w : World) (x : Nat) (hx : x < 4294967296) : Calls Tryz.prog 108 #[.int .u32 x, .int .i64 (-16)] w fun e w' => e = .returned (.int .u32 (rr x 16 : Nat)) ∧ w = w' := by
  have hb : bits .and .u64 (IntKind.u64.wrap (-16)) 31 = 16 := by decide
  go_enter Tryz.func108, Tryz.ntmps108
  go_wp2_with fail
  go_ret
  exact ⟨congrArg (fun z => Ending.returned (.int .u32 z)) (rr_or x 65536 65536 16 hx (by decide) (by decide)), rfl⟩
set_option maxHeartbeats 400000 in
theorem rot12 (w : World) (x : Nat) (hx : x < 4294967296) : Calls Tryz.prog 108 #[.int .u32 x, .int .i64 (-12)] w fun e w' => e = .returned (.int .u32 (rr x 12 : Nat)) ∧ w = w' := by
  have hb : bits .and .u64 (IntKind.u64.wrap (-12)) 31 = 20 := by decide
  go_enter Tryz.func108, Tryz.ntmps108
  go_wp2_with fail
  go_ret
  exact ⟨congrArg (fun z => Ending.returned (.int .u32 z)) (rr_or x 1048576 4096 12 hx (by decide) (by decide)), rfl⟩
set_option maxHeartbeats 400000 in
theorem rot8 (w : World) (x : Nat) (hx : x < 4294967296) : Calls Tryz.prog 108 #[.int .u32 x, .int .i64 (-8)] w fun e w' => e = .returned (.int .u32 (rr x 8 : Nat)) ∧ w = w' := by
  have hb : bits .and .u64 (IntKind.u64.wrap (-8)) 31 = 24 := by decide
  go_enter Tryz.func108, Tryz.ntmps108
  go_wp2_with fail
  go_ret
  exact ⟨congrArg (fun z => Ending.returned (.int .u32 z)) (rr_or x 16777216 256 8 hx (by decide) (by decide)), rfl⟩
set_option maxHeartbeats 400000 in
theorem rot7 (w : World) (x : Nat) (hx : x < 4294967296) : Calls Tryz.prog 108 #[.int .u32 x, .int .i64 (-7)] w fun e w' => e = .returned (.int .u32 (rr x 7 : Nat)) ∧ w = w' := by
  have hb : bits .and .u64 (IntKind.u64.wrap (-7)) 31 = 25 := by decide
  go_enter Tryz.func108, Tryz.ntmps108
  go_wp2_with fail
  go_ret
  exact ⟨congrArg (fun z => Ending.returned (.int .u32 z)) (rr_or x 33554432 128 7 hx (by decide) (by decide)), rfl⟩
/-- The four turns. -/
def Turn (p : Nat) : Prop := p = 16 ∨ p = 12 ∨ p = 8 ∨ p = 7
theorem rot_c (w : World) (x p : Nat) (z : Int) (hx : x < 4294967296) (hp : Turn p) (hz : z = -(p : Int)) : Calls Tryz.prog 108 #[.int .u32 x, .int .i64 z] w fun e w' => e = .returned (.int .u32 (rr x p : Nat)) ∧ w = w' := by
  subst hz
  rcases hp with rfl | rfl | rfl | rfl
  · exact rot16 w x hx
  · exact rot12 w x hx
  · exact rot8 w x hx
  · exact rot7 w x hx
theorem turn_neg {p : Nat} (h : Turn p) : IntKind.i64.wrap (-(p : Int)) = -(p : Int) := by
  rcases h with rfl | rfl | rfl | rfl <;> decide
/-- Words as cells. -/
def uv (V : List Nat) : Array Value := (V.map fun (x : Nat) => Value.int .u32 (x : Int)).toArray
theorem uv_size (V : List Nat) : (uv V).size = V.length := by simp [uv]
theorem uv_get (V : List Nat) (i : Nat) (h : i < V.length) : (uv V)[i]? = some (.int .u32 (at_ V i : Nat)) := by
  simp [uv, at_, h]
theorem uv_set (V : List Nat) (i x : Nat) : (uv V).setIfInBounds i (.int .u32 (x : Int)) = uv (V.set i x) := by
  unfold uv
  rw [List.map_set]
  simp
theorem add_u32 (x y : Nat) : IntKind.u32.wrap ((x : Int) + (y : Int)) = (((x + y) % 4294967296 : Nat) : Int) := by
  rw [IntKind.wrap_u32']
  omega

/-- The captured variables of a stirring. -/
structure Caps (w : World) (g4 ka kb kd kc gv a b c d : Nat) (V : List Nat) : Prop where
  pv : Blk w g4 117 #[.pointer (some ⟨gv, 0, none⟩)]
  pa : Blk w ka 3 #[.int .i64 (a : Int)]
  pb : Blk w kb 3 #[.int .i64 (b : Int)]
  pd : Blk w kd 3 #[.int .i64 (d : Int)]
  pc : Blk w kc 3 #[.int .i64 (c : Int)]
  v : Blk w gv 111 (uv V)
theorem Caps.set {w : World} {g4 ka kb kd kc gv a b c d : Nat} {V : List Nat} (h : Caps w g4 ka kb kd kc gv a b c d V) (i x : Nat) : Caps (w.setCell ⟨gv, i, none⟩ (.int .u32 (x : Int))) g4 ka kb kd kc gv a b c d (V.set i x) := by
  refine ⟨h.pv.far ?_ _, h.pa.far ?_ _, h.pb.far ?_ _, h.pd.far ?_ _, h.pc.far ?_ _, ?_⟩
  · exact (Blk.ne_ h.pv h.v (by decide))
  · exact (Blk.ne_ h.pa h.v (by decide))
  · exact (Blk.ne_ h.pb h.v (by decide))
  · exact (Blk.ne_ h.pd h.v (by decide))
  · exact (Blk.ne_ h.pc h.v (by decide))
  · rw [← uv_set]; exact h.v.set_ i _
theorem Caps.drew {w : World} {g4 ka kb kd kc gv a b c d : Nat} {V : List Nat} (h : Caps w g4 ka kb kd kc gv a b c d V) : Caps w.drew g4 ka kb kd kc gv a b c d V := ⟨h.pv, h.pa, h.pb, h.pd, h.pc, h.v⟩

set_option maxRecDepth 100000 in
set_option maxHeartbeats 2000000 in
theorem half_c (w : World) (g4 ka kb kd kc gv a b c d : Nat) (V : List Nat) (hc : Caps w g4 ka kb kd kc gv a b c d V) (hV : Ws 16 V) (ha : a < 16) (hb : b < 16) (hcc : c < 16) (hd : d < 16) (m p q : Nat) (hm : m < 4294967296) (hp : Turn p) (hq : Turn q) :
    Calls Tryz.prog 107 #[.int .u32 m, .int .i64 p, .int .i64 q, .pointer (some ⟨g4, 0, none⟩), .pointer (some ⟨ka, 0, none⟩), .pointer (some ⟨kb, 0, none⟩), .pointer (some ⟨kd, 0, none⟩), .pointer (some ⟨kc, 0, none⟩)] w fun e w' => e = .returned (.tuple #[]) ∧ Caps w' g4 ka kb kd kc gv a b c d (hf V a b c d m p q) ∧ Fr (fun k => k = gv) w w' := by
  have HC := Lib.hid hc
  have HV := Lib.hid hV
  have hp1 : (p : Int) ≤ 16 := by rcases hp with rfl | rfl | rfl | rfl <;> omega
  have hq1 : (q : Int) ≤ 16 := by rcases hq with rfl | rfl | rfl | rfl <;> omega
  have HP := Lib.hid hp
  have HQ := Lib.hid hq
  clear hc hV hp hq
  have c1 : w.cell? ⟨g4, 0, none⟩ = some (.pointer (some ⟨gv, 0, none⟩)) := HC.out.pv.cell 0
  have c2 : w.cell? ⟨ka, 0, none⟩ = some (.int .i64 (a : Int)) := HC.out.pa.cell 0
  have c3 : w.cell? ⟨kb, 0, none⟩ = some (.int .i64 (b : Int)) := HC.out.pb.cell 0
  have x1 : w.cell? ⟨gv, a, none⟩ = some (.int .u32 (at_ V a : Nat)) := by rw [HC.out.v.cell, uv_get _ _ (by rw [HV.out.1]; exact ha)]
  have x2 : w.cell? ⟨gv, b, none⟩ = some (.int .u32 (at_ V b : Nat)) := by rw [HC.out.v.cell, uv_get _ _ (by rw [HV.out.1]; exact hb)]
  have fr : w.frozen? ⟨gv, a, none⟩ = false := HC.out.v.frozen a
  have hva := at_lt HV.out a
  have hvb := at_lt HV.out b
  have ha' : (a : Int) < 16 := by omega
  have hb' : (b : Int) < 16 := by omega
  have hc' : (c : Int) < 16 := by omega
  have hd' : (d : Int) < 16 := by omega
  go_enter Tryz.func107, Tryz.ntmps107
  go_wp2_with fail
  go_region
  have e1 : ((at_ V a : Int) + ((at_ V b : Int) + (m : Int))) % 4294967296 = (((at_ V a + at_ V b + m) % 4294967296 : Nat) : Int) := by omega
  rw [e1]
  obtain ⟨V1, hV1⟩ : ∃ V1, V.set a ((at_ V a + at_ V b + m) % 4294967296) = V1 := ⟨_, rfl⟩
  have C1 := (HC.out.set a ((at_ V a + at_ V b + m) % 4294967296)).drew
  have W1 : Ws 16 V1 := by rw [← hV1]; exact HV.out.add a _
  rw [hV1] at C1
  have F1 := Lib.hid (((Fr.refl (fun k => k = gv) w).setCell (p := ⟨gv, a, none⟩) (fun _ => rfl) (.int .u32 (((at_ V a + at_ V b + m) % 4294967296 : Nat) : Int))).drew)
  have HC1 := Lib.hid C1
  have HW1 := Lib.hid W1
  have HV1 := Lib.hid hV1
  clear c1 c2 c3 x1 x2 fr hva hvb e1 C1 W1 hV1
  generalize (w.setCell ⟨gv, a, none⟩ (.int .u32 (((at_ V a + at_ V b + m) % 4294967296 : Nat) : Int))).drew = w1 at *
  have c1 : w1.cell? ⟨g4, 0, none⟩ = some (.pointer (some ⟨gv, 0, none⟩)) := HC1.out.pv.cell 0
  have c2 : w1.cell? ⟨kd, 0, none⟩ = some (.int .i64 (d : Int)) := HC1.out.pd.cell 0
  have c3 : w1.cell? ⟨ka, 0, none⟩ = some (.int .i64 (a : Int)) := HC1.out.pa.cell 0
  have hva := at_lt HW1.out d
  have hvb := at_lt HW1.out a
  have x1 : w1.cell? ⟨gv, d, none⟩ = some (.int .u32 (at_ V1 d : Nat)) := by rw [HC1.out.v.cell, uv_get _ _ (by rw [HW1.out.1]; assumption)]
  have x2 : w1.cell? ⟨gv, a, none⟩ = some (.int .u32 (at_ V1 a : Nat)) := by rw [HC1.out.v.cell, uv_get _ _ (by rw [HW1.out.1]; assumption)]
  have fr : w1.frozen? ⟨gv, d, none⟩ = false := HC1.out.v.frozen d
  have hx : bits .xor .u32 (at_ V1 d : Int) (at_ V1 a : Int) = ((at_ V1 d ^^^ at_ V1 a : Nat) : Int) := u32_xor_nat _ _ hva hvb
  have hxl : at_ V1 d ^^^ at_ V1 a < 4294967296 := Nat.xor_lt_two_pow (n := 32) hva hvb
  go_wp2_with fail
  go_still_tail 18, (by kernel_rfl)
  still_call ((rot_c _ (at_ V1 d ^^^ at_ V1 a) p _ hxl HP.out (turn_neg HP.out)).mono fun e w' h => ⟨h.1, h.2.symm⟩)
  repeat still_step
  refine wpStill_nil ?_
  change wpList _ _ _ _ _ w1.drew
  have y1 : w1.drew.cell? ⟨gv, d, none⟩ = some (.int .u32 (at_ V1 d : Nat)) := x1
  have yf : w1.drew.frozen? ⟨gv, d, none⟩ = false := fr
  have HCd := Lib.hid HC1.out.drew
  have FPd := Lib.hid F1.out.drew
  clear c1 c2 c3 x1 x2 fr
  generalize w1.drew = wd at *
  go_wp2_with fail
  obtain ⟨V2, hV2⟩ : ∃ V2, V1.set d (rr (at_ V1 d ^^^ at_ V1 a) p) = V2 := ⟨_, rfl⟩
  have C2 := HCd.out.set d (rr (at_ V1 d ^^^ at_ V1 a) p)
  have Wa : Ws 16 V2 := by rw [← hV2]; exact HW1.out.rot d d a p
  rw [hV2] at C2
  have F2 := Lib.hid (FPd.out.trans ((Fr.refl (fun k => k = gv) wd).setCell (p := ⟨gv, d, none⟩) (fun _ => rfl) (.int .u32 ((rr (at_ V1 d ^^^ at_ V1 a) p : Nat) : Int))) (fun _ _ h => h))
  have HC2 := Lib.hid C2
  have HW2 := Lib.hid Wa
  have HV2 := Lib.hid hV2
  clear y1 yf hva hvb C2 Wa hV2 hx hxl
  generalize wd.setCell ⟨gv, d, none⟩ (.int .u32 ((rr (at_ V1 d ^^^ at_ V1 a) p : Nat) : Int)) = w2 at *
  have c1 : w2.cell? ⟨g4, 0, none⟩ = some (.pointer (some ⟨gv, 0, none⟩)) := HC2.out.pv.cell 0
  have c2 : w2.cell? ⟨kc, 0, none⟩ = some (.int .i64 (c : Int)) := HC2.out.pc.cell 0
  have c3 : w2.cell? ⟨kd, 0, none⟩ = some (.int .i64 (d : Int)) := HC2.out.pd.cell 0
  have hva := at_lt HW2.out c
  have hvb := at_lt HW2.out d
  have x1 : w2.cell? ⟨gv, c, none⟩ = some (.int .u32 (at_ V2 c : Nat)) := by rw [HC2.out.v.cell, uv_get _ _ (by rw [HW2.out.1]; assumption)]
  have x2 : w2.cell? ⟨gv, d, none⟩ = some (.int .u32 (at_ V2 d : Nat)) := by rw [HC2.out.v.cell, uv_get _ _ (by rw [HW2.out.1]; assumption)]
  have fr : w2.frozen? ⟨gv, c, none⟩ = false := HC2.out.v.frozen c
  go_wp2_with fail
  go_still_tail 13, (by kernel_rfl)
  change wpList _ _ _ _ _ w2.drew
  have y1 : w2.drew.cell? ⟨gv, c, none⟩ = some (.int .u32 (at_ V2 c : Nat)) := x1
  have yf : w2.drew.frozen? ⟨gv, c, none⟩ = false := fr
  have HCd := Lib.hid HC2.out.drew
  have FPd := Lib.hid F2.out.drew
  clear c1 c2 c3 x1 x2 fr
  generalize w2.drew = wd at *
  go_wp2_with fail
  have e1 : ((at_ V2 c : Int) + (at_ V2 d : Int)) % 4294967296 = (((at_ V2 c + at_ V2 d) % 4294967296 : Nat) : Int) := by omega
  rw [e1]
  clear e1
  obtain ⟨V3, hV3⟩ : ∃ V3, V2.set c ((at_ V2 c + at_ V2 d) % 4294967296) = V3 := ⟨_, rfl⟩
  have C3 := HCd.out.set c ((at_ V2 c + at_ V2 d) % 4294967296)
  have WS3 : Ws 16 V3 := by rw [← hV3]; exact HW2.out.add c _
  rw [hV3] at C3
  have F3 := Lib.hid (FPd.out.trans ((Fr.refl (fun k => k = gv) wd).setCell (p := ⟨gv, c, none⟩) (fun _ => rfl) (.int .u32 (((at_ V2 c + at_ V2 d) % 4294967296 : Nat) : Int))) (fun _ _ h => h))
  have HC3 := Lib.hid C3
  have HW3 := Lib.hid WS3
  have HV3 := Lib.hid hV3
  clear y1 yf hva hvb C3 WS3 hV3
  generalize wd.setCell ⟨gv, c, none⟩ (.int .u32 (((at_ V2 c + at_ V2 d) % 4294967296 : Nat) : Int)) = w3 at *
  have c1 : w3.cell? ⟨g4, 0, none⟩ = some (.pointer (some ⟨gv, 0, none⟩)) := HC3.out.pv.cell 0
  have c2 : w3.cell? ⟨kb, 0, none⟩ = some (.int .i64 (b : Int)) := HC3.out.pb.cell 0
  have c3 : w3.cell? ⟨kc, 0, none⟩ = some (.int .i64 (c : Int)) := HC3.out.pc.cell 0
  have hva := at_lt HW3.out b
  have hvb := at_lt HW3.out c
  have x1 : w3.cell? ⟨gv, b, none⟩ = some (.int .u32 (at_ V3 b : Nat)) := by rw [HC3.out.v.cell, uv_get _ _ (by rw [HW3.out.1]; assumption)]
  have x2 : w3.cell? ⟨gv, c, none⟩ = some (.int .u32 (at_ V3 c : Nat)) := by rw [HC3.out.v.cell, uv_get _ _ (by rw [HW3.out.1]; assumption)]
  have fr : w3.frozen? ⟨gv, b, none⟩ = false := HC3.out.v.frozen b
  have hx : bits .xor .u32 (at_ V3 b : Int) (at_ V3 c : Int) = ((at_ V3 b ^^^ at_ V3 c : Nat) : Int) := u32_xor_nat _ _ hva hvb
  have hxl : at_ V3 b ^^^ at_ V3 c < 4294967296 := Nat.xor_lt_two_pow (n := 32) hva hvb
  go_wp2_with fail
  go_still_tail 18, (by kernel_rfl)
  still_call ((rot_c _ (at_ V3 b ^^^ at_ V3 c) q _ hxl HQ.out (turn_neg HQ.out)).mono fun e w' h => ⟨h.1, h.2.symm⟩)
  repeat still_step
  refine wpStill_nil ?_
  change wpList _ _ _ _ _ w3.drew
  have y1 : w3.drew.cell? ⟨gv, b, none⟩ = some (.int .u32 (at_ V3 b : Nat)) := x1
  have yf : w3.drew.frozen? ⟨gv, b, none⟩ = false := fr
  have HCd := Lib.hid HC3.out.drew
  have FPd := Lib.hid F3.out.drew
  clear c1 c2 c3 x1 x2 fr
  generalize w3.drew = wd at *
  go_wp2_with fail
  obtain ⟨V4, hV4⟩ : ∃ V4, V3.set b (rr (at_ V3 b ^^^ at_ V3 c) q) = V4 := ⟨_, rfl⟩
  have C4 := HCd.out.set b (rr (at_ V3 b ^^^ at_ V3 c) q)
  have WS4 : Ws 16 V4 := by rw [← hV4]; exact HW3.out.rot b b c q
  rw [hV4] at C4
  have F4 := Lib.hid (FPd.out.trans ((Fr.refl (fun k => k = gv) wd).setCell (p := ⟨gv, b, none⟩) (fun _ => rfl) (.int .u32 ((rr (at_ V3 b ^^^ at_ V3 c) q : Nat) : Int))) (fun _ _ h => h))
  have HC4 := Lib.hid C4
  have HW4 := Lib.hid WS4
  have HV4 := Lib.hid hV4
  clear y1 yf hva hvb C4 WS4 hV4 hx hxl
  generalize wd.setCell ⟨gv, b, none⟩ (.int .u32 ((rr (at_ V3 b ^^^ at_ V3 c) q : Nat) : Int)) = w4 at *
  go_wp2_with fail
  go_end0
  refine ⟨rfl, ?_, F4.out⟩
  have e : hf V a b c d m p q = V4 := by
    rw [← HV4.out, ← HV3.out, ← HV2.out, ← HV1.out]
    rfl
  rw [e]
  exact HC4.out
end Go.Proofs.YtjaocgmicdnghaaGreatDoor
