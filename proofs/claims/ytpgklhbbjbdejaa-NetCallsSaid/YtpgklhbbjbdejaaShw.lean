/-
  THE LAW's shows. Written by gen_shows.py.
-/
import Derived.Test.YtpgklhbbjbdejaaCl
namespace Go.Proofs.Ytpgklhbbjbdejaa
set_option linter.unusedSimpArgs false
set_option linter.unusedVariables false
open Go Go.RowKit Go.Maps

def s2X (g h r L cl dl : Nat) (Al Bl : Option Addr) (i : Nat) (v : Value) (W : World) : Prop := match i with
  | 0 => v = .slice Al L cl
  | 1 => v = .int .i64 (L : Nat)
  | 2 => v = .slice Bl L dl
  | 3 => v = .int .i64 (L : Nat)
  | 4 => v = .bool false
  | 5 => v = .bool false
  | 6 => v = .pointer (some ⟨g, 0, none⟩)
  | 7 => v = .int .i64 (L : Nat)
  | 8 => v = .slice Bl L dl
  | 9 => v = .int .i64 (L : Nat)
  | 10 => v = .bool false
  | 11 => v = .bool false
  | 12 => v = .bool false
  | 13 => v = .pointer (some ⟨g, 0, none⟩)
  | 14 => v = .int .i64 (r : Nat)
  | 15 => v = .pointer (some ⟨h, 0, none⟩)
  | 16 => v = .pointer (some ⟨h, 0, none⟩)
  | 17 => v = .pointer (some ⟨h, 0, none⟩)
  | 18 => v = .int .i64 (r : Nat)
  | 19 => v = .bool false
  | _ => True
theorem s2X_far {g h r L cl dl : Nat} {Al Bl : Option Addr} {i : Nat} {v : Value} {W W' : World} (hg : Fr (fun _ => False) W W') (hx : s2X g h r L cl dl Al Bl i v W) : s2X g h r L cl dl Al Bl i v W' := by
  match i with
  | 0 => exact hx
  | 1 => exact hx
  | 2 => exact hx
  | 3 => exact hx
  | 4 => exact hx
  | 5 => exact hx
  | 6 => exact hx
  | 7 => exact hx
  | 8 => exact hx
  | 9 => exact hx
  | 10 => exact hx
  | 11 => exact hx
  | 12 => exact hx
  | 13 => exact hx
  | 14 => exact hx
  | 15 => exact hx
  | 16 => exact hx
  | 17 => exact hx
  | 18 => exact hx
  | 19 => exact hx
  | (n + 20) => exact hx
def s9X (bl bm L cl dl q9 id f t m c9 c8 : Nat) (A9 A8 : Option Addr) (i : Nat) (v : Value) (W : World) : Prop := match i with
  | 0 => v = .slice (some ⟨bl, 0, none⟩) L cl
  | 1 => v = .int .i64 (q9 : Nat)
  | 2 => v = .pointer (some ⟨bl, q9 * 4, none⟩)
  | 3 => v = .agg #[.int .u64 (id : Nat), .int .i64 (f : Nat), .int .i64 (t : Nat), .int .i64 (m : Nat)]
  | 4 => v = .slice (some ⟨bm, 0, none⟩) L dl
  | 5 => v = .int .i64 (q9 : Nat)
  | 6 => v = .pointer (some ⟨bm, q9 * 4, none⟩)
  | 7 => v = .agg #[.int .u64 (id : Nat), .int .i64 (f : Nat), .int .i64 (t : Nat), .int .i64 (m : Nat)]
  | 8 => v = .bool false
  | 9 => v = .bool false
  | 10 => v = .int .i64 0
  | 11 => v = .bool false
  | 12 => v = .bool false
  | 13 => v = .bool false
  | 14 => v = .agg #[.int .i64 (f : Nat), .int .i64 (t : Nat), .slice A9 m c9]
  | 15 => v = .agg #[.int .i64 (f : Nat), .int .i64 (t : Nat), .slice A8 m c8]
  | 16 => v = .bool true
  | 17 => v = .bool false
  | _ => True
theorem s9X_far {bl bm L cl dl q9 id f t m c9 c8 : Nat} {A9 A8 : Option Addr} {i : Nat} {v : Value} {W W' : World} (hg : Fr (fun _ => False) W W') (hx : s9X bl bm L cl dl q9 id f t m c9 c8 A9 A8 i v W) : s9X bl bm L cl dl q9 id f t m c9 c8 A9 A8 i v W' := by
  match i with
  | 0 => exact hx
  | 1 => exact hx
  | 2 => exact hx
  | 3 => exact hx
  | 4 => exact hx
  | 5 => exact hx
  | 6 => exact hx
  | 7 => exact hx
  | 8 => exact hx
  | 9 => exact hx
  | 10 => exact hx
  | 11 => exact hx
  | 12 => exact hx
  | 13 => exact hx
  | 14 => exact hx
  | 15 => exact hx
  | 16 => exact hx
  | 17 => exact hx
  | (n + 18) => exact hx
set_option maxRecDepth 100000 in
set_option maxHeartbeats 8000000 in
theorem shows_c {w0 W : World} {g mb h r i : Nat} {T : List Ms} (b : Bo w0 W g mb h r T i) (hi : i ≤ 3000) : Calls Try.prog 13 #[.pointer (some ⟨g, 0, none⟩), .pointer (some ⟨h, 0, none⟩)] W fun e w' => e = .returned (.bool true) ∧ Fr (fun _ => False) W w' := by
  have HB := Lib.hid b
  have LT := Lib.hid b.net.lt
  have hT : T.length ≤ 4000 := by have := b.net.le; omega
  have HL1 := Lib.hid (gv_letters b.net (by omega) LT.out.1 LT.out.2)
  have HLC := Lib.hid (lids_cnt T)
  clear b
  go_enter Try.func13, Try.ntmps13
  go_wp2_with fail
  refine HL1.out.mono ?_
  rintro e w2 ⟨v1, rfl, o1, f1⟩
  obtain ⟨Al, cl, rfl, _, _⟩ := own_slice o1
  have HL2 := Lib.hid (rletters_c (HB.out.rf.far f1) hT)
  have F1 := Lib.hid f1
  have O1 := Lib.hid (own_base (base' := 0) o1 (fun _ _ => Nat.zero_le _))
  clear o1 f1 HL1
  go_wp2_with fail
  refine HL2.out.mono ?_
  rintro e w3 ⟨v2, rfl, o2, f2⟩
  obtain ⟨Bl, dl, rfl, _, _⟩ := own_slice o2
  have B3 := Lib.hid ((HB.out.far F1.out).far f2)
  have F3 := Lib.hid (F1.out.trans f2 (fun _ _ e => e))
  have O3 := Lib.hid (own_fa O1.out f2)
  have P3 := Lib.hid (own_base (base' := 0) o2 (fun _ _ => Nat.zero_le _))
  clear o2 f2 HL2 O1 F1 HB
  obtain ⟨L, hL⟩ : ∃ L, (lids T).length = L := ⟨_, rfl⟩
  rw [hL] at O3 P3 HLC ⊢
  have HCN : Hid (∀ W', Fr (fun _ => False) w3 W' → Calls Try.prog 21 #[.pointer (some ⟨g, 0, none⟩)] W' fun e w' => e = .returned (.int .i64 (L : Nat)) ∧ Fr (fun _ => False) W' w') := fun W' hW => (gv_count (B3.out.net.far hW)).mono (fun e w' hh => ⟨by rw [HLC.out]; exact hh.1, by rw [hh.2]; exact Fr.refl _ _⟩)
  have HRP : Hid (∀ W', Fr (fun _ => False) w3 W' → Calls Try.prog 20 #[.pointer (some ⟨g, 0, none⟩)] W' fun e w' => e = .returned (.int .i64 (r : Nat)) ∧ Fr (fun _ => False) W' w') := fun W' hW => by
    obtain ⟨lk, D, n, hb, _⟩ := (B3.out.net.far hW).ex
    exact (replicas_yes W' g (r : Nat) (T.length : Nat) mb lk hb).mono (fun e w' hh => ⟨hh.1, by rw [hh.2]; exact Fr.refl _ _⟩)
  have HC0 : Hid (w3.cell? ⟨h, 0, none⟩ = some (.int .i64 (r : Nat))) := by obtain ⟨A, c, h1, _⟩ := B3.out.rf.hd; exact h1
  go_upto_region 2 with fail
  go_cut [36] from 16 to 35 (fun v wx => v = .bool false ∧ Hid (Fr (fun _ => False) w3 wx))
  case first =>
    as_aux_lemma =>
    refine (wpIn_wide (n := 9)).1 ?_
    refine wpIn_region_factsG (ms := [0, 1, 0, 4, 15, 31, 63, 127, 63, 319, 1023, 2047, 4095, 8191, 16383, 8191, 40959, 106495, 237567, 524287, 1048575]) (k := 20) (Fr (fun _ => False)) (s2X g h r L cl dl Al Bl) (fun i v W => True) (by kernel_rfl) (by kernel_rfl) (Fr.refl _ _) (fun a b c h1 h2 => h1.trans h2 (fun _ _ h => h)) (fun i v w w' hg hx => s2X_far hg hx) ?walk2
    case walk2 =>
    have hdr : ∀ W, Fr (fun _ => False) w3.drew W → Fr (fun _ => False) w3 W := fun W h => ((Fr.refl (fun _ => False) w3).drew).trans h (fun _ _ h => h)
    have HDR := Lib.hid hdr
    clear hdr
    refine factWalkG_cons (fun W hW hf K hK => ?_) (fun x0 => ?_)
    · skip
      refine ⟨by kernel_rfl, ?_⟩
      gi_step
      exact hK _ _ (Fr.refl _ _) rfl trivial
    simp only [Act.put, List.setIfInBounds_toArray, List.set_cons_succ, List.set_cons_zero]
    refine factWalkG_cons (fun W hW hf K hK => ?_) (fun x1 => ?_)
    · skip
      have e0 : x0 = .slice Al L cl := hf 0 (by omega) (by kernel_rfl)
      subst e0
      refine ⟨by kernel_rfl, ?_⟩
      gi_step
      exact hK _ _ (Fr.refl _ _) rfl trivial
    simp only [Act.put, List.setIfInBounds_toArray, List.set_cons_succ, List.set_cons_zero]
    refine factWalkG_cons (fun W hW hf K hK => ?_) (fun x2 => ?_)
    · skip
      refine ⟨by kernel_rfl, ?_⟩
      gi_step
      exact hK _ _ (Fr.refl _ _) rfl trivial
    simp only [Act.put, List.setIfInBounds_toArray, List.set_cons_succ, List.set_cons_zero]
    refine factWalkG_cons (fun W hW hf K hK => ?_) (fun x3 => ?_)
    · skip
      have e2 : x2 = .slice Bl L dl := hf 2 (by omega) (by kernel_rfl)
      subst e2
      refine ⟨by kernel_rfl, ?_⟩
      gi_step
      exact hK _ _ (Fr.refl _ _) rfl trivial
    simp only [Act.put, List.setIfInBounds_toArray, List.set_cons_succ, List.set_cons_zero]
    refine factWalkG_cons (fun W hW hf K hK => ?_) (fun x4 => ?_)
    · skip
      have e1 : x1 = .int .i64 (L : Nat) := hf 1 (by omega) (by kernel_rfl)
      have e3 : x3 = .int .i64 (L : Nat) := hf 3 (by omega) (by kernel_rfl)
      subst e1 e3
      refine ⟨by kernel_rfl, ?_⟩
      gi_step
      exact hK _ _ (Fr.refl _ _) rfl trivial
    simp only [Act.put, List.setIfInBounds_toArray, List.set_cons_succ, List.set_cons_zero]
    refine factWalkG_cons (fun W hW hf K hK => ?_) (fun x5 => ?_)
    · skip
      have e4 : x4 = .bool false := hf 4 (by omega) (by kernel_rfl)
      subst e4
      refine ⟨by kernel_rfl, ?_⟩
      gi_step
      exact hK _ _ (Fr.refl _ _) rfl trivial
    simp only [Act.put, List.setIfInBounds_toArray, List.set_cons_succ, List.set_cons_zero]
    refine factWalkG_cons (fun W hW hf K hK => ?_) (fun x6 => ?_)
    · skip
      have e5 : x5 = .bool false := hf 5 (by omega) (by kernel_rfl)
      subst e5
      refine ⟨by kernel_rfl, ?_⟩
      gi_step
      exact hK _ _ (Fr.refl _ _) rfl trivial
    simp only [Act.put, List.setIfInBounds_toArray, List.set_cons_succ, List.set_cons_zero]
    refine factWalkG_cons (fun W hW hf K hK => ?_) (fun x7 => ?_)
    · skip
      have e5 : x5 = .bool false := hf 5 (by omega) (by kernel_rfl)
      have e6 : x6 = .pointer (some ⟨g, 0, none⟩) := hf 6 (by omega) (by kernel_rfl)
      subst e5 e6
      refine ⟨by kernel_rfl, ?_⟩
      gi_step
      refine ⟨trivial, ?_⟩
      refine (callsIn_wide.2 (HCN.out W (HDR.out W hW))).mono ?_
      rintro e W' ⟨rfl, f2⟩
      dsimp only
      exact hK _ _ f2 rfl trivial
    simp only [Act.put, List.setIfInBounds_toArray, List.set_cons_succ, List.set_cons_zero]
    refine factWalkG_cons (fun W hW hf K hK => ?_) (fun x8 => ?_)
    · skip
      have e5 : x5 = .bool false := hf 5 (by omega) (by kernel_rfl)
      subst e5
      refine ⟨by kernel_rfl, ?_⟩
      gi_step
      exact hK _ _ (Fr.refl _ _) rfl trivial
    simp only [Act.put, List.setIfInBounds_toArray, List.set_cons_succ, List.set_cons_zero]
    refine factWalkG_cons (fun W hW hf K hK => ?_) (fun x9 => ?_)
    · skip
      have e5 : x5 = .bool false := hf 5 (by omega) (by kernel_rfl)
      have e8 : x8 = .slice Bl L dl := hf 8 (by omega) (by kernel_rfl)
      subst e5 e8
      refine ⟨by kernel_rfl, ?_⟩
      gi_step
      exact hK _ _ (Fr.refl _ _) rfl trivial
    simp only [Act.put, List.setIfInBounds_toArray, List.set_cons_succ, List.set_cons_zero]
    refine factWalkG_cons (fun W hW hf K hK => ?_) (fun x10 => ?_)
    · skip
      have e5 : x5 = .bool false := hf 5 (by omega) (by kernel_rfl)
      have e7 : x7 = .int .i64 (L : Nat) := hf 7 (by omega) (by kernel_rfl)
      have e9 : x9 = .int .i64 (L : Nat) := hf 9 (by omega) (by kernel_rfl)
      subst e5 e7 e9
      refine ⟨by kernel_rfl, ?_⟩
      gi_step
      exact hK _ _ (Fr.refl _ _) rfl trivial
    simp only [Act.put, List.setIfInBounds_toArray, List.set_cons_succ, List.set_cons_zero]
    refine factWalkG_cons (fun W hW hf K hK => ?_) (fun x11 => ?_)
    · skip
      have e5 : x5 = .bool false := hf 5 (by omega) (by kernel_rfl)
      have e10 : x10 = .bool false := hf 10 (by omega) (by kernel_rfl)
      subst e5 e10
      refine ⟨by kernel_rfl, ?_⟩
      gi_step
      exact hK _ _ (Fr.refl _ _) rfl trivial
    simp only [Act.put, List.setIfInBounds_toArray, List.set_cons_succ, List.set_cons_zero]
    refine factWalkG_cons (fun W hW hf K hK => ?_) (fun x12 => ?_)
    · skip
      have e11 : x11 = .bool false := hf 11 (by omega) (by kernel_rfl)
      subst e11
      refine ⟨by kernel_rfl, ?_⟩
      gi_step
      exact hK _ _ (Fr.refl _ _) rfl trivial
    simp only [Act.put, List.setIfInBounds_toArray, List.set_cons_succ, List.set_cons_zero]
    refine factWalkG_cons (fun W hW hf K hK => ?_) (fun x13 => ?_)
    · skip
      have e12 : x12 = .bool false := hf 12 (by omega) (by kernel_rfl)
      subst e12
      refine ⟨by kernel_rfl, ?_⟩
      gi_step
      exact hK _ _ (Fr.refl _ _) rfl trivial
    simp only [Act.put, List.setIfInBounds_toArray, List.set_cons_succ, List.set_cons_zero]
    refine factWalkG_cons (fun W hW hf K hK => ?_) (fun x14 => ?_)
    · skip
      have e12 : x12 = .bool false := hf 12 (by omega) (by kernel_rfl)
      have e13 : x13 = .pointer (some ⟨g, 0, none⟩) := hf 13 (by omega) (by kernel_rfl)
      subst e12 e13
      refine ⟨by kernel_rfl, ?_⟩
      gi_step
      refine ⟨trivial, ?_⟩
      refine (callsIn_wide.2 (HRP.out W (HDR.out W hW))).mono ?_
      rintro e W' ⟨rfl, f2⟩
      dsimp only
      exact hK _ _ f2 rfl trivial
    simp only [Act.put, List.setIfInBounds_toArray, List.set_cons_succ, List.set_cons_zero]
    refine factWalkG_cons (fun W hW hf K hK => ?_) (fun x15 => ?_)
    · skip
      have e12 : x12 = .bool false := hf 12 (by omega) (by kernel_rfl)
      subst e12
      refine ⟨by kernel_rfl, ?_⟩
      gi_step
      exact hK _ _ (Fr.refl _ _) rfl trivial
    simp only [Act.put, List.setIfInBounds_toArray, List.set_cons_succ, List.set_cons_zero]
    refine factWalkG_cons (fun W hW hf K hK => ?_) (fun x16 => ?_)
    · skip
      have e12 : x12 = .bool false := hf 12 (by omega) (by kernel_rfl)
      have e15 : x15 = .pointer (some ⟨h, 0, none⟩) := hf 15 (by omega) (by kernel_rfl)
      subst e12 e15
      refine ⟨by kernel_rfl, ?_⟩
      gi_step
      exact hK _ _ (Fr.refl _ _) rfl trivial
    simp only [Act.put, List.setIfInBounds_toArray, List.set_cons_succ, List.set_cons_zero]
    refine factWalkG_cons (fun W hW hf K hK => ?_) (fun x17 => ?_)
    · skip
      have e12 : x12 = .bool false := hf 12 (by omega) (by kernel_rfl)
      have e16 : x16 = .pointer (some ⟨h, 0, none⟩) := hf 16 (by omega) (by kernel_rfl)
      subst e12 e16
      refine ⟨by kernel_rfl, ?_⟩
      gi_step
      exact hK _ _ (Fr.refl _ _) rfl trivial
    simp only [Act.put, List.setIfInBounds_toArray, List.set_cons_succ, List.set_cons_zero]
    refine factWalkG_cons (fun W hW hf K hK => ?_) (fun x18 => ?_)
    · skip
      have e12 : x12 = .bool false := hf 12 (by omega) (by kernel_rfl)
      have e17 : x17 = .pointer (some ⟨h, 0, none⟩) := hf 17 (by omega) (by kernel_rfl)
      subst e12 e17
      have c0 : W.cell? ⟨h, 0, none⟩ = some (.int .i64 (r : Nat)) := cell_fa HC0.out (HDR.out W hW)
      refine ⟨by kernel_rfl, ?_⟩
      gi_step
      exact hK _ _ (Fr.refl _ _) rfl trivial
    simp only [Act.put, List.setIfInBounds_toArray, List.set_cons_succ, List.set_cons_zero]
    refine factWalkG_cons (fun W hW hf K hK => ?_) (fun x19 => ?_)
    · skip
      have e12 : x12 = .bool false := hf 12 (by omega) (by kernel_rfl)
      have e14 : x14 = .int .i64 (r : Nat) := hf 14 (by omega) (by kernel_rfl)
      have e18 : x18 = .int .i64 (r : Nat) := hf 18 (by omega) (by kernel_rfl)
      subst e12 e14 e18
      refine ⟨by kernel_rfl, ?_⟩
      gi_step
      exact hK _ _ (Fr.refl _ _) rfl trivial
    simp only [Act.put, List.setIfInBounds_toArray, List.set_cons_succ, List.set_cons_zero]
    refine factWalkG_nil (fun W hW hf hmet => ?_)
    have e12 : x12 = .bool false := hf 12 (by omega)
    have e19 : x19 = .bool false := hf 19 (by omega)
    subst e12 e19
    have F8 : Fr (fun _ => False) w3 W := HDR.out W hW
    clear hf hmet hW HDR
    change wpAnyIn _ _ _ _ _ _ 1 _ _ _
    refine wpAnyIn_ready (rs := [20]) (by kernel_rfl) (by simp) ?_
    refine AllReadyIn.cons rfl (fun K hK => ?_) AllReadyIn.nil
    go_simp
    refine hK _ _ ?_
    refine wpAnyIn_done (by kernel_rfl) ?_ _
    clear hK K
    go_wp2_with fail
    go_meet
    exact ⟨rfl, F8⟩
  case rest =>
    obtain ⟨rfl, FC⟩ := hcut
    have HLE := Lib.hid hL
    have hL4 : L ≤ 4000 := by have h1 := HLC.out; have h2 := List.length_filter_le (fun x : Ms => x.live) T; omega
    clear hL HCN HRP HC0
    go_wp2_with fail
    go_loopw [7] (fun iv wr => ∃ q9 : Nat, iv = .int .i64 q9 ∧ q9 ≤ L ∧ Hid (Fr (fun _ => False) w3 wr)) (fun iv _ => L - (intOf iv).toNat)
    case atStart => exact ⟨0, rfl, Nat.zero_le _, FC.out⟩
    case round =>
      obtain ⟨q9, rfl, hq, HF⟩ := hrel
      by_cases hlt : q9 < L
      · obtain ⟨id, y9, hid, hx⟩ := lid_at (T := T) (q := q9) (by rw [HLE.out]; exact hlt)
        have hid64 : id < 18446744073709551616 := by
          obtain ⟨k, hk, h1, _⟩ := lookT_some hx
          have := (List.getElem?_eq_some_iff.1 h1).1
          omega
        obtain ⟨bl, cl', e', _, _, _⟩ := own_cells O3.out (by omega)
        injection e' with e1 e2 e3
        subst e1 e3
        obtain ⟨bm, cl', e', _, _, _⟩ := own_cells P3.out (by omega)
        injection e' with e1 e2 e3
        subst e1 e3
        have D3 := Lib.hid (lrow O3.out hlt hid hx)
        have E3 := Lib.hid (lrow P3.out hlt hid hx)
        have HQ := Lib.hid hlt
        have d0 : wr.cell? ⟨bl, q9 * 4, none⟩ = some (.int .u64 (id : Nat)) := cell_fa D3.out.1 HF.out
        have HA1 := Lib.hid (gv_at (B3.out.net.far HF.out) hid64 hx)
        have HA2 : Hid (∀ W', Fr (fun _ => False) w3 W' → Calls Try.prog 27 #[.pointer (some ⟨h, 0, none⟩), .int .u64 (id : Nat)] W' fun e w' => ∃ A c, e = .returned (.tuple #[.agg #[.int .i64 (y9.f : Nat), .int .i64 (y9.t : Nat), .slice A y9.bs.length c], .int .i64 0]) ∧ w'.ownsRow 0 5 1 (.slice A y9.bs.length c) y9.bs.length (bv y9.bs) ∧ Fr (fun _ => False) W' w') := fun W' hW => rat_yes (B3.out.rf.far hW) hT hx
        clear hid hx
        go_wp2_with fail
        refine HA1.out.mono ?_
        rintro e w4 ⟨A9, c9, rfl, o4, f4⟩
        have F4 := Lib.hid (HF.out.trans f4 (fun _ _ e => e))
        have O4 := Lib.hid o4
        clear o4 f4 HA1 d0
        go_upto_region 8 with fail
        refine abs_wp (fun W1 => Hid (Blk W1 w4.heap.size 51 #[.int .i64 (y9.f : Nat), .int .i64 (y9.t : Nat), .slice A9 y9.bs.length c9]) ∧ Hid (Rd W1 A9 y9.bs.length (bv y9.bs)) ∧ Hid (Fr (fun _ => False) w3 W1)) ⟨Blk.new _ _ _, (Rd.of_own O4.out).alloc _, F4.out.alloc _⟩ ?_
        rintro w5 ⟨M5, R5, F5⟩
        clear F4 O4
        have d0 : w5.cell? ⟨bm, q9 * 4, none⟩ = some (.int .u64 (id : Nat)) := cell_fa E3.out.1 F5.out
        go_wp2_with fail
        refine (HA2.out w5 F5.out).mono ?_
        rintro e w6 ⟨A8, c8, rfl, o6, f6⟩
        have F6 := Lib.hid (F5.out.trans f6 (fun _ _ e => e))
        have O6 := Lib.hid o6
        have M6 := Lib.hid (keepB M5.out f6)
        have R6 := Lib.hid (R5.out.far f6)
        clear o6 f6 d0 M5 R5 F5
        go_upto_region 9 with fail
        refine abs_wp (fun W1 => Hid (Blk W1 w4.heap.size 51 #[.int .i64 (y9.f : Nat), .int .i64 (y9.t : Nat), .slice A9 y9.bs.length c9]) ∧ Hid (Blk W1 w6.heap.size 51 #[.int .i64 (y9.f : Nat), .int .i64 (y9.t : Nat), .slice A8 y9.bs.length c8]) ∧ Hid (Rd W1 A9 y9.bs.length (bv y9.bs)) ∧ Hid (Rd W1 A8 y9.bs.length (bv y9.bs)) ∧ Hid (Fr (fun _ => False) w3 W1)) ⟨M6.out.alloc _, Blk.new _ _ _, R6.out.alloc _, (Rd.of_own O6.out).alloc _, F6.out.alloc _⟩ ?_
        rintro w7 ⟨M7, K7, R7, S7, F7⟩
        clear F6 O6 M6 R6 HA2
        have D : Hid (w7.cell? ⟨bl, q9 * 4, none⟩ = some (.int .u64 (id : Nat)) ∧ w7.cell? ⟨bl, q9 * 4 + 1, none⟩ = some (.int .i64 (y9.f : Nat)) ∧ w7.cell? ⟨bl, q9 * 4 + 2, none⟩ = some (.int .i64 (y9.t : Nat)) ∧ w7.cell? ⟨bl, q9 * 4 + 3, none⟩ = some (.int .i64 (y9.bs.length : Nat))) := ⟨cell_fa D3.out.1 F7.out, cell_fa D3.out.2.1 F7.out, cell_fa D3.out.2.2.1 F7.out, cell_fa D3.out.2.2.2 F7.out⟩
        have E : Hid (w7.cell? ⟨bm, q9 * 4, none⟩ = some (.int .u64 (id : Nat)) ∧ w7.cell? ⟨bm, q9 * 4 + 1, none⟩ = some (.int .i64 (y9.f : Nat)) ∧ w7.cell? ⟨bm, q9 * 4 + 2, none⟩ = some (.int .i64 (y9.t : Nat)) ∧ w7.cell? ⟨bm, q9 * 4 + 3, none⟩ = some (.int .i64 (y9.bs.length : Nat))) := ⟨cell_fa E3.out.1 F7.out, cell_fa E3.out.2.1 F7.out, cell_fa E3.out.2.2.1 F7.out, cell_fa E3.out.2.2.2 F7.out⟩
        go_cut [81] from 63 to 80 (fun v wx => v = .bool false ∧ Hid (Fr (fun _ => False) w7 wx))
        case first =>
          as_aux_lemma =>
          refine (wpIn_wide (n := 9)).1 ?_
          refine wpIn_region_factsG (ms := [0, 0, 3, 7, 0, 0, 48, 112, 255, 511, 1023, 2047, 4095, 8191, 16383, 16383, 65535, 131071, 262143]) (k := 18) (Fr (fun _ => False)) (s9X bl bm L cl dl q9 id y9.f y9.t y9.bs.length c9 c8 A9 A8) (fun i v W => True) (by kernel_rfl) (by kernel_rfl) (Fr.refl _ _) (fun a b c h1 h2 => h1.trans h2 (fun _ _ h => h)) (fun i v w w' hg hx => s9X_far hg hx) ?walk9
          case walk9 =>
          have hdr : ∀ W, Fr (fun _ => False) w7.drew W → Fr (fun _ => False) w7 W := fun W h => ((Fr.refl (fun _ => False) w7).drew).trans h (fun _ _ h => h)
          have HDR := Lib.hid hdr
          clear hdr
          refine factWalkG_cons (fun W hW hf K hK => ?_) (fun x0 => ?_)
          · skip
            refine ⟨by kernel_rfl, ?_⟩
            gi_step
            exact hK _ _ (Fr.refl _ _) rfl trivial
          simp only [Act.put, List.setIfInBounds_toArray, List.set_cons_succ, List.set_cons_zero]
          refine factWalkG_cons (fun W hW hf K hK => ?_) (fun x1 => ?_)
          · skip
            refine ⟨by kernel_rfl, ?_⟩
            gi_step
            exact hK _ _ (Fr.refl _ _) rfl trivial
          simp only [Act.put, List.setIfInBounds_toArray, List.set_cons_succ, List.set_cons_zero]
          refine factWalkG_cons (fun W hW hf K hK => ?_) (fun x2 => ?_)
          · skip
            have e0 : x0 = .slice (some ⟨bl, 0, none⟩) L cl := hf 0 (by omega) (by kernel_rfl)
            have e1 : x1 = .int .i64 (q9 : Nat) := hf 1 (by omega) (by kernel_rfl)
            subst e0 e1
            have hq9 := HQ.out
            refine ⟨by kernel_rfl, ?_⟩
            gi_step
            exact hK _ _ (Fr.refl _ _) rfl trivial
          simp only [Act.put, List.setIfInBounds_toArray, List.set_cons_succ, List.set_cons_zero]
          refine factWalkG_cons (fun W hW hf K hK => ?_) (fun x3 => ?_)
          · skip
            have e2 : x2 = .pointer (some ⟨bl, q9 * 4, none⟩) := hf 2 (by omega) (by kernel_rfl)
            subst e2
            have d0 : W.cell? ⟨bl, q9 * 4, none⟩ = some (.int .u64 (id : Nat)) := cell_fa D.out.1 (HDR.out W hW)
            have d1 : W.cell? ⟨bl, q9 * 4 + 1, none⟩ = some (.int .i64 (y9.f : Nat)) := cell_fa D.out.2.1 (HDR.out W hW)
            have d2 : W.cell? ⟨bl, q9 * 4 + 2, none⟩ = some (.int .i64 (y9.t : Nat)) := cell_fa D.out.2.2.1 (HDR.out W hW)
            have d3 : W.cell? ⟨bl, q9 * 4 + 3, none⟩ = some (.int .i64 (y9.bs.length : Nat)) := cell_fa D.out.2.2.2 (HDR.out W hW)
            refine ⟨by kernel_rfl, ?_⟩
            gi_step
            exact hK _ _ (Fr.refl _ _) rfl trivial
          simp only [Act.put, List.setIfInBounds_toArray, List.set_cons_succ, List.set_cons_zero]
          refine factWalkG_cons (fun W hW hf K hK => ?_) (fun x4 => ?_)
          · skip
            refine ⟨by kernel_rfl, ?_⟩
            gi_step
            exact hK _ _ (Fr.refl _ _) rfl trivial
          simp only [Act.put, List.setIfInBounds_toArray, List.set_cons_succ, List.set_cons_zero]
          refine factWalkG_cons (fun W hW hf K hK => ?_) (fun x5 => ?_)
          · skip
            refine ⟨by kernel_rfl, ?_⟩
            gi_step
            exact hK _ _ (Fr.refl _ _) rfl trivial
          simp only [Act.put, List.setIfInBounds_toArray, List.set_cons_succ, List.set_cons_zero]
          refine factWalkG_cons (fun W hW hf K hK => ?_) (fun x6 => ?_)
          · skip
            have e4 : x4 = .slice (some ⟨bm, 0, none⟩) L dl := hf 4 (by omega) (by kernel_rfl)
            have e5 : x5 = .int .i64 (q9 : Nat) := hf 5 (by omega) (by kernel_rfl)
            subst e4 e5
            have hq9 := HQ.out
            refine ⟨by kernel_rfl, ?_⟩
            gi_step
            exact hK _ _ (Fr.refl _ _) rfl trivial
          simp only [Act.put, List.setIfInBounds_toArray, List.set_cons_succ, List.set_cons_zero]
          refine factWalkG_cons (fun W hW hf K hK => ?_) (fun x7 => ?_)
          · skip
            have e6 : x6 = .pointer (some ⟨bm, q9 * 4, none⟩) := hf 6 (by omega) (by kernel_rfl)
            subst e6
            have e0 : W.cell? ⟨bm, q9 * 4, none⟩ = some (.int .u64 (id : Nat)) := cell_fa E.out.1 (HDR.out W hW)
            have e1 : W.cell? ⟨bm, q9 * 4 + 1, none⟩ = some (.int .i64 (y9.f : Nat)) := cell_fa E.out.2.1 (HDR.out W hW)
            have e2 : W.cell? ⟨bm, q9 * 4 + 2, none⟩ = some (.int .i64 (y9.t : Nat)) := cell_fa E.out.2.2.1 (HDR.out W hW)
            have e3 : W.cell? ⟨bm, q9 * 4 + 3, none⟩ = some (.int .i64 (y9.bs.length : Nat)) := cell_fa E.out.2.2.2 (HDR.out W hW)
            refine ⟨by kernel_rfl, ?_⟩
            gi_step
            exact hK _ _ (Fr.refl _ _) rfl trivial
          simp only [Act.put, List.setIfInBounds_toArray, List.set_cons_succ, List.set_cons_zero]
          refine factWalkG_cons (fun W hW hf K hK => ?_) (fun x8 => ?_)
          · skip
            have e3 : x3 = .agg #[.int .u64 (id : Nat), .int .i64 (y9.f : Nat), .int .i64 (y9.t : Nat), .int .i64 (y9.bs.length : Nat)] := hf 3 (by omega) (by kernel_rfl)
            have e7 : x7 = .agg #[.int .u64 (id : Nat), .int .i64 (y9.f : Nat), .int .i64 (y9.t : Nat), .int .i64 (y9.bs.length : Nat)] := hf 7 (by omega) (by kernel_rfl)
            subst e3 e7
            refine ⟨by kernel_rfl, ?_⟩
            gi_step
            exact hK _ _ (Fr.refl _ _) rfl trivial
          simp only [Act.put, List.setIfInBounds_toArray, List.set_cons_succ, List.set_cons_zero]
          refine factWalkG_cons (fun W hW hf K hK => ?_) (fun x9 => ?_)
          · skip
            have e8 : x8 = .bool false := hf 8 (by omega) (by kernel_rfl)
            subst e8
            refine ⟨by kernel_rfl, ?_⟩
            gi_step
            exact hK _ _ (Fr.refl _ _) rfl trivial
          simp only [Act.put, List.setIfInBounds_toArray, List.set_cons_succ, List.set_cons_zero]
          refine factWalkG_cons (fun W hW hf K hK => ?_) (fun x10 => ?_)
          · skip
            have e9 : x9 = .bool false := hf 9 (by omega) (by kernel_rfl)
            subst e9
            refine ⟨by kernel_rfl, ?_⟩
            gi_step
            exact hK _ _ (Fr.refl _ _) rfl trivial
          simp only [Act.put, List.setIfInBounds_toArray, List.set_cons_succ, List.set_cons_zero]
          refine factWalkG_cons (fun W hW hf K hK => ?_) (fun x11 => ?_)
          · skip
            have e9 : x9 = .bool false := hf 9 (by omega) (by kernel_rfl)
            have e10 : x10 = .int .i64 0 := hf 10 (by omega) (by kernel_rfl)
            subst e9 e10
            refine ⟨by kernel_rfl, ?_⟩
            gi_step
            exact hK _ _ (Fr.refl _ _) rfl trivial
          simp only [Act.put, List.setIfInBounds_toArray, List.set_cons_succ, List.set_cons_zero]
          refine factWalkG_cons (fun W hW hf K hK => ?_) (fun x12 => ?_)
          · skip
            have e9 : x9 = .bool false := hf 9 (by omega) (by kernel_rfl)
            have e11 : x11 = .bool false := hf 11 (by omega) (by kernel_rfl)
            subst e9 e11
            refine ⟨by kernel_rfl, ?_⟩
            gi_step
            exact hK _ _ (Fr.refl _ _) rfl trivial
          simp only [Act.put, List.setIfInBounds_toArray, List.set_cons_succ, List.set_cons_zero]
          refine factWalkG_cons (fun W hW hf K hK => ?_) (fun x13 => ?_)
          · skip
            have e12 : x12 = .bool false := hf 12 (by omega) (by kernel_rfl)
            subst e12
            refine ⟨by kernel_rfl, ?_⟩
            gi_step
            exact hK _ _ (Fr.refl _ _) rfl trivial
          simp only [Act.put, List.setIfInBounds_toArray, List.set_cons_succ, List.set_cons_zero]
          refine factWalkG_cons (fun W hW hf K hK => ?_) (fun x14 => ?_)
          · skip
            have e13 : x13 = .bool false := hf 13 (by omega) (by kernel_rfl)
            subst e13
            have hM := keepB M7.out (HDR.out W hW)
            have m0 : W.cell? ⟨w4.heap.size, 0, none⟩ = some (.int .i64 (y9.f : Nat)) := hM.cell 0
            have m1 : W.cell? ⟨w4.heap.size, 1, none⟩ = some (.int .i64 (y9.t : Nat)) := hM.cell 1
            have m2 : W.cell? ⟨w4.heap.size, 2, none⟩ = some (.slice A9 y9.bs.length c9) := hM.cell 2
            refine ⟨by kernel_rfl, ?_⟩
            gi_step
            exact hK _ _ (Fr.refl _ _) rfl trivial
          simp only [Act.put, List.setIfInBounds_toArray, List.set_cons_succ, List.set_cons_zero]
          refine factWalkG_cons (fun W hW hf K hK => ?_) (fun x15 => ?_)
          · skip
            have e13 : x13 = .bool false := hf 13 (by omega) (by kernel_rfl)
            subst e13
            have hM := keepB K7.out (HDR.out W hW)
            have m0 : W.cell? ⟨w6.heap.size, 0, none⟩ = some (.int .i64 (y9.f : Nat)) := hM.cell 0
            have m1 : W.cell? ⟨w6.heap.size, 1, none⟩ = some (.int .i64 (y9.t : Nat)) := hM.cell 1
            have m2 : W.cell? ⟨w6.heap.size, 2, none⟩ = some (.slice A8 y9.bs.length c8) := hM.cell 2
            refine ⟨by kernel_rfl, ?_⟩
            gi_step
            exact hK _ _ (Fr.refl _ _) rfl trivial
          simp only [Act.put, List.setIfInBounds_toArray, List.set_cons_succ, List.set_cons_zero]
          refine factWalkG_cons (fun W hW hf K hK => ?_) (fun x16 => ?_)
          · skip
            have e13 : x13 = .bool false := hf 13 (by omega) (by kernel_rfl)
            have e14 : x14 = .agg #[.int .i64 (y9.f : Nat), .int .i64 (y9.t : Nat), .slice A9 y9.bs.length c9] := hf 14 (by omega) (by kernel_rfl)
            have e15 : x15 = .agg #[.int .i64 (y9.f : Nat), .int .i64 (y9.t : Nat), .slice A8 y9.bs.length c8] := hf 15 (by omega) (by kernel_rfl)
            subst e13 e14 e15
            refine ⟨by kernel_rfl, ?_⟩
            gi_step
            refine ⟨trivial, ?_⟩
            refine (callsIn_wide.2 (same_c W _ _ A9 A8 y9.bs.length c9 c8 y9.bs (R7.out.far (HDR.out W hW)) (S7.out.far (HDR.out W hW)))).mono ?_
            rintro e W' ⟨rfl, f2⟩
            dsimp only
            exact hK _ _ f2 rfl trivial
          simp only [Act.put, List.setIfInBounds_toArray, List.set_cons_succ, List.set_cons_zero]
          refine factWalkG_cons (fun W hW hf K hK => ?_) (fun x17 => ?_)
          · skip
            have e13 : x13 = .bool false := hf 13 (by omega) (by kernel_rfl)
            have e16 : x16 = .bool true := hf 16 (by omega) (by kernel_rfl)
            subst e13 e16
            refine ⟨by kernel_rfl, ?_⟩
            gi_step
            exact hK _ _ (Fr.refl _ _) rfl trivial
          simp only [Act.put, List.setIfInBounds_toArray, List.set_cons_succ, List.set_cons_zero]
          refine factWalkG_nil (fun W hW hf hmet => ?_)
          have e13 : x13 = .bool false := hf 13 (by omega)
          have e17 : x17 = .bool false := hf 17 (by omega)
          subst e13 e17
          have F8 : Fr (fun _ => False) w7 W := HDR.out W hW
          clear hf hmet hW HDR
          change wpAnyIn _ _ _ _ _ _ 1 _ _ _
          refine wpAnyIn_ready (rs := [18]) (by kernel_rfl) (by simp) ?_
          refine AllReadyIn.cons rfl (fun K hK => ?_) AllReadyIn.nil
          go_simp
          refine hK _ _ ?_
          refine wpAnyIn_done (by kernel_rfl) ?_ _
          clear hK K
          go_wp2_with fail
          go_meet
          exact ⟨rfl, F8⟩
        case rest =>
          obtain ⟨rfl, F9⟩ := hcut
          go_wp2_with fail
          go_roundw
          case rel => exact ⟨q9 + 1, by go_num, hlt, F7.out.trans F9.out (fun _ _ e => e)⟩
          case measure => simp [intOf]; omega
      · go_wp2_with fail
        go_ret
        exact ⟨rfl, F3.out.trans HF.out (fun _ _ e => e)⟩
end Go.Proofs.Ytpgklhbbjbdejaa
