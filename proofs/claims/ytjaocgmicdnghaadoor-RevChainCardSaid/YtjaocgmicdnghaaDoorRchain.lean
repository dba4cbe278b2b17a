/-
  CONTRACT of the reference's Chain.
-/
import Derived.Test.YtjaocgmicdnghaaDoorChain
namespace Go.Proofs.YtjaocgmicdnghaaDoor
set_option linter.unusedSimpArgs false
set_option linter.unusedVariables false
open Go Go.RowKit
attribute [local go_sem] Oper.semAt_some

def rcA (b off n c ii g : Nat) (a0 a1 a2 a3 a4 a5 a6 a7 a8 a9 a10 a11 a12 a13 a14 a15 : UInt8) (i : Nat) (v : Value) (W : World) : Prop := match i with
  | 0 => v = .slice (some ⟨b, off, none⟩) n c
  | 1 => v = .int .i64 (ii : Nat)
  | 2 => v = .pointer (some ⟨b, off + ii * 17, none⟩)
  | 3 => v = .agg #[.int .u64 (g : Nat), .int .u8 (a0.toNat : Nat), .int .u8 (a1.toNat : Nat), .int .u8 (a2.toNat : Nat), .int .u8 (a3.toNat : Nat), .int .u8 (a4.toNat : Nat), .int .u8 (a5.toNat : Nat), .int .u8 (a6.toNat : Nat), .int .u8 (a7.toNat : Nat), .int .u8 (a8.toNat : Nat), .int .u8 (a9.toNat : Nat), .int .u8 (a10.toNat : Nat), .int .u8 (a11.toNat : Nat), .int .u8 (a12.toNat : Nat), .int .u8 (a13.toNat : Nat), .int .u8 (a14.toNat : Nat), .int .u8 (a15.toNat : Nat)]
  | 4 => v = .bool false
  | 5 => v = .bool true
  | 6 => v = .bool true
  | 7 => v = undef
  | 8 => v = undef
  | 9 => v = undef
  | 10 => v = undef
  | 11 => v = undef
  | 12 => v = undef
  | 13 => v = undef
  | 14 => v = undef
  | 15 => v = undef
  | 16 => v = undef
  | 17 => v = undef
  | 18 => v = undef
  | 19 => v = undef
  | 20 => v = undef
  | 21 => v = undef
  | 22 => v = undef
  | 23 => v = undef
  | 24 => v = .bool true
  | _ => True
theorem rcA_far {b off n c ii g : Nat} {a0 a1 a2 a3 a4 a5 a6 a7 a8 a9 a10 a11 a12 a13 a14 a15 : UInt8} {i : Nat} {v : Value} {W W' : World} (hg : Fr (fun _ => False) W W') (hx : rcA b off n c ii g a0 a1 a2 a3 a4 a5 a6 a7 a8 a9 a10 a11 a12 a13 a14 a15 i v W) : rcA b off n c ii g a0 a1 a2 a3 a4 a5 a6 a7 a8 a9 a10 a11 a12 a13 a14 a15 i v W' := by
  match i with
  | 0 => exact hx
  | 1 => exact hx
  | 2 => exact hx
  | 3 => exact hx
  | 4 => exact hx
  | 5 => exact hx
  | 6 => exact hx
  | 7 => exact hx
  | 8 => exact hx
  | 9 => exact hx
  | 10 => exact hx
  | 11 => exact hx
  | 12 => exact hx
  | 13 => exact hx
  | 14 => exact hx
  | 15 => exact hx
  | 16 => exact hx
  | 17 => exact hx
  | 18 => exact hx
  | 19 => exact hx
  | 20 => exact hx
  | 21 => exact hx
  | 22 => exact hx
  | 23 => exact hx
  | 24 => exact hx
  | (n + 25) => exact hx
def rcB (b off n c ii g : Nat) (a0 a1 a2 a3 a4 a5 a6 a7 a8 a9 a10 a11 a12 a13 a14 a15 : UInt8) (i : Nat) (v : Value) (W : World) : Prop := match i with
  | 0 => v = .slice (some ⟨b, off, none⟩) n c
  | 1 => v = .int .i64 (ii : Nat)
  | 2 => v = .pointer (some ⟨b, off + ii * 17, none⟩)
  | 3 => v = .agg #[.int .u64 (g : Nat), .int .u8 (a0.toNat : Nat), .int .u8 (a1.toNat : Nat), .int .u8 (a2.toNat : Nat), .int .u8 (a3.toNat : Nat), .int .u8 (a4.toNat : Nat), .int .u8 (a5.toNat : Nat), .int .u8 (a6.toNat : Nat), .int .u8 (a7.toNat : Nat), .int .u8 (a8.toNat : Nat), .int .u8 (a9.toNat : Nat), .int .u8 (a10.toNat : Nat), .int .u8 (a11.toNat : Nat), .int .u8 (a12.toNat : Nat), .int .u8 (a13.toNat : Nat), .int .u8 (a14.toNat : Nat), .int .u8 (a15.toNat : Nat)]
  | 4 => v = .bool true
  | 5 => v = .bool false
  | 6 => v = .bool false
  | 7 => v = .int .i64 (ii : Nat)
  | 8 => v = .bool false
  | 9 => v = .bool false
  | 10 => v = undef
  | 11 => v = undef
  | 12 => v = undef
  | 13 => v = undef
  | 14 => v = undef
  | 15 => v = undef
  | 16 => v = undef
  | 17 => v = undef
  | 18 => v = undef
  | 19 => v = undef
  | 20 => v = undef
  | 21 => v = undef
  | 22 => v = undef
  | 23 => v = .bool false
  | 24 => v = .bool false
  | _ => True
theorem rcB_far {b off n c ii g : Nat} {a0 a1 a2 a3 a4 a5 a6 a7 a8 a9 a10 a11 a12 a13 a14 a15 : UInt8} {i : Nat} {v : Value} {W W' : World} (hg : Fr (fun _ => False) W W') (hx : rcB b off n c ii g a0 a1 a2 a3 a4 a5 a6 a7 a8 a9 a10 a11 a12 a13 a14 a15 i v W) : rcB b off n c ii g a0 a1 a2 a3 a4 a5 a6 a7 a8 a9 a10 a11 a12 a13 a14 a15 i v W' := by
  match i with
  | 0 => exact hx
  | 1 => exact hx
  | 2 => exact hx
  | 3 => exact hx
  | 4 => exact hx
  | 5 => exact hx
  | 6 => exact hx
  | 7 => exact hx
  | 8 => exact hx
  | 9 => exact hx
  | 10 => exact hx
  | 11 => exact hx
  | 12 => exact hx
  | 13 => exact hx
  | 14 => exact hx
  | 15 => exact hx
  | 16 => exact hx
  | 17 => exact hx
  | 18 => exact hx
  | 19 => exact hx
  | 20 => exact hx
  | 21 => exact hx
  | 22 => exact hx
  | 23 => exact hx
  | 24 => exact hx
  | (n + 25) => exact hx
def rcC (b off n c ii k g gp : Nat) (d : Bool) (a0 a1 a2 a3 a4 a5 a6 a7 a8 a9 a10 a11 a12 a13 a14 a15 : UInt8) (i : Nat) (v : Value) (W : World) : Prop := match i with
  | 0 => v = .slice (some ⟨b, off, none⟩) n c
  | 1 => v = .int .i64 (ii : Nat)
  | 2 => v = .pointer (some ⟨b, off + ii * 17, none⟩)
  | 3 => v = .agg #[.int .u64 (g : Nat), .int .u8 (a0.toNat : Nat), .int .u8 (a1.toNat : Nat), .int .u8 (a2.toNat : Nat), .int .u8 (a3.toNat : Nat), .int .u8 (a4.toNat : Nat), .int .u8 (a5.toNat : Nat), .int .u8 (a6.toNat : Nat), .int .u8 (a7.toNat : Nat), .int .u8 (a8.toNat : Nat), .int .u8 (a9.toNat : Nat), .int .u8 (a10.toNat : Nat), .int .u8 (a11.toNat : Nat), .int .u8 (a12.toNat : Nat), .int .u8 (a13.toNat : Nat), .int .u8 (a14.toNat : Nat), .int .u8 (a15.toNat : Nat)]
  | 4 => v = .bool true
  | 5 => v = .bool false
  | 6 => v = .bool false
  | 7 => v = .int .i64 (ii : Nat)
  | 8 => v = .bool true
  | 9 => v = .bool true
  | 10 => v = .slice (some ⟨b, off, none⟩) n c
  | 11 => v = .int .i64 (ii : Nat)
  | 12 => v = .int .i64 (k : Nat)
  | 13 => v = .pointer (some ⟨b, off + k * 17, none⟩)
  | 14 => v = .pointer (some ⟨b, off + k * 17, none⟩)
  | 15 => v = .int .u64 (gp : Nat)
  | 16 => v = .slice (some ⟨b, off, none⟩) n c
  | 17 => v = .int .i64 (ii : Nat)
  | 18 => v = .pointer (some ⟨b, off + ii * 17, none⟩)
  | 19 => v = .pointer (some ⟨b, off + ii * 17, none⟩)
  | 20 => v = .int .u64 (g : Nat)
  | 21 => v = .int .u64 ((g + 1 : Nat) : Int)
  | 22 => v = .bool (!d)
  | 23 => v = .bool (!d)
  | 24 => v = .bool (!d)
  | _ => True
theorem rcC_far {b off n c ii k g gp : Nat} {d : Bool} {a0 a1 a2 a3 a4 a5 a6 a7 a8 a9 a10 a11 a12 a13 a14 a15 : UInt8} {i : Nat} {v : Value} {W W' : World} (hg : Fr (fun _ => False) W W') (hx : rcC b off n c ii k g gp d a0 a1 a2 a3 a4 a5 a6 a7 a8 a9 a10 a11 a12 a13 a14 a15 i v W) : rcC b off n c ii k g gp d a0 a1 a2 a3 a4 a5 a6 a7 a8 a9 a10 a11 a12 a13 a14 a15 i v W' := by
  match i with
  | 0 => exact hx
  | 1 => exact hx
  | 2 => exact hx
  | 3 => exact hx
  | 4 => exact hx
  | 5 => exact hx
  | 6 => exact hx
  | 7 => exact hx
  | 8 => exact hx
  | 9 => exact hx
  | 10 => exact hx
  | 11 => exact hx
  | 12 => exact hx
  | 13 => exact hx
  | 14 => exact hx
  | 15 => exact hx
  | 16 => exact hx
  | 17 => exact hx
  | 18 => exact hx
  | 19 => exact hx
  | 20 => exact hx
  | 21 => exact hx
  | 22 => exact hx
  | 23 => exact hx
  | 24 => exact hx
  | (n + 25) => exact hx

set_option maxRecDepth 100000 in
set_option maxHeartbeats 1000000 in
theorem rChain_c (w : World) (A : Option Addr) (c : Nat) (l : List Nm) (hl : ∀ x ∈ l, NmOk x) (hr : Rd w A (l.length * 17) (rcs l)) (hn : l.length ≤ 9223372036854775807) :
    Calls Tryd.prog 14 #[.slice A l.length c] w fun e w' => e = .returned (.bool (chL l)) ∧ Fr (fun _ => False) w w' := by
  obtain ⟨n, hnn⟩ : ∃ n, l.length = n := ⟨_, rfl⟩
  have HR := Lib.hid hr
  have HL := Lib.hid hl
  rw [hnn] at HR hn ⊢
  have HN := Lib.hid hnn
  clear hr hl hnn
  go_enter Tryd.func14, Tryd.ntmps14
  go_wp2_with fail
  go_loopw [3] (fun u wr => ∃ i : Nat, u = .int .i64 i ∧ i ≤ n ∧ Hid (∀ j, j < i → lk l j = true) ∧ Hid (Fr (fun _ => False) w wr)) (fun u _ => n - (intOf u).toNat)
  case atStart => exact ⟨0, rfl, Nat.zero_le _, (fun j hj => absurd hj (by omega)), Fr.refl _ _⟩
  case round =>
    obtain ⟨i, rfl, hi, hno, hf⟩ := hrel
    by_cases hlt : i < n
    · have hdl : decide ((i : Int) < (n : Int)) = true := decide_eq_true (by omega)
      have hI : (i : Int) < n := by omega
      have hil : i < l.length := by rw [HN.out]; exact hlt
      obtain ⟨b, off, rfl, -⟩ := (HR.out.far hf.out).lit (by omega)
      obtain ⟨⟨g, s⟩, hx⟩ : ∃ x : Nm, l[i] = x := ⟨_, rfl⟩
      have hok := HL.out _ (List.getElem_mem hil)
      rw [hx] at hok
      obtain ⟨a0, a1, a2, a3, a4, a5, a6, a7, a8, a9, a10, a11, a12, a13, a14, a15, rfl⟩ := len16 hok.1
      have hel : ∀ W, Fr (fun _ => False) wr W → ∀ j v, (rc g [a0, a1, a2, a3, a4, a5, a6, a7, a8, a9, a10, a11, a12, a13, a14, a15])[j]? = some v → W.cell? ⟨b, off + i * 17 + j, none⟩ = some v := fun W hW j v hv => by
        have hj : j < 17 := by have h1 := (List.getElem?_eq_some_iff.1 hv).1; rw [rc_len rfl] at h1; exact h1
        rw [Nat.add_assoc, (HR.out.far (hf.out.trans hW (fun _ _ h => h))).cell (by omega), rcs_at HL.out hil hj, hx, hv]
      obtain ⟨r, hrr⟩ : ∃ r, mayG g = r := ⟨_, rfl⟩
      have hmc := fun W => rMay_c W g _ hok.1 hok.2
      rw [hrr] at hmc
      simp only [rc, bv, List.map_cons, List.map_nil] at hmc
      have HMC := Lib.hid hmc
      have HRR := Lib.hid hrr
      have HEL := Lib.hid hel
      have HOK := Lib.hid hok
      have HX := Lib.hid hx
      have HIN := Lib.hid hI
      clear hmc hrr hel hok hx
      go_wp2_with fail
      cases r with
      | false => as_aux_lemma =>
          refine (wpIn_wide (n := 9)).1 ?_
          refine wpIn_region_factsG (ms := [0, 0, 3, 7, 15, 31, 63, 127, 255, 511, 1023, 1023, 3071, 8191, 16383, 32767, 1023, 1023, 197631, 459775, 984063, 2032639, 4194303, 8388607, 16777215]) (k := 25) (Fr (fun _ => False)) (rcA b off n c i g a0 a1 a2 a3 a4 a5 a6 a7 a8 a9 a10 a11 a12 a13 a14 a15) (fun i v W => True) (by kernel_rfl) (by kernel_rfl) (Fr.refl _ _) (fun a b c h1 h2 => h1.trans h2 (fun _ _ h => h)) (fun i v w w' hg hx => rcA_far hg hx) ?walkrcA
          case walkrcA =>
          have hdr : ∀ W, Fr (fun _ => False) wr.drew W → Fr (fun _ => False) wr W := fun W h => ((Fr.refl (fun _ => False) wr).drew).trans h (fun _ _ h => h)
          have HDR := Lib.hid hdr
          clear hdr
          refine factWalkG_cons (fun W hW hf K hK => ?_) (fun x0 => ?_)
          · skip
            refine ⟨by kernel_rfl, ?_⟩
            gi_step
            exact hK _ _ (Fr.refl _ _) rfl trivial
          simp only [Act.put, List.setIfInBounds_toArray, List.set_cons_succ, List.set_cons_zero]
          refine factWalkG_cons (fun W hW hf K hK => ?_) (fun x1 => ?_)
          · skip
            refine ⟨by kernel_rfl, ?_⟩
            gi_step
            exact hK _ _ (Fr.refl _ _) rfl trivial
          simp only [Act.put, List.setIfInBounds_toArray, List.set_cons_succ, List.set_cons_zero]
          refine factWalkG_cons (fun W hW hf K hK => ?_) (fun x2 => ?_)
          · skip
            have e0 : x0 = .slice (some ⟨b, off, none⟩) n c := hf 0 (by omega) (by kernel_rfl)
            have e1 : x1 = .int .i64 (i : Nat) := hf 1 (by omega) (by kernel_rfl)
            subst e0 e1
            have hk0 : (0 : Int) ≤ (i : Nat) := by omega
            have hk1 : ((i : Nat) : Int) < (n : Nat) := HIN.out
            refine ⟨by kernel_rfl, ?_⟩
            gi_step
            exact hK _ _ (Fr.refl _ _) rfl trivial
          simp only [Act.put, List.setIfInBounds_toArray, List.set_cons_succ, List.set_cons_zero]
          refine factWalkG_cons (fun W hW hf K hK => ?_) (fun x3 => ?_)
          · skip
            have e2 : x2 = .pointer (some ⟨b, off + i * 17, none⟩) := hf 2 (by omega) (by kernel_rfl)
            subst e2
            have hel := HEL.out W (HDR.out W hW)
            have q0 : W.cell? ⟨b, off + i * 17, none⟩ = some (.int .u64 (g : Nat)) := hel 0 _ rfl
            have q1 : W.cell? ⟨b, off + i * 17 + 1, none⟩ = some (.int .u8 (a0.toNat : Nat)) := hel 1 _ rfl
            have q2 : W.cell? ⟨b, off + i * 17 + 2, none⟩ = some (.int .u8 (a1.toNat : Nat)) := hel 2 _ rfl
            have q3 : W.cell? ⟨b, off + i * 17 + 3, none⟩ = some (.int .u8 (a2.toNat : Nat)) := hel 3 _ rfl
            have q4 : W.cell? ⟨b, off + i * 17 + 4, none⟩ = some (.int .u8 (a3.toNat : Nat)) := hel 4 _ rfl
            have q5 : W.cell? ⟨b, off + i * 17 + 5, none⟩ = some (.int .u8 (a4.toNat : Nat)) := hel 5 _ rfl
            have q6 : W.cell? ⟨b, off + i * 17 + 6, none⟩ = some (.int .u8 (a5.toNat : Nat)) := hel 6 _ rfl
            have q7 : W.cell? ⟨b, off + i * 17 + 7, none⟩ = some (.int .u8 (a6.toNat : Nat)) := hel 7 _ rfl
            have q8 : W.cell? ⟨b, off + i * 17 + 8, none⟩ = some (.int .u8 (a7.toNat : Nat)) := hel 8 _ rfl
            have q9 : W.cell? ⟨b, off + i * 17 + 9, none⟩ = some (.int .u8 (a8.toNat : Nat)) := hel 9 _ rfl
            have q10 : W.cell? ⟨b, off + i * 17 + 10, none⟩ = some (.int .u8 (a9.toNat : Nat)) := hel 10 _ rfl
            have q11 : W.cell? ⟨b, off + i * 17 + 11, none⟩ = some (.int .u8 (a10.toNat : Nat)) := hel 11 _ rfl
            have q12 : W.cell? ⟨b, off + i * 17 + 12, none⟩ = some (.int .u8 (a11.toNat : Nat)) := hel 12 _ rfl
            have q13 : W.cell? ⟨b, off + i * 17 + 13, none⟩ = some (.int .u8 (a12.toNat : Nat)) := hel 13 _ rfl
            have q14 : W.cell? ⟨b, off + i * 17 + 14, none⟩ = some (.int .u8 (a13.toNat : Nat)) := hel 14 _ rfl
            have q15 : W.cell? ⟨b, off + i * 17 + 15, none⟩ = some (.int .u8 (a14.toNat : Nat)) := hel 15 _ rfl
            have q16 : W.cell? ⟨b, off + i * 17 + 16, none⟩ = some (.int .u8 (a15.toNat : Nat)) := hel 16 _ rfl
            refine ⟨by kernel_rfl, ?_⟩
            gi_step
            exact hK _ _ (Fr.refl _ _) rfl trivial
          simp only [Act.put, List.setIfInBounds_toArray, List.set_cons_succ, List.set_cons_zero]
          refine factWalkG_cons (fun W hW hf K hK => ?_) (fun x4 => ?_)
          · skip
            have e3 : x3 = .agg #[.int .u64 (g : Nat), .int .u8 (a0.toNat : Nat), .int .u8 (a1.toNat : Nat), .int .u8 (a2.toNat : Nat), .int .u8 (a3.toNat : Nat), .int .u8 (a4.toNat : Nat), .int .u8 (a5.toNat : Nat), .int .u8 (a6.toNat : Nat), .int .u8 (a7.toNat : Nat), .int .u8 (a8.toNat : Nat), .int .u8 (a9.toNat : Nat), .int .u8 (a10.toNat : Nat), .int .u8 (a11.toNat : Nat), .int .u8 (a12.toNat : Nat), .int .u8 (a13.toNat : Nat), .int .u8 (a14.toNat : Nat), .int .u8 (a15.toNat : Nat)] := hf 3 (by omega) (by kernel_rfl)
            subst e3
            have hw := HMC.out W
            refine ⟨by kernel_rfl, ?_⟩
            gi_step
            refine ⟨trivial, ?_⟩
            refine (callsIn_wide.2 (hw)).mono ?_
            rintro e W' ⟨rfl, f2⟩
            dsimp only
            exact hK _ _ f2 rfl trivial
          simp only [Act.put, List.setIfInBounds_toArray, List.set_cons_succ, List.set_cons_zero]
          refine factWalkG_cons (fun W hW hf K hK => ?_) (fun x5 => ?_)
          · skip
            have e4 : x4 = .bool false := hf 4 (by omega) (by kernel_rfl)
            subst e4
            refine ⟨by kernel_rfl, ?_⟩
            gi_step
            exact hK _ _ (Fr.refl _ _) rfl trivial
          simp only [Act.put, List.setIfInBounds_toArray, List.set_cons_succ, List.set_cons_zero]
          refine factWalkG_cons (fun W hW hf K hK => ?_) (fun x6 => ?_)
          · skip
            have e5 : x5 = .bool true := hf 5 (by omega) (by kernel_rfl)
            subst e5
            refine ⟨by kernel_rfl, ?_⟩
            gi_step
            exact hK _ _ (Fr.refl _ _) rfl trivial
          simp only [Act.put, List.setIfInBounds_toArray, List.set_cons_succ, List.set_cons_zero]
          refine factWalkG_skip (fun W hW hf => ?_) (fun x7 => ?_)
          · skip
            have e6 : x6 = .bool true := hf 6 (by omega) (by kernel_rfl)
            subst e6
            exact ⟨by kernel_rfl, fun _ _ => trivial, fun K hK => hK _ _ (Fr.refl _ _) rfl trivial⟩
          simp only [Act.put, List.setIfInBounds_toArray, List.set_cons_succ, List.set_cons_zero]
          refine factWalkG_skip (fun W hW hf => ?_) (fun x8 => ?_)
          · skip
            have e6 : x6 = .bool true := hf 6 (by omega) (by kernel_rfl)
            subst e6
            exact ⟨by kernel_rfl, fun _ _ => trivial, fun K hK => hK _ _ (Fr.refl _ _) rfl trivial⟩
          simp only [Act.put, List.setIfInBounds_toArray, List.set_cons_succ, List.set_cons_zero]
          refine factWalkG_skip (fun W hW hf => ?_) (fun x9 => ?_)
          · skip
            have e6 : x6 = .bool true := hf 6 (by omega) (by kernel_rfl)
            subst e6
            exact ⟨by kernel_rfl, fun _ _ => trivial, fun K hK => hK _ _ (Fr.refl _ _) rfl trivial⟩
          simp only [Act.put, List.setIfInBounds_toArray, List.set_cons_succ, List.set_cons_zero]
          refine factWalkG_skip (fun W hW hf => ?_) (fun x10 => ?_)
          · skip
            have e9 : x9 = undef := hf 9 (by omega) (by kernel_rfl)
            subst e9
            exact ⟨by kernel_rfl, fun _ _ => trivial, fun K hK => hK _ _ (Fr.refl _ _) rfl trivial⟩
          simp only [Act.put, List.setIfInBounds_toArray, List.set_cons_succ, List.set_cons_zero]
          refine factWalkG_skip (fun W hW hf => ?_) (fun x11 => ?_)
          · skip
            have e9 : x9 = undef := hf 9 (by omega) (by kernel_rfl)
            subst e9
            exact ⟨by kernel_rfl, fun _ _ => trivial, fun K hK => hK _ _ (Fr.refl _ _) rfl trivial⟩
          simp only [Act.put, List.setIfInBounds_toArray, List.set_cons_succ, List.set_cons_zero]
          refine factWalkG_skip (fun W hW hf => ?_) (fun x12 => ?_)
          · skip
            have e9 : x9 = undef := hf 9 (by omega) (by kernel_rfl)
            subst e9
            exact ⟨by kernel_rfl, fun _ _ => trivial, fun K hK => hK _ _ (Fr.refl _ _) rfl trivial⟩
          simp only [Act.put, List.setIfInBounds_toArray, List.set_cons_succ, List.set_cons_zero]
          refine factWalkG_skip (fun W hW hf => ?_) (fun x13 => ?_)
          · skip
            have e9 : x9 = undef := hf 9 (by omega) (by kernel_rfl)
            subst e9
            exact ⟨by kernel_rfl, fun _ _ => trivial, fun K hK => hK _ _ (Fr.refl _ _) rfl trivial⟩
          simp only [Act.put, List.setIfInBounds_toArray, List.set_cons_succ, List.set_cons_zero]
          refine factWalkG_skip (fun W hW hf => ?_) (fun x14 => ?_)
          · skip
            have e9 : x9 = undef := hf 9 (by omega) (by kernel_rfl)
            subst e9
            exact ⟨by kernel_rfl, fun _ _ => trivial, fun K hK => hK _ _ (Fr.refl _ _) rfl trivial⟩
          simp only [Act.put, List.setIfInBounds_toArray, List.set_cons_succ, List.set_cons_zero]
          refine factWalkG_skip (fun W hW hf => ?_) (fun x15 => ?_)
          · skip
            have e9 : x9 = undef := hf 9 (by omega) (by kernel_rfl)
            subst e9
            exact ⟨by kernel_rfl, fun _ _ => trivial, fun K hK => hK _ _ (Fr.refl _ _) rfl trivial⟩
          simp only [Act.put, List.setIfInBounds_toArray, List.set_cons_succ, List.set_cons_zero]
          refine factWalkG_skip (fun W hW hf => ?_) (fun x16 => ?_)
          · skip
            have e9 : x9 = undef := hf 9 (by omega) (by kernel_rfl)
            subst e9
            exact ⟨by kernel_rfl, fun _ _ => trivial, fun K hK => hK _ _ (Fr.refl _ _) rfl trivial⟩
          simp only [Act.put, List.setIfInBounds_toArray, List.set_cons_succ, List.set_cons_zero]
          refine factWalkG_skip (fun W hW hf => ?_) (fun x17 => ?_)
          · skip
            have e9 : x9 = undef := hf 9 (by omega) (by kernel_rfl)
            subst e9
            exact ⟨by kernel_rfl, fun _ _ => trivial, fun K hK => hK _ _ (Fr.refl _ _) rfl trivial⟩
          simp only [Act.put, List.setIfInBounds_toArray, List.set_cons_succ, List.set_cons_zero]
          refine factWalkG_skip (fun W hW hf => ?_) (fun x18 => ?_)
          · skip
            have e9 : x9 = undef := hf 9 (by omega) (by kernel_rfl)
            subst e9
            exact ⟨by kernel_rfl, fun _ _ => trivial, fun K hK => hK _ _ (Fr.refl _ _) rfl trivial⟩
          simp only [Act.put, List.setIfInBounds_toArray, List.set_cons_succ, List.set_cons_zero]
          refine factWalkG_skip (fun W hW hf => ?_) (fun x19 => ?_)
          · skip
            have e9 : x9 = undef := hf 9 (by omega) (by kernel_rfl)
            subst e9
            exact ⟨by kernel_rfl, fun _ _ => trivial, fun K hK => hK _ _ (Fr.refl _ _) rfl trivial⟩
          simp only [Act.put, List.setIfInBounds_toArray, List.set_cons_succ, List.set_cons_zero]
          refine factWalkG_skip (fun W hW hf => ?_) (fun x20 => ?_)
          · skip
            have e9 : x9 = undef := hf 9 (by omega) (by kernel_rfl)
            subst e9
            exact ⟨by kernel_rfl, fun _ _ => trivial, fun K hK => hK _ _ (Fr.refl _ _) rfl trivial⟩
          simp only [Act.put, List.setIfInBounds_toArray, List.set_cons_succ, List.set_cons_zero]
          refine factWalkG_skip (fun W hW hf => ?_) (fun x21 => ?_)
          · skip
            have e9 : x9 = undef := hf 9 (by omega) (by kernel_rfl)
            subst e9
            exact ⟨by kernel_rfl, fun _ _ => trivial, fun K hK => hK _ _ (Fr.refl _ _) rfl trivial⟩
          simp only [Act.put, List.setIfInBounds_toArray, List.set_cons_succ, List.set_cons_zero]
          refine factWalkG_skip (fun W hW hf => ?_) (fun x22 => ?_)
          · skip
            have e9 : x9 = undef := hf 9 (by omega) (by kernel_rfl)
            subst e9
            exact ⟨by kernel_rfl, fun _ _ => trivial, fun K hK => hK _ _ (Fr.refl _ _) rfl trivial⟩
          simp only [Act.put, List.setIfInBounds_toArray, List.set_cons_succ, List.set_cons_zero]
          refine factWalkG_skip (fun W hW hf => ?_) (fun x23 => ?_)
          · skip
            have e6 : x6 = .bool true := hf 6 (by omega) (by kernel_rfl)
            subst e6
            exact ⟨by kernel_rfl, fun _ _ => trivial, fun K hK => hK _ _ (Fr.refl _ _) rfl trivial⟩
          simp only [Act.put, List.setIfInBounds_toArray, List.set_cons_succ, List.set_cons_zero]
          refine factWalkG_cons (fun W hW hf K hK => ?_) (fun x24 => ?_)
          · skip
            have e6 : x6 = .bool true := hf 6 (by omega) (by kernel_rfl)
            have e23 : x23 = undef := hf 23 (by omega) (by kernel_rfl)
            subst e6 e23
            refine ⟨by kernel_rfl, ?_⟩
            gi_step
            exact hK _ _ (Fr.refl _ _) rfl trivial
          simp only [Act.put, List.setIfInBounds_toArray, List.set_cons_succ, List.set_cons_zero]

          refine factWalkG_nil (fun W hW hf2 hmet => ?_)
          have f24 : x24 = .bool true := hf2 24 (by omega)
          subst f24
          have HFW := Lib.hid (hf.out.trans (HDR.out W hW) (fun _ _ h => h))
          clear hf2 hmet hW HDR
          change wpAnyIn _ _ _ _ _ _ 0 _ _ _
          refine wpAnyIn_done (by kernel_rfl) ?_ _
          have hch := chL_false hil (show lk l i = false by
            unfold lk
            rw [List.getD_eq_getElem?_getD, List.getElem?_eq_getElem hil, HX.out]
            simp [HRR.out])
          clear HMC
          go_wp2_with fail
          go_ret
          exact ⟨by rw [hch]; rfl, HFW.out⟩
      | true =>
        rcases Nat.eq_zero_or_pos i with hi0 | hi0
        · as_aux_lemma =>
          have HGT := Lib.hid (show decide ((0 : Int) < (i : Nat)) = false from decide_eq_false (by omega))
          have HGN := Lib.hid (show decide (0 < i) = false from decide_eq_false (by omega))
          have HI0 := Lib.hid hi0
          clear hi0
          refine (wpIn_wide (n := 9)).1 ?_
          refine wpIn_region_factsG (ms := [0, 0, 3, 7, 15, 31, 63, 127, 255, 511, 1023, 1023, 3071, 8191, 16383, 32767, 1023, 1023, 197631, 459775, 984063, 2032639, 4194303, 8388607, 16777215]) (k := 25) (Fr (fun _ => False)) (rcB b off n c i g a0 a1 a2 a3 a4 a5 a6 a7 a8 a9 a10 a11 a12 a13 a14 a15) (fun i v W => True) (by kernel_rfl) (by kernel_rfl) (Fr.refl _ _) (fun a b c h1 h2 => h1.trans h2 (fun _ _ h => h)) (fun i v w w' hg hx => rcB_far hg hx) ?walkrcB
          case walkrcB =>
          have hdr : ∀ W, Fr (fun _ => False) wr.drew W → Fr (fun _ => False) wr W := fun W h => ((Fr.refl (fun _ => False) wr).drew).trans h (fun _ _ h => h)
          have HDR := Lib.hid hdr
          clear hdr
          refine factWalkG_cons (fun W hW hf K hK => ?_) (fun x0 => ?_)
          · skip
            refine ⟨by kernel_rfl, ?_⟩
            gi_step
            exact hK _ _ (Fr.refl _ _) rfl trivial
          simp only [Act.put, List.setIfInBounds_toArray, List.set_cons_succ, List.set_cons_zero]
          refine factWalkG_cons (fun W hW hf K hK => ?_) (fun x1 => ?_)
          · skip
            refine ⟨by kernel_rfl, ?_⟩
            gi_step
            exact hK _ _ (Fr.refl _ _) rfl trivial
          simp only [Act.put, List.setIfInBounds_toArray, List.set_cons_succ, List.set_cons_zero]
          refine factWalkG_cons (fun W hW hf K hK => ?_) (fun x2 => ?_)
          · skip
            have e0 : x0 = .slice (some ⟨b, off, none⟩) n c := hf 0 (by omega) (by kernel_rfl)
            have e1 : x1 = .int .i64 (i : Nat) := hf 1 (by omega) (by kernel_rfl)
            subst e0 e1
            have hk0 : (0 : Int) ≤ (i : Nat) := by omega
            have hk1 : ((i : Nat) : Int) < (n : Nat) := HIN.out
            refine ⟨by kernel_rfl, ?_⟩
            gi_step
            exact hK _ _ (Fr.refl _ _) rfl trivial
          simp only [Act.put, List.setIfInBounds_toArray, List.set_cons_succ, List.set_cons_zero]
          refine factWalkG_cons (fun W hW hf K hK => ?_) (fun x3 => ?_)
          · skip
            have e2 : x2 = .pointer (some ⟨b, off + i * 17, none⟩) := hf 2 (by omega) (by kernel_rfl)
            subst e2
            have hel := HEL.out W (HDR.out W hW)
            have q0 : W.cell? ⟨b, off + i * 17, none⟩ = some (.int .u64 (g : Nat)) := hel 0 _ rfl
            have q1 : W.cell? ⟨b, off + i * 17 + 1, none⟩ = some (.int .u8 (a0.toNat : Nat)) := hel 1 _ rfl
            have q2 : W.cell? ⟨b, off + i * 17 + 2, none⟩ = some (.int .u8 (a1.toNat : Nat)) := hel 2 _ rfl
            have q3 : W.cell? ⟨b, off + i * 17 + 3, none⟩ = some (.int .u8 (a2.toNat : Nat)) := hel 3 _ rfl
            have q4 : W.cell? ⟨b, off + i * 17 + 4, none⟩ = some (.int .u8 (a3.toNat : Nat)) := hel 4 _ rfl
            have q5 : W.cell? ⟨b, off + i * 17 + 5, none⟩ = some (.int .u8 (a4.toNat : Nat)) := hel 5 _ rfl
            have q6 : W.cell? ⟨b, off + i * 17 + 6, none⟩ = some (.int .u8 (a5.toNat : Nat)) := hel 6 _ rfl
            have q7 : W.cell? ⟨b, off + i * 17 + 7, none⟩ = some (.int .u8 (a6.toNat : Nat)) := hel 7 _ rfl
            have q8 : W.cell? ⟨b, off + i * 17 + 8, none⟩ = some (.int .u8 (a7.toNat : Nat)) := hel 8 _ rfl
            have q9 : W.cell? ⟨b, off + i * 17 + 9, none⟩ = some (.int .u8 (a8.toNat : Nat)) := hel 9 _ rfl
            have q10 : W.cell? ⟨b, off + i * 17 + 10, none⟩ = some (.int .u8 (a9.toNat : Nat)) := hel 10 _ rfl
            have q11 : W.cell? ⟨b, off + i * 17 + 11, none⟩ = some (.int .u8 (a10.toNat : Nat)) := hel 11 _ rfl
            have q12 : W.cell? ⟨b, off + i * 17 + 12, none⟩ = some (.int .u8 (a11.toNat : Nat)) := hel 12 _ rfl
            have q13 : W.cell? ⟨b, off + i * 17 + 13, none⟩ = some (.int .u8 (a12.toNat : Nat)) := hel 13 _ rfl
            have q14 : W.cell? ⟨b, off + i * 17 + 14, none⟩ = some (.int .u8 (a13.toNat : Nat)) := hel 14 _ rfl
            have q15 : W.cell? ⟨b, off + i * 17 + 15, none⟩ = some (.int .u8 (a14.toNat : Nat)) := hel 15 _ rfl
            have q16 : W.cell? ⟨b, off + i * 17 + 16, none⟩ = some (.int .u8 (a15.toNat : Nat)) := hel 16 _ rfl
            refine ⟨by kernel_rfl, ?_⟩
            gi_step
            exact hK _ _ (Fr.refl _ _) rfl trivial
          simp only [Act.put, List.setIfInBounds_toArray, List.set_cons_succ, List.set_cons_zero]
          refine factWalkG_cons (fun W hW hf K hK => ?_) (fun x4 => ?_)
          · skip
            have e3 : x3 = .agg #[.int .u64 (g : Nat), .int .u8 (a0.toNat : Nat), .int .u8 (a1.toNat : Nat), .int .u8 (a2.toNat : Nat), .int .u8 (a3.toNat : Nat), .int .u8 (a4.toNat : Nat), .int .u8 (a5.toNat : Nat), .int .u8 (a6.toNat : Nat), .int .u8 (a7.toNat : Nat), .int .u8 (a8.toNat : Nat), .int .u8 (a9.toNat : Nat), .int .u8 (a10.toNat : Nat), .int .u8 (a11.toNat : Nat), .int .u8 (a12.toNat : Nat), .int .u8 (a13.toNat : Nat), .int .u8 (a14.toNat : Nat), .int .u8 (a15.toNat : Nat)] := hf 3 (by omega) (by kernel_rfl)
            subst e3
            have hw := HMC.out W
            refine ⟨by kernel_rfl, ?_⟩
            gi_step
            refine ⟨trivial, ?_⟩
            refine (callsIn_wide.2 (hw)).mono ?_
            rintro e W' ⟨rfl, f2⟩
            dsimp only
            exact hK _ _ f2 rfl trivial
          simp only [Act.put, List.setIfInBounds_toArray, List.set_cons_succ, List.set_cons_zero]
          refine factWalkG_cons (fun W hW hf K hK => ?_) (fun x5 => ?_)
          · skip
            have e4 : x4 = .bool true := hf 4 (by omega) (by kernel_rfl)
            subst e4
            refine ⟨by kernel_rfl, ?_⟩
            gi_step
            exact hK _ _ (Fr.refl _ _) rfl trivial
          simp only [Act.put, List.setIfInBounds_toArray, List.set_cons_succ, List.set_cons_zero]
          refine factWalkG_cons (fun W hW hf K hK => ?_) (fun x6 => ?_)
          · skip
            have e5 : x5 = .bool false := hf 5 (by omega) (by kernel_rfl)
            subst e5
            refine ⟨by kernel_rfl, ?_⟩
            gi_step
            exact hK _ _ (Fr.refl _ _) rfl trivial
          simp only [Act.put, List.setIfInBounds_toArray, List.set_cons_succ, List.set_cons_zero]
          refine factWalkG_cons (fun W hW hf K hK => ?_) (fun x7 => ?_)
          · skip
            have e6 : x6 = .bool false := hf 6 (by omega) (by kernel_rfl)
            subst e6
            refine ⟨by kernel_rfl, ?_⟩
            gi_step
            exact hK _ _ (Fr.refl _ _) rfl trivial
          simp only [Act.put, List.setIfInBounds_toArray, List.set_cons_succ, List.set_cons_zero]
          refine factWalkG_cons (fun W hW hf K hK => ?_) (fun x8 => ?_)
          · skip
            have e6 : x6 = .bool false := hf 6 (by omega) (by kernel_rfl)
            have e7 : x7 = .int .i64 (i : Nat) := hf 7 (by omega) (by kernel_rfl)
            subst e6 e7
            have hgt := HGT.out
            refine ⟨by kernel_rfl, ?_⟩
            gi_step
            first
            | exact hK _ _ (Fr.refl _ _) rfl trivial
            | (rw [HGN.out]; exact hK _ _ (Fr.refl _ _) rfl trivial)
          simp only [Act.put, List.setIfInBounds_toArray, List.set_cons_succ, List.set_cons_zero]
          refine factWalkG_cons (fun W hW hf K hK => ?_) (fun x9 => ?_)
          · skip
            have e6 : x6 = .bool false := hf 6 (by omega) (by kernel_rfl)
            have e8 : x8 = .bool false := hf 8 (by omega) (by kernel_rfl)
            subst e6 e8
            refine ⟨by kernel_rfl, ?_⟩
            gi_step
            exact hK _ _ (Fr.refl _ _) rfl trivial
          simp only [Act.put, List.setIfInBounds_toArray, List.set_cons_succ, List.set_cons_zero]
          refine factWalkG_skip (fun W hW hf => ?_) (fun x10 => ?_)
          · skip
            have e9 : x9 = .bool false := hf 9 (by omega) (by kernel_rfl)
            subst e9
            exact ⟨by kernel_rfl, fun _ _ => trivial, fun K hK => hK _ _ (Fr.refl _ _) rfl trivial⟩
          simp only [Act.put, List.setIfInBounds_toArray, List.set_cons_succ, List.set_cons_zero]
          refine factWalkG_skip (fun W hW hf => ?_) (fun x11 => ?_)
          · skip
            have e9 : x9 = .bool false := hf 9 (by omega) (by kernel_rfl)
            subst e9
            exact ⟨by kernel_rfl, fun _ _ => trivial, fun K hK => hK _ _ (Fr.refl _ _) rfl trivial⟩
          simp only [Act.put, List.setIfInBounds_toArray, List.set_cons_succ, List.set_cons_zero]
          refine factWalkG_skip (fun W hW hf => ?_) (fun x12 => ?_)
          · skip
            have e9 : x9 = .bool false := hf 9 (by omega) (by kernel_rfl)
            subst e9
            exact ⟨by kernel_rfl, fun _ _ => trivial, fun K hK => hK _ _ (Fr.refl _ _) rfl trivial⟩
          simp only [Act.put, List.setIfInBounds_toArray, List.set_cons_succ, List.set_cons_zero]
          refine factWalkG_skip (fun W hW hf => ?_) (fun x13 => ?_)
          · skip
            have e9 : x9 = .bool false := hf 9 (by omega) (by kernel_rfl)
            subst e9
            exact ⟨by kernel_rfl, fun _ _ => trivial, fun K hK => hK _ _ (Fr.refl _ _) rfl trivial⟩
          simp only [Act.put, List.setIfInBounds_toArray, List.set_cons_succ, List.set_cons_zero]
          refine factWalkG_skip (fun W hW hf => ?_) (fun x14 => ?_)
          · skip
            have e9 : x9 = .bool false := hf 9 (by omega) (by kernel_rfl)
            subst e9
            exact ⟨by kernel_rfl, fun _ _ => trivial, fun K hK => hK _ _ (Fr.refl _ _) rfl trivial⟩
          simp only [Act.put, List.setIfInBounds_toArray, List.set_cons_succ, List.set_cons_zero]
          refine factWalkG_skip (fun W hW hf => ?_) (fun x15 => ?_)
          · skip
            have e9 : x9 = .bool false := hf 9 (by omega) (by kernel_rfl)
            subst e9
            exact ⟨by kernel_rfl, fun _ _ => trivial, fun K hK => hK _ _ (Fr.refl _ _) rfl trivial⟩
          simp only [Act.put, List.setIfInBounds_toArray, List.set_cons_succ, List.set_cons_zero]
          refine factWalkG_skip (fun W hW hf => ?_) (fun x16 => ?_)
          · skip
            have e9 : x9 = .bool false := hf 9 (by omega) (by kernel_rfl)
            subst e9
            exact ⟨by kernel_rfl, fun _ _ => trivial, fun K hK => hK _ _ (Fr.refl _ _) rfl trivial⟩
          simp only [Act.put, List.setIfInBounds_toArray, List.set_cons_succ, List.set_cons_zero]
          refine factWalkG_skip (fun W hW hf => ?_) (fun x17 => ?_)
          · skip
            have e9 : x9 = .bool false := hf 9 (by omega) (by kernel_rfl)
            subst e9
            exact ⟨by kernel_rfl, fun _ _ => trivial, fun K hK => hK _ _ (Fr.refl _ _) rfl trivial⟩
          simp only [Act.put, List.setIfInBounds_toArray, List.set_cons_succ, List.set_cons_zero]
          refine factWalkG_skip (fun W hW hf => ?_) (fun x18 => ?_)
          · skip
            have e9 : x9 = .bool false := hf 9 (by omega) (by kernel_rfl)
            subst e9
            exact ⟨by kernel_rfl, fun _ _ => trivial, fun K hK => hK _ _ (Fr.refl _ _) rfl trivial⟩
          simp only [Act.put, List.setIfInBounds_toArray, List.set_cons_succ, List.set_cons_zero]
          refine factWalkG_skip (fun W hW hf => ?_) (fun x19 => ?_)
          · skip
            have e9 : x9 = .bool false := hf 9 (by omega) (by kernel_rfl)
            subst e9
            exact ⟨by kernel_rfl, fun _ _ => trivial, fun K hK => hK _ _ (Fr.refl _ _) rfl trivial⟩
          simp only [Act.put, List.setIfInBounds_toArray, List.set_cons_succ, List.set_cons_zero]
          refine factWalkG_skip (fun W hW hf => ?_) (fun x20 => ?_)
          · skip
            have e9 : x9 = .bool false := hf 9 (by omega) (by kernel_rfl)
            subst e9
            exact ⟨by kernel_rfl, fun _ _ => trivial, fun K hK => hK _ _ (Fr.refl _ _) rfl trivial⟩
          simp only [Act.put, List.setIfInBounds_toArray, List.set_cons_succ, List.set_cons_zero]
          refine factWalkG_skip (fun W hW hf => ?_) (fun x21 => ?_)
          · skip
            have e9 : x9 = .bool false := hf 9 (by omega) (by kernel_rfl)
            subst e9
            exact ⟨by kernel_rfl, fun _ _ => trivial, fun K hK => hK _ _ (Fr.refl _ _) rfl trivial⟩
          simp only [Act.put, List.setIfInBounds_toArray, List.set_cons_succ, List.set_cons_zero]
          refine factWalkG_skip (fun W hW hf => ?_) (fun x22 => ?_)
          · skip
            have e9 : x9 = .bool false := hf 9 (by omega) (by kernel_rfl)
            subst e9
            exact ⟨by kernel_rfl, fun _ _ => trivial, fun K hK => hK _ _ (Fr.refl _ _) rfl trivial⟩
          simp only [Act.put, List.setIfInBounds_toArray, List.set_cons_succ, List.set_cons_zero]
          refine factWalkG_cons (fun W hW hf K hK => ?_) (fun x23 => ?_)
          · skip
            have e6 : x6 = .bool false := hf 6 (by omega) (by kernel_rfl)
            have e9 : x9 = .bool false := hf 9 (by omega) (by kernel_rfl)
            have e22 : x22 = undef := hf 22 (by omega) (by kernel_rfl)
            subst e6 e9 e22
            refine ⟨by kernel_rfl, ?_⟩
            gi_step
            exact hK _ _ (Fr.refl _ _) rfl trivial
          simp only [Act.put, List.setIfInBounds_toArray, List.set_cons_succ, List.set_cons_zero]
          refine factWalkG_cons (fun W hW hf K hK => ?_) (fun x24 => ?_)
          · skip
            have e6 : x6 = .bool false := hf 6 (by omega) (by kernel_rfl)
            have e23 : x23 = .bool false := hf 23 (by omega) (by kernel_rfl)
            subst e6 e23
            refine ⟨by kernel_rfl, ?_⟩
            gi_step
            exact hK _ _ (Fr.refl _ _) rfl trivial
          simp only [Act.put, List.setIfInBounds_toArray, List.set_cons_succ, List.set_cons_zero]

          refine factWalkG_nil (fun W hW hf2 hmet => ?_)
          have f24 : x24 = .bool false := hf2 24 (by omega)
          subst f24
          have HFW := Lib.hid (hf.out.trans (HDR.out W hW) (fun _ _ h => h))
          clear hf2 hmet hW HDR
          change wpAnyIn _ _ _ _ _ _ 0 _ _ _
          refine wpAnyIn_done (by kernel_rfl) ?_ _
          have hno2 : Hid (∀ j, j < i + 1 → lk l j = true) := fun j hj => by
            obtain rfl : j = i := by have := HI0.out; omega
            unfold lk
            rw [List.getD_eq_getElem?_getD, List.getElem?_eq_getElem hil, HX.out]
            simp [HRR.out, HI0.out]
          clear HMC
          go_wp2_with fail
          refine ⟨⟨i + 1, rfl, by omega, hno2, HFW.out⟩, by simp only [intOf]; omega⟩
        · as_aux_lemma =>
          obtain ⟨k, rfl⟩ : ∃ k, i = k + 1 := ⟨i - 1, by omega⟩
          have hkl : k < l.length := by omega
          obtain ⟨⟨gp, sp⟩, hxp⟩ : ∃ x : Nm, l[k] = x := ⟨_, rfl⟩
          have HGT := Lib.hid (show decide ((0 : Int) < ((k + 1 : Nat) : Int)) = true from decide_eq_true (by omega))
          have hcp : ∀ W, Fr (fun _ => False) wr W → W.cell? ⟨b, off + k * 17, none⟩ = some (.int .u64 (gp : Nat)) := fun W hW => by
            have h1 := (HR.out.far (hf.out.trans hW (fun _ _ h => h))).cell (k := k * 17) (by omega)
            have h2 := rcs_at HL.out hkl (j := 0) (by omega)
            rw [h1]
            rw [Nat.add_zero] at h2
            rw [h2, hxp]
            rfl
          have hgb : 1 ≤ g ∧ g ≤ 4611686018427387903 := by
            have := HRR.out
            unfold mayG at this
            exact of_decide_eq_true this
          have hwk : IntKind.i64.wrap (((k + 1 : Nat) : Int) - 1) = (k : Nat) := by rw [IntWalk.i64_in _ (by omega)]; omega
          have hkn : ((k : Nat) : Int) < (n : Nat) := by omega
          have hwg : IntKind.u64.wrap ((g : Nat) + 1) = ((g + 1 : Nat) : Int) := by rw [IntWalk.u64_in _ (by omega)]; omega
          obtain ⟨d, hd⟩ : ∃ d : Bool, (((gp : Nat) : Int) != ((g : Nat) : Int) + 1) = !d := ⟨!(((gp : Nat) : Int) != ((g : Nat) : Int) + 1), by simp⟩
          have HCP := Lib.hid hcp
          have HWK := Lib.hid hwk
          have HKN := Lib.hid hkn
          have HWG := Lib.hid hwg
          have HDD := Lib.hid hd
          have HXP := Lib.hid hxp
          clear hcp hwk hkn hwg hd hxp
          refine (wpIn_wide (n := 9)).1 ?_
          refine wpIn_region_factsG (ms := [0, 0, 3, 7, 15, 31, 63, 127, 255, 511, 1023, 1023, 3071, 8191, 16383, 32767, 1023, 1023, 197631, 459775, 984063, 2032639, 4194303, 8388607, 16777215]) (k := 25) (Fr (fun _ => False)) (rcC b off n c (k + 1) k g gp d a0 a1 a2 a3 a4 a5 a6 a7 a8 a9 a10 a11 a12 a13 a14 a15) (fun i v W => True) (by kernel_rfl) (by kernel_rfl) (Fr.refl _ _) (fun a b c h1 h2 => h1.trans h2 (fun _ _ h => h)) (fun i v w w' hg hx => rcC_far hg hx) ?walkrcC
          case walkrcC =>
          have hdr : ∀ W, Fr (fun _ => False) wr.drew W → Fr (fun _ => False) wr W := fun W h => ((Fr.refl (fun _ => False) wr).drew).trans h (fun _ _ h => h)
          have HDR := Lib.hid hdr
          clear hdr
          refine factWalkG_cons (fun W hW hf K hK => ?_) (fun x0 => ?_)
          · skip
            refine ⟨by kernel_rfl, ?_⟩
            gi_step
            exact hK _ _ (Fr.refl _ _) rfl trivial
          simp only [Act.put, List.setIfInBounds_toArray, List.set_cons_succ, List.set_cons_zero]
          refine factWalkG_cons (fun W hW hf K hK => ?_) (fun x1 => ?_)
          · skip
            refine ⟨by kernel_rfl, ?_⟩
            gi_step
            exact hK _ _ (Fr.refl _ _) rfl trivial
          simp only [Act.put, List.setIfInBounds_toArray, List.set_cons_succ, List.set_cons_zero]
          refine factWalkG_cons (fun W hW hf K hK => ?_) (fun x2 => ?_)
          · skip
            have e0 : x0 = .slice (some ⟨b, off, none⟩) n c := hf 0 (by omega) (by kernel_rfl)
            have e1 : x1 = .int .i64 ((k + 1 : Nat)) := hf 1 (by omega) (by kernel_rfl)
            subst e0 e1
            have hk0 : (0 : Int) ≤ ((k + 1 : Nat)) := by omega
            have hk1 : (((k + 1 : Nat)) : Int) < (n : Nat) := HIN.out
            refine ⟨by kernel_rfl, ?_⟩
            gi_step
            exact hK _ _ (Fr.refl _ _) rfl trivial
          simp only [Act.put, List.setIfInBounds_toArray, List.set_cons_succ, List.set_cons_zero]
          refine factWalkG_cons (fun W hW hf K hK => ?_) (fun x3 => ?_)
          · skip
            have e2 : x2 = .pointer (some ⟨b, off + (k + 1) * 17, none⟩) := hf 2 (by omega) (by kernel_rfl)
            subst e2
            have hel := HEL.out W (HDR.out W hW)
            have q0 : W.cell? ⟨b, off + (k + 1) * 17, none⟩ = some (.int .u64 (g : Nat)) := hel 0 _ rfl
            have q1 : W.cell? ⟨b, off + (k + 1) * 17 + 1, none⟩ = some (.int .u8 (a0.toNat : Nat)) := hel 1 _ rfl
            have q2 : W.cell? ⟨b, off + (k + 1) * 17 + 2, none⟩ = some (.int .u8 (a1.toNat : Nat)) := hel 2 _ rfl
            have q3 : W.cell? ⟨b, off + (k + 1) * 17 + 3, none⟩ = some (.int .u8 (a2.toNat : Nat)) := hel 3 _ rfl
            have q4 : W.cell? ⟨b, off + (k + 1) * 17 + 4, none⟩ = some (.int .u8 (a3.toNat : Nat)) := hel 4 _ rfl
            have q5 : W.cell? ⟨b, off + (k + 1) * 17 + 5, none⟩ = some (.int .u8 (a4.toNat : Nat)) := hel 5 _ rfl
            have q6 : W.cell? ⟨b, off + (k + 1) * 17 + 6, none⟩ = some (.int .u8 (a5.toNat : Nat)) := hel 6 _ rfl
            have q7 : W.cell? ⟨b, off + (k + 1) * 17 + 7, none⟩ = some (.int .u8 (a6.toNat : Nat)) := hel 7 _ rfl
            have q8 : W.cell? ⟨b, off + (k + 1) * 17 + 8, none⟩ = some (.int .u8 (a7.toNat : Nat)) := hel 8 _ rfl
            have q9 : W.cell? ⟨b, off + (k + 1) * 17 + 9, none⟩ = some (.int .u8 (a8.toNat : Nat)) := hel 9 _ rfl
            have q10 : W.cell? ⟨b, off + (k + 1) * 17 + 10, none⟩ = some (.int .u8 (a9.toNat : Nat)) := hel 10 _ rfl
            have q11 : W.cell? ⟨b, off + (k + 1) * 17 + 11, none⟩ = some (.int .u8 (a10.toNat : Nat)) := hel 11 _ rfl
            have q12 : W.cell? ⟨b, off + (k + 1) * 17 + 12, none⟩ = some (.int .u8 (a11.toNat : Nat)) := hel 12 _ rfl
            have q13 : W.cell? ⟨b, off + (k + 1) * 17 + 13, none⟩ = some (.int .u8 (a12.toNat : Nat)) := hel 13 _ rfl
            have q14 : W.cell? ⟨b, off + (k + 1) * 17 + 14, none⟩ = some (.int .u8 (a13.toNat : Nat)) := hel 14 _ rfl
            have q15 : W.cell? ⟨b, off + (k + 1) * 17 + 15, none⟩ = some (.int .u8 (a14.toNat : Nat)) := hel 15 _ rfl
            have q16 : W.cell? ⟨b, off + (k + 1) * 17 + 16, none⟩ = some (.int .u8 (a15.toNat : Nat)) := hel 16 _ rfl
            refine ⟨by kernel_rfl, ?_⟩
            gi_step
            exact hK _ _ (Fr.refl _ _) rfl trivial
          simp only [Act.put, List.setIfInBounds_toArray, List.set_cons_succ, List.set_cons_zero]
          refine factWalkG_cons (fun W hW hf K hK => ?_) (fun x4 => ?_)
          · skip
            have e3 : x3 = .agg #[.int .u64 (g : Nat), .int .u8 (a0.toNat : Nat), .int .u8 (a1.toNat : Nat), .int .u8 (a2.toNat : Nat), .int .u8 (a3.toNat : Nat), .int .u8 (a4.toNat : Nat), .int .u8 (a5.toNat : Nat), .int .u8 (a6.toNat : Nat), .int .u8 (a7.toNat : Nat), .int .u8 (a8.toNat : Nat), .int .u8 (a9.toNat : Nat), .int .u8 (a10.toNat : Nat), .int .u8 (a11.toNat : Nat), .int .u8 (a12.toNat : Nat), .int .u8 (a13.toNat : Nat), .int .u8 (a14.toNat : Nat), .int .u8 (a15.toNat : Nat)] := hf 3 (by omega) (by kernel_rfl)
            subst e3
            have hw := HMC.out W
            refine ⟨by kernel_rfl, ?_⟩
            gi_step
            refine ⟨trivial, ?_⟩
            refine (callsIn_wide.2 (hw)).mono ?_
            rintro e W' ⟨rfl, f2⟩
            dsimp only
            exact hK _ _ f2 rfl trivial
          simp only [Act.put, List.setIfInBounds_toArray, List.set_cons_succ, List.set_cons_zero]
          refine factWalkG_cons (fun W hW hf K hK => ?_) (fun x5 => ?_)
          · skip
            have e4 : x4 = .bool true := hf 4 (by omega) (by kernel_rfl)
            subst e4
            refine ⟨by kernel_rfl, ?_⟩
            gi_step
            exact hK _ _ (Fr.refl _ _) rfl trivial
          simp only [Act.put, List.setIfInBounds_toArray, List.set_cons_succ, List.set_cons_zero]
          refine factWalkG_cons (fun W hW hf K hK => ?_) (fun x6 => ?_)
          · skip
            have e5 : x5 = .bool false := hf 5 (by omega) (by kernel_rfl)
            subst e5
            refine ⟨by kernel_rfl, ?_⟩
            gi_step
            exact hK _ _ (Fr.refl _ _) rfl trivial
          simp only [Act.put, List.setIfInBounds_toArray, List.set_cons_succ, List.set_cons_zero]
          refine factWalkG_cons (fun W hW hf K hK => ?_) (fun x7 => ?_)
          · skip
            have e6 : x6 = .bool false := hf 6 (by omega) (by kernel_rfl)
            subst e6
            refine ⟨by kernel_rfl, ?_⟩
            gi_step
            exact hK _ _ (Fr.refl _ _) rfl trivial
          simp only [Act.put, List.setIfInBounds_toArray, List.set_cons_succ, List.set_cons_zero]
          refine factWalkG_cons (fun W hW hf K hK => ?_) (fun x8 => ?_)
          · skip
            have e6 : x6 = .bool false := hf 6 (by omega) (by kernel_rfl)
            have e7 : x7 = .int .i64 ((k + 1 : Nat)) := hf 7 (by omega) (by kernel_rfl)
            subst e6 e7
            have hgt := HGT.out
            refine ⟨by kernel_rfl, ?_⟩
            gi_step
            exact hK _ _ (Fr.refl _ _) rfl trivial
          simp only [Act.put, List.setIfInBounds_toArray, List.set_cons_succ, List.set_cons_zero]
          refine factWalkG_cons (fun W hW hf K hK => ?_) (fun x9 => ?_)
          · skip
            have e6 : x6 = .bool false := hf 6 (by omega) (by kernel_rfl)
            have e8 : x8 = .bool true := hf 8 (by omega) (by kernel_rfl)
            subst e6 e8
            refine ⟨by kernel_rfl, ?_⟩
            gi_step
            exact hK _ _ (Fr.refl _ _) rfl trivial
          simp only [Act.put, List.setIfInBounds_toArray, List.set_cons_succ, List.set_cons_zero]
          refine factWalkG_cons (fun W hW hf K hK => ?_) (fun x10 => ?_)
          · skip
            have e9 : x9 = .bool true := hf 9 (by omega) (by kernel_rfl)
            subst e9
            refine ⟨by kernel_rfl, ?_⟩
            gi_step
            exact hK _ _ (Fr.refl _ _) rfl trivial
          simp only [Act.put, List.setIfInBounds_toArray, List.set_cons_succ, List.set_cons_zero]
          refine factWalkG_cons (fun W hW hf K hK => ?_) (fun x11 => ?_)
          · skip
            have e9 : x9 = .bool true := hf 9 (by omega) (by kernel_rfl)
            subst e9
            refine ⟨by kernel_rfl, ?_⟩
            gi_step
            exact hK _ _ (Fr.refl _ _) rfl trivial
          simp only [Act.put, List.setIfInBounds_toArray, List.set_cons_succ, List.set_cons_zero]
          refine factWalkG_cons (fun W hW hf K hK => ?_) (fun x12 => ?_)
          · skip
            have e9 : x9 = .bool true := hf 9 (by omega) (by kernel_rfl)
            have e11 : x11 = .int .i64 ((k + 1 : Nat)) := hf 11 (by omega) (by kernel_rfl)
            subst e9 e11
            refine ⟨by kernel_rfl, ?_⟩
            gi_step
            first
            | exact hK _ _ (Fr.refl _ _) rfl trivial
            | (rw [HWK.out]; exact hK _ _ (Fr.refl _ _) rfl trivial)
          simp only [Act.put, List.setIfInBounds_toArray, List.set_cons_succ, List.set_cons_zero]
          refine factWalkG_cons (fun W hW hf K hK => ?_) (fun x13 => ?_)
          · skip
            have e9 : x9 = .bool true := hf 9 (by omega) (by kernel_rfl)
            have e10 : x10 = .slice (some ⟨b, off, none⟩) n c := hf 10 (by omega) (by kernel_rfl)
            have e12 : x12 = .int .i64 (k : Nat) := hf 12 (by omega) (by kernel_rfl)
            subst e9 e10 e12
            have hk0 : (0 : Int) ≤ (k : Nat) := by omega
            have hk1 : ((k : Nat) : Int) < (n : Nat) := HKN.out
            refine ⟨by kernel_rfl, ?_⟩
            gi_step
            exact hK _ _ (Fr.refl _ _) rfl trivial
          simp only [Act.put, List.setIfInBounds_toArray, List.set_cons_succ, List.set_cons_zero]
          refine factWalkG_cons (fun W hW hf K hK => ?_) (fun x14 => ?_)
          · skip
            have e9 : x9 = .bool true := hf 9 (by omega) (by kernel_rfl)
            have e13 : x13 = .pointer (some ⟨b, off + k * 17, none⟩) := hf 13 (by omega) (by kernel_rfl)
            subst e9 e13
            refine ⟨by kernel_rfl, ?_⟩
            gi_step
            exact hK _ _ (Fr.refl _ _) rfl trivial
          simp only [Act.put, List.setIfInBounds_toArray, List.set_cons_succ, List.set_cons_zero]
          refine factWalkG_cons (fun W hW hf K hK => ?_) (fun x15 => ?_)
          · skip
            have e9 : x9 = .bool true := hf 9 (by omega) (by kernel_rfl)
            have e14 : x14 = .pointer (some ⟨b, off + k * 17, none⟩) := hf 14 (by omega) (by kernel_rfl)
            subst e9 e14
            have hc := HCP.out W (HDR.out W hW)
            refine ⟨by kernel_rfl, ?_⟩
            gi_step
            exact hK _ _ (Fr.refl _ _) rfl trivial
          simp only [Act.put, List.setIfInBounds_toArray, List.set_cons_succ, List.set_cons_zero]
          refine factWalkG_cons (fun W hW hf K hK => ?_) (fun x16 => ?_)
          · skip
            have e9 : x9 = .bool true := hf 9 (by omega) (by kernel_rfl)
            subst e9
            refine ⟨by kernel_rfl, ?_⟩
            gi_step
            exact hK _ _ (Fr.refl _ _) rfl trivial
          simp only [Act.put, List.setIfInBounds_toArray, List.set_cons_succ, List.set_cons_zero]
          refine factWalkG_cons (fun W hW hf K hK => ?_) (fun x17 => ?_)
          · skip
            have e9 : x9 = .bool true := hf 9 (by omega) (by kernel_rfl)
            subst e9
            refine ⟨by kernel_rfl, ?_⟩
            gi_step
            exact hK _ _ (Fr.refl _ _) rfl trivial
          simp only [Act.put, List.setIfInBounds_toArray, List.set_cons_succ, List.set_cons_zero]
          refine factWalkG_cons (fun W hW hf K hK => ?_) (fun x18 => ?_)
          · skip
            have e9 : x9 = .bool true := hf 9 (by omega) (by kernel_rfl)
            have e16 : x16 = .slice (some ⟨b, off, none⟩) n c := hf 16 (by omega) (by kernel_rfl)
            have e17 : x17 = .int .i64 ((k + 1 : Nat)) := hf 17 (by omega) (by kernel_rfl)
            subst e9 e16 e17
            have hk0 : (0 : Int) ≤ ((k + 1 : Nat)) := by omega
            have hk1 : (((k + 1 : Nat)) : Int) < (n : Nat) := HIN.out
            refine ⟨by kernel_rfl, ?_⟩
            gi_step
            exact hK _ _ (Fr.refl _ _) rfl trivial
          simp only [Act.put, List.setIfInBounds_toArray, List.set_cons_succ, List.set_cons_zero]
          refine factWalkG_cons (fun W hW hf K hK => ?_) (fun x19 => ?_)
          · skip
            have e9 : x9 = .bool true := hf 9 (by omega) (by kernel_rfl)
            have e18 : x18 = .pointer (some ⟨b, off + (k + 1) * 17, none⟩) := hf 18 (by omega) (by kernel_rfl)
            subst e9 e18
            refine ⟨by kernel_rfl, ?_⟩
            gi_step
            exact hK _ _ (Fr.refl _ _) rfl trivial
          simp only [Act.put, List.setIfInBounds_toArray, List.set_cons_succ, List.set_cons_zero]
          refine factWalkG_cons (fun W hW hf K hK => ?_) (fun x20 => ?_)
          · skip
            have e9 : x9 = .bool true := hf 9 (by omega) (by kernel_rfl)
            have e19 : x19 = .pointer (some ⟨b, off + (k + 1) * 17, none⟩) := hf 19 (by omega) (by kernel_rfl)
            subst e9 e19
            have hel := HEL.out W (HDR.out W hW)
            have q0 : W.cell? ⟨b, off + (k + 1) * 17, none⟩ = some (.int .u64 (g : Nat)) := hel 0 _ rfl
            refine ⟨by kernel_rfl, ?_⟩
            gi_step
            exact hK _ _ (Fr.refl _ _) rfl trivial
          simp only [Act.put, List.setIfInBounds_toArray, List.set_cons_succ, List.set_cons_zero]
          refine factWalkG_cons (fun W hW hf K hK => ?_) (fun x21 => ?_)
          · skip
            have e9 : x9 = .bool true := hf 9 (by omega) (by kernel_rfl)
            have e20 : x20 = .int .u64 (g : Nat) := hf 20 (by omega) (by kernel_rfl)
            subst e9 e20
            have hwg := HWG.out
            refine ⟨by kernel_rfl, ?_⟩
            gi_step
            exact hK _ _ (Fr.refl _ _) rfl trivial
          simp only [Act.put, List.setIfInBounds_toArray, List.set_cons_succ, List.set_cons_zero]
          refine factWalkG_cons (fun W hW hf K hK => ?_) (fun x22 => ?_)
          · skip
            have e9 : x9 = .bool true := hf 9 (by omega) (by kernel_rfl)
            have e15 : x15 = .int .u64 (gp : Nat) := hf 15 (by omega) (by kernel_rfl)
            have e21 : x21 = .int .u64 ((g + 1 : Nat) : Int) := hf 21 (by omega) (by kernel_rfl)
            subst e9 e15 e21
            refine ⟨by kernel_rfl, ?_⟩
            gi_step
            rw [HDD.out]
            exact hK _ _ (Fr.refl _ _) rfl trivial
          simp only [Act.put, List.setIfInBounds_toArray, List.set_cons_succ, List.set_cons_zero]
          refine factWalkG_cons (fun W hW hf K hK => ?_) (fun x23 => ?_)
          · skip
            have e6 : x6 = .bool false := hf 6 (by omega) (by kernel_rfl)
            have e9 : x9 = .bool true := hf 9 (by omega) (by kernel_rfl)
            have e22 : x22 = .bool (!d) := hf 22 (by omega) (by kernel_rfl)
            subst e6 e9 e22
            refine ⟨by kernel_rfl, ?_⟩
            gi_step
            exact hK _ _ (Fr.refl _ _) rfl trivial
          simp only [Act.put, List.setIfInBounds_toArray, List.set_cons_succ, List.set_cons_zero]
          refine factWalkG_cons (fun W hW hf K hK => ?_) (fun x24 => ?_)
          · skip
            have e6 : x6 = .bool false := hf 6 (by omega) (by kernel_rfl)
            have e23 : x23 = .bool (!d) := hf 23 (by omega) (by kernel_rfl)
            subst e6 e23
            refine ⟨by kernel_rfl, ?_⟩
            gi_step
            exact hK _ _ (Fr.refl _ _) rfl trivial
          simp only [Act.put, List.setIfInBounds_toArray, List.set_cons_succ, List.set_cons_zero]

          refine factWalkG_nil (fun W hW hf2 hmet => ?_)
          have f24 : x24 = .bool (!d) := hf2 24 (by omega)
          subst f24
          have HFW := Lib.hid (hf.out.trans (HDR.out W hW) (fun _ _ h => h))
          clear hf2 hmet hW HDR
          change wpAnyIn _ _ _ _ _ _ 0 _ _ _
          refine wpAnyIn_done (by kernel_rfl) ?_ _
          have hlk : lk l (k + 1) = d := by
            unfold lk
            rw [List.getD_eq_getElem?_getD, List.getElem?_eq_getElem hil, HX.out, List.getD_eq_getElem?_getD, show k + 1 - 1 = k by omega, List.getElem?_eq_getElem hkl, HXP.out]
            simp only [Option.getD_some, HRR.out, Bool.true_and]
            rw [show decide (k + 1 = 0) = false by simp, Bool.false_or]
            have h1 := HDD.out
            cases d with
            | true =>
              simp only [Bool.not_true, bne_eq_false_iff_eq] at h1
              exact decide_eq_true (by omega)
            | false =>
              simp only [Bool.not_false, bne_iff_ne, ne_eq] at h1
              exact decide_eq_false (by omega)
          clear HMC HCP HWG HWK
          cases d with
          | true =>
            have hno2 : Hid (∀ j, j < k + 1 + 1 → lk l j = true) := fun j hj => by
              rcases Nat.lt_or_ge j (k + 1) with h | h
              · exact hno.out j h
              · obtain rfl : j = k + 1 := by omega
                exact hlk
            clear hlk
            go_wp2_with fail
            refine ⟨⟨k + 1 + 1, rfl, by omega, hno2, HFW.out⟩, by simp only [intOf]; omega⟩
          | false =>
            have hch := chL_false hil hlk
            clear hlk
            go_wp2_with fail
            go_ret
            exact ⟨by rw [hch]; rfl, HFW.out⟩
    · obtain rfl : i = n := by omega
      have hdl : decide ((i : Int) < (i : Int)) = false := decide_eq_false (by omega)
      have hall := chL_true (l := l) (fun j hj => hno.out j (by rw [← HN.out]; exact hj))
      rw [HN.out] at hall
      have HALL := Lib.hid hall
      clear hall
      by_cases h1 : (0 : Int) < (i : Int)
      · have hd1 : decide ((0 : Int) < (i : Int)) = true := decide_eq_true h1
        go_wp2_with fail
        go_ret
        refine ⟨?_, hf.out⟩
        rw [HALL.out, decide_eq_true (show 1 ≤ i by omega), Bool.true_and]
        have e16 : decide ((i : Int) < 17) = decide (i ≤ 16) := by congr 1; apply propext; omega
        show Ending.returned (.bool (decide ((i : Int) < 17))) = _
        rw [e16]
      · have hd1 : decide ((0 : Int) < (i : Int)) = false := decide_eq_false h1
        go_wp2_with fail
        go_ret
        refine ⟨?_, hf.out⟩
        rw [HALL.out, decide_eq_false (show ¬ 1 ≤ i by omega), Bool.false_and]
        rfl
end Go.Proofs.YtjaocgmicdnghaaDoor
