/-
  CONTRACT of rev.Print.
-/
import Derived.Test.YtjaocgmicdnghaaDoorSh
import Derived.Test.YtjaocgmicdnghaaDoorApp
import Derived.Test.YtjaocgmicdnghaaDoorSum
import Derived.Deep.MidRow
import Derived.IntWalk
namespace Go.Proofs.YtjaocgmicdnghaaDoor
set_option linter.unusedSimpArgs false
set_option linter.unusedVariables false
open Go Go.RowKit Go.Shelf
attribute [local go_sem] Oper.semAt_some

theorem run_index_agg (W : World) (C : Array Value) (i : Nat) (h : i < C.size) (hC : C.size = 16) : (Instr.index 23 (.agg C) (.int .i64 (i : Nat))).run Tryd.prog W = .ok C[i] W := by
  have h2 : (0 : Int) ≤ (i : Int) ∧ (i : Int) < 16 := by omega
  have h3 : ¬ 16 ≤ i := by omega
  simp [Instr.index, run_underlying Tryd.underlying23, asIntOf, go_sem, h2, h, h3]
theorem run_index_hexs (W : World) (k : Nat) (h : k < 16) : (Instr.index 9 (.string ⟨#[48, 49, 50, 51, 52, 53, 54, 55, 56, 57, 97, 98, 99, 100, 101, 102]⟩) (.int .u8 (k : Nat))).run Tryd.prog W = .ok (.int .u8 ((hxd k).toNat : Nat)) W := by
  rw [run_index_string W _ _ _ _ Tryd.underlying9]
  rw [dif_pos ⟨by omega, by show (k : Int) < 16; omega⟩]
  congr 2
  have : ∀ k : Fin 16, ((⟨#[48, 49, 50, 51, 52, 53, 54, 55, 56, 57, 97, 98, 99, 100, 101, 102]⟩ : ByteArray)[((k.val : Nat) : Int).toNat]'(by have := k.2; simp [ByteArray.size])).toNat = (hxd k.val).toNat := by decide +kernel
  rw [this ⟨k, h⟩]
theorem hexL_snoc (l : List UInt8) (c : UInt8) : hexL (l ++ [c]) = hexL l ++ [hxd (c.toNat / 16), hxd (c.toNat % 16)] := by rw [hexL_append]; rfl

theorem print_no (w : World) (g : Nat) (s : List UInt8) (hs : s.length = 16) (hg64 : g < 18446744073709551616) (hg : mayG g = false) :
    Calls Tryd.prog 8 #[.agg (rc g s).toArray] w fun e w' => e = .returned (.tuple #[.string ⟨#[]⟩, .int .i64 1]) ∧ Fr (fun _ => False) w w' := by
  have hmay := fun W => may_c W g s hs hg64
  simp only [hg] at hmay
  have hinf : (Tryd.prog.info? 25).map (·.size) = some (rc g s).toArray.size := by rw [List.size_toArray, rc_len hs]; kernel_rfl
  obtain ⟨C, hC⟩ : ∃ C, (rc g s).toArray = C := ⟨_, rfl⟩
  rw [hC] at hmay hinf ⊢
  have HM := Lib.hid hmay
  have HI := Lib.hid hinf
  clear hmay hC hg hinf hs
  go_enter Tryd.func8, Tryd.ntmps8
  go_upto_region 1 with fail
  refine abs_world (fun W => Hid (Blk W w.heap.size 25 C) ∧ Hid (Fr (fun _ => False) w W)) ⟨Blk.new w _ _, (Fr.refl _ w).alloc _⟩ ?_
  rintro W1 ⟨B0, F1⟩
  go_wp2_with (refine wpList_load_row rfl 25 _ rfl w.heap.size rfl 25 C (0, 0) _ B0.out Tryd.underlying25 rfl HI.out ?_)
  refine (HM.out W1).mono ?_
  rintro e w2 ⟨rfl, f2⟩
  have F2 := Lib.hid (F1.out.trans f2 (fun _ _ h => h))
  clear f2
  go_wp2_with fail
  go_ret2
  exact ⟨rfl, F2.out⟩
def prX (Aq : Option Addr) (p cq x : Nat) (i : Nat) (v : Value) (W : World) : Prop := match i with
  | 0 => v = .slice Aq p cq
  | 1 => v = .int .u8 (x : Nat)
  | 2 => v = .int .u8 ((x / 16 : Nat) : Int)
  | 3 => v = .int .u8 ((hxd (x / 16)).toNat : Nat)
  | 4 => v = .int .u8 (x : Nat)
  | 5 => v = .int .u8 ((x % 16 : Nat) : Int)
  | 6 => v = .int .u8 ((hxd (x % 16)).toNat : Nat)
  | 7 => ∃ g, v = .slice (some ⟨g, 0, none⟩) 2 2 ∧ Blk W g 5 #[.int .u8 ((hxd (x / 16)).toNat : Nat), .int .u8 ((hxd (x % 16)).toNat : Nat)]
  | _ => True
theorem prX_far {Aq : Option Addr} {p cq x : Nat} {i : Nat} {v : Value} {W W' : World} (hg : Fr (fun _ => False) W W') (hx : prX Aq p cq x i v W) : prX Aq p cq x i v W' := by
  match i with
  | 0 => exact hx
  | 1 => exact hx
  | 2 => exact hx
  | 3 => exact hx
  | 4 => exact hx
  | 5 => exact hx
  | 6 => exact hx
  | 7 => obtain ⟨g, e, b⟩ := hx; exact ⟨g, e, b.fr hg (fun h => h)⟩
  | (n + 8) => exact hx
set_option maxRecDepth 100000 in
set_option maxHeartbeats 2000000 in
theorem print_yes (w : World) (g : Nat) (s : List UInt8) (hs : s.length = 16) (hg : mayG g = true) (hL : LaidOk w) :
    Calls Tryd.prog 8 #[.agg (rc g s).toArray] w fun e w' => e = .returned (.tuple #[.string (strOf (txt g s)), .int .i64 0]) ∧ Fr (fun _ => False) w w' := by
  have hg1 : 1 ≤ g ∧ g ≤ 4611686018427387903 := by unfold mayG at hg; simpa using hg
  have hmay := fun W => may_c W g s hs (by omega)
  simp only [hg] at hmay
  have hap := fun W (hW : Fr (fun _ => False) w W) => appendUint_c W g (by omega) (hL.far hW)
  have hinf : (Tryd.prog.info? 25).map (·.size) = some (rc g s).toArray.size := by rw [List.size_toArray, rc_len hs]; kernel_rfl
  have hc0 : (rc g s).toArray[0]? = some (.int .u64 (g : Nat)) := rfl
  have hrow : ∀ W b, Blk W b 25 (rc g s).toArray → W.rangeAt b 1 (bv s) := fun W b hb j u hu => by
    rw [hb.cell, List.getElem?_toArray, Nat.add_comm]
    exact hu
  have hlen : (Lib.decDigits g).length ≤ 20 := by
    rw [Lib.decDigits_length]
    exact Lib.nDigits_le20 g (by omega)
  obtain ⟨C, hC⟩ : ∃ C, (rc g s).toArray = C := ⟨_, rfl⟩
  rw [hC] at hmay hinf hc0 hrow ⊢
  obtain ⟨D, hD⟩ : ∃ D, Lib.decDigits g = D := ⟨_, rfl⟩
  rw [hD] at hap hlen
  obtain ⟨i0, hi0, hz0', hz1', hz2'⟩ := info_parts u8_info
  have HI0 := Lib.hid hi0
  have HM := Lib.hid hmay
  have HI := Lib.hid hinf
  have HAP := Lib.hid hap
  have HROW := Lib.hid hrow
  have HC0 := Lib.hid hc0
  have HS := Lib.hid hs
  have HD := Lib.hid hD
  have HL := Lib.hid hlen
  clear hmay hC hg hinf hs hap hrow hc0 hL hD hlen hi0
  go_enter Tryd.func8, Tryd.ntmps8
  go_upto_region 1 with fail
  refine abs_world (fun W => Hid (Blk W w.heap.size 25 C) ∧ Hid (Fr (fun _ => False) w W)) ⟨Blk.new w _ _, (Fr.refl _ w).alloc _⟩ ?_
  rintro W1 ⟨B0, F1⟩
  go_wp2_with (refine wpList_load_row rfl 25 _ rfl w.heap.size rfl 25 C (0, 0) _ B0.out Tryd.underlying25 rfl HI.out ?_)
  refine (HM.out W1).mono ?_
  rintro e w2 ⟨rfl, f2⟩
  have F2 := Lib.hid (F1.out.trans f2 (fun _ _ h => h))
  have B2 := Lib.hid (B0.out.fr f2 (fun h => h))
  have c0 : w2.cell? ⟨w.heap.size, 0, none⟩ = some (.int .u64 (g : Nat)) := by rw [B2.out.cell]; exact HC0.out
  clear f2 F1 B0
  go_wp2_with fail
  refine (HAP.out w2 F2.out).mono ?_
  rintro e w3 ⟨v3, rfl, o3, f3⟩
  have F3 := Lib.hid (F2.out.trans f3 (fun _ _ h => h))
  have B3 := Lib.hid (B2.out.fr f3 (fun h => h))
  have O3 := Lib.hid (own_base o3 (base' := w.heap.size) (fun k hk => Nat.le_trans F2.out.size (o3.lt k hk).1))
  clear f3 o3 F2 B2 c0
  obtain ⟨A3, c3, rfl, -, -⟩ := own_slice O3.out
  have hrow3 := HROW.out w3 _ B3.out
  have hsl : (Tryd.prog.info? 23).map (·.size) = some (bv s).length := by rw [bv_length, HS.out]; kernel_rfl
  obtain ⟨d, hd⟩ : ∃ d, D.length = d := ⟨_, rfl⟩
  rw [hd] at O3 HL ⊢
  have hd20 : d ≤ 20 := HL.out
  have HDL := Lib.hid hd
  have HSL := Lib.hid hsl
  have HZ3 := Lib.hid F3.out.size
  clear hd hsl hrow3
  go_wp2_with (first
    | (at_builtin
       refine wpList_app rfl (.tmp 12) (.tmp 13) _ _ rfl w.heap.size 5 i0 _ 1 1 Tryd.underlying49 HI0.out hz0' hz1' hz2' rfl _ d _ rfl (own_fr O3.out ((Fr.refl (fun _ => False) w3).alloc _) (fun _ _ h => h)) _ 1 [.int .u8 45] rfl (Src.rd Tryd.underlying49 _ (Rd.of_blk (Blk.new w3 5 #[.int .u8 45]) (Nat.le_refl _)) (by simp [Value.oneCell'])) (by omega) (by unfold maxLen; omega) (by rw [World.size_alloc]; exact Nat.le_succ_of_le HZ3.out) ?_
       intro v4 w4 o4 f4 hn4
       have F4 := Lib.hid ((F3.out.alloc (.cells #[.int .u8 45] 5)).trans f4 (fun i hi hq => by have := (O3.out.lt i hq).1; omega))
       have B4 := Lib.hid ((B3.out.alloc (.cells #[.int .u8 45] 5)).fr f4 (fun hq => by have := own_blk_ne O3.out B3.out (by decide); exact this hq))
       have O4 := Lib.hid o4
       obtain ⟨A4, c4, rfl, -, -⟩ := own_slice o4
       have HR4 := Lib.hid (HROW.out w4 _ B4.out)
       clear o4 f4 hn4)
    | refine wpList_load_mid rfl 23 _ rfl w.heap.size 1 rfl (bv s) _ HR4.out Tryd.underlying23 rfl HSL.out ?_)
  generalize w3.heap.size = q3 at *
  have hr4 : Hid (D = Lib.decDigits g) := HD.out.symm
  clear HM HI HAP HROW HC0 HD B3 B4 HR4 O3 HSL HZ3 F3
  have hs16 := HS.out
  go_loopw [4, 17] (fun av iv wr => ∃ (k : Nat) (Aq : Option Addr) (cq : Nat), av = .slice Aq (d + 1 + 2 * k) cq ∧ iv = .int .i64 (k : Int) ∧ k ≤ 16 ∧ Hid (wr.ownsRow w.heap.size 5 1 (.slice Aq (d + 1 + 2 * k) cq) (d + 1 + 2 * k) (bv (D ++ 45 :: hexL (s.take k)))) ∧ Hid (Fr (fun _ => False) w wr)) (fun _ iv _ => 16 - (intOf iv).toNat)
  case atStart => exact ⟨0, A4, c4, rfl, rfl, by omega, by have := O4.out; rw [show bv (D ++ 45 :: hexL (s.take 0)) = bv D ++ [.int .u8 45] by simp [bv, hexL]]; exact this, F4.out⟩
  case round =>
    obtain ⟨k, Aq, cq, rfl, rfl, hk, ho, hf⟩ := hrel
    by_cases hlt : k < 16
    case pos =>
      have hdl : decide ((k : Int) < 16) = true := decide_eq_true (by omega)
      have hks : k < s.length := by omega
      have hix := fun W => run_index_agg W (bv s).toArray k (by rw [List.size_toArray, bv_length]; exact hks) (by rw [List.size_toArray, bv_length]; exact hs16)
      have hsk : (bv s).toArray[k]'(by rw [List.size_toArray, bv_length]; exact hks) = .int .u8 ((s[k]'hks).toNat : Nat) := by simp [bv]
      have htk : s.take (k + 1) = s.take k ++ [s[k]'hks] := by rw [List.take_succ_eq_append_getElem hks]
      have hx256 := (s[k]'hks).toNat_lt
      simp only [hsk] at hix
      have hsn : hexL (s.take (k + 1)) = hexL (s.take k) ++ [hxd ((s[k]'hks).toNat / 16), hxd ((s[k]'hks).toNat % 16)] := by rw [htk, hexL_snoc]
      obtain ⟨x, hx⟩ : ∃ x, (s[k]'hks).toNat = x := ⟨_, rfl⟩
      rw [hx] at hx256 hsn
      simp only [hx] at hix
      have HSN := Lib.hid hsn
      clear hsk htk hx hsn
      obtain ⟨p, hp⟩ : ∃ p, d + 1 + 2 * k = p := ⟨_, rfl⟩
      rw [hp] at ho ⊢
      have HP := Lib.hid hp
      have hp60 : p ≤ 60 := by omega
      clear hp
      go_upto_region 7 with fail
      clear hix hdl
      refine (wpIn_wide (n := 9)).1 ?_
      refine wpIn_region_factsG (ms := [0, 0, 2, 6, 0, 16, 48, 126, 255, 511]) (k := 8) (Fr (fun _ => False)) (prX Aq p cq x) (fun i v W => True) (by kernel_rfl) (by kernel_rfl) (Fr.refl _ _) (fun a b c h1 h2 => h1.trans h2 (fun _ _ h => h)) (fun i v w w' hg hx => prX_far hg hx) ?walk7
      case walk7 =>
      have hdr : ∀ W, Fr (fun _ => False) wr.drew W → Fr (fun _ => False) wr W := fun W h => ((Fr.refl (fun _ => False) wr).drew).trans h (fun _ _ h => h)
      have HDR := Lib.hid hdr
      clear hdr
      refine factWalkG_cons (fun W hW hf K hK => ?_) (fun x0 => ?_)
      · skip
        refine ⟨by kernel_rfl, ?_⟩
        gi_step
        exact hK _ _ (Fr.refl _ _) rfl trivial
      simp only [Act.put, List.setIfInBounds_toArray, List.set_cons_succ, List.set_cons_zero]
      refine factWalkG_cons (fun W hW hf K hK => ?_) (fun x1 => ?_)
      · skip
        refine ⟨by kernel_rfl, ?_⟩
        gi_step
        exact hK _ _ (Fr.refl _ _) rfl trivial
      simp only [Act.put, List.setIfInBounds_toArray, List.set_cons_succ, List.set_cons_zero]
      refine factWalkG_cons (fun W hW hf K hK => ?_) (fun x2 => ?_)
      · skip
        have e1 : x1 = .int .u8 (x : Nat) := hf 1 (by omega) (by kernel_rfl)
        subst e1
        refine ⟨by kernel_rfl, ?_⟩
        gi_step
        exact hK _ _ (Fr.refl _ _) rfl trivial
      simp only [Act.put, List.setIfInBounds_toArray, List.set_cons_succ, List.set_cons_zero]
      refine factWalkG_cons (fun W hW hf K hK => ?_) (fun x3 => ?_)
      · skip
        have e2 : x2 = .int .u8 ((x / 16 : Nat) : Int) := hf 2 (by omega) (by kernel_rfl)
        subst e2
        have hq := run_index_hexs W (x / 16) (by omega); rw [show ((x / 16 : Nat) : Int) = (x : Int) / 16 by omega] at hq
        refine ⟨by kernel_rfl, ?_⟩
        gi_step
        exact hK _ _ (Fr.refl _ _) rfl trivial
      simp only [Act.put, List.setIfInBounds_toArray, List.set_cons_succ, List.set_cons_zero]
      refine factWalkG_cons (fun W hW hf K hK => ?_) (fun x4 => ?_)
      · skip
        refine ⟨by kernel_rfl, ?_⟩
        gi_step
        exact hK _ _ (Fr.refl _ _) rfl trivial
      simp only [Act.put, List.setIfInBounds_toArray, List.set_cons_succ, List.set_cons_zero]
      refine factWalkG_cons (fun W hW hf K hK => ?_) (fun x5 => ?_)
      · skip
        have e4 : x4 = .int .u8 (x : Nat) := hf 4 (by omega) (by kernel_rfl)
        subst e4
        refine ⟨by kernel_rfl, ?_⟩
        gi_step
        exact hK _ _ (Fr.refl _ _) rfl trivial
      simp only [Act.put, List.setIfInBounds_toArray, List.set_cons_succ, List.set_cons_zero]
      refine factWalkG_cons (fun W hW hf K hK => ?_) (fun x6 => ?_)
      · skip
        have e5 : x5 = .int .u8 ((x % 16 : Nat) : Int) := hf 5 (by omega) (by kernel_rfl)
        subst e5
        have hq := run_index_hexs W (x % 16) (by omega); rw [show ((x % 16 : Nat) : Int) = (x : Int) % 16 by omega] at hq
        refine ⟨by kernel_rfl, ?_⟩
        gi_step
        exact hK _ _ (Fr.refl _ _) rfl trivial
      simp only [Act.put, List.setIfInBounds_toArray, List.set_cons_succ, List.set_cons_zero]
      refine factWalkG_cons (fun W hW hf K hK => ?_) (fun x7 => ?_)
      · skip
        have e3 : x3 = .int .u8 ((hxd (x / 16)).toNat : Nat) := hf 3 (by omega) (by kernel_rfl)
        have e6 : x6 = .int .u8 ((hxd (x % 16)).toNat : Nat) := hf 6 (by omega) (by kernel_rfl)
        subst e3 e6
        refine ⟨by kernel_rfl, ?_⟩
        gi_step
        exact hK _ _ ((Fr.refl _ _).alloc _) ⟨_, rfl, Blk.new _ _ _⟩ trivial
      simp only [Act.put, List.setIfInBounds_toArray, List.set_cons_succ, List.set_cons_zero]
      refine factWalkG_nil (fun W hW hf7 hmet => ?_)
      obtain ⟨gg, e7, b7⟩ : ∃ g, x7 = .slice (some ⟨g, 0, none⟩) 2 2 ∧ Blk W g 5 #[.int .u8 ((hxd (x / 16)).toNat : Nat), .int .u8 ((hxd (x % 16)).toNat : Nat)] := hf7 7 (by omega)
      have e0 : x0 = .slice Aq p cq := hf7 0 (by omega)
      subst e0 e7
      have hWf := HDR.out W hW
      have oW := own_fr ho.out hWf (fun _ _ h => h)
      have zW : w.heap.size ≤ W.heap.size := Nat.le_trans hf.out.size hWf.size
      obtain ⟨v9, w9, hr9, o9, f9, n9⟩ := run_app (P := Tryd.prog) W w.heap.size 49 49 49 5 i0 _ 1 1 Tryd.underlying49 HI0.out hz0' hz1' hz2' rfl (.slice Aq p cq) p _ oW (.slice (some ⟨gg, 0, none⟩) 2 2) 2 [.int .u8 ((hxd (x / 16)).toNat : Nat), .int .u8 ((hxd (x % 16)).toNat : Nat)] (Src.rd Tryd.underlying49 _ (Rd.of_blk b7 (Nat.le_refl _)) (by simp [Value.oneCell'])) (by omega) (by unfold maxLen; omega) zW
      have F9 := Lib.hid ((hf.out.trans hWf (fun _ _ h => h)).trans f9 (fun i hi hq => by have := (ho.out.lt i hq).1; omega))
      have O9 := Lib.hid o9
      clear o9 f9 n9 oW hWf b7 hmet hf7 HDR hW zW ho hf
      change wpAnyIn _ _ _ _ _ _ 2 _ _ _
      refine wpAnyIn_ready (rs := [8]) (by kernel_rfl) (by simp) ?_
      refine AllReadyIn.cons rfl (fun K hK => ?_) AllReadyIn.nil
      refine stepIn_append rfl (.tmp 20) (.tmp 27) _ _ rfl _ _ rfl rfl hr9 ?_
      refine hK _ _ ?_
      clear hK K hr9
      simp only [Act.put, List.setIfInBounds_toArray, List.set_cons_succ, List.set_cons_zero]
      refine wpAnyIn_ready (rs := [9]) (by kernel_rfl) (by simp) ?_
      refine AllReadyIn.cons rfl (fun K hK => ?_) AllReadyIn.nil
      go_simp
      refine hK _ _ ?_
      refine wpAnyIn_done (by kernel_rfl) ?_ _
      clear hK K
      obtain ⟨A9, c9, rfl, -, -⟩ := own_slice O9.out
      go_wp2_with fail
      have O10 : Hid (w9.ownsRow w.heap.size 5 1 (.slice A9 (p + 2) c9) (p + 2) (bv (D ++ 45 :: hexL (s.take (k + 1))))) := by
        have h := O9.out
        rw [HSN.out, show bv (D ++ 45 :: (hexL (s.take k) ++ [hxd (x / 16), hxd (x % 16)])) = bv (D ++ 45 :: hexL (s.take k)) ++ [.int .u8 ((hxd (x / 16)).toNat : Nat), .int .u8 ((hxd (x % 16)).toNat : Nat)] by simp [bv]]
        exact h
      have hp2 : p + 2 = d + 1 + 2 * (k + 1) := by have := HP.out; omega
      rw [hp2] at O10 ⊢
      exact ⟨⟨k + 1, A9, c9, rfl, by go_num, by omega, O10, F9.out⟩, by simp [intOf]; omega⟩
    case neg =>
      obtain rfl : k = 16 := by omega
      have hcv := fun W (h : Rd W Aq (d + 1 + 2 * 16) (bv (D ++ 45 :: hexL (s.take 16)))) => conv_str W Aq (d + 1 + 2 * 16) cq _ h
      have hcw := hcv wr (Rd.of_own ho.out)
      have e16 : D ++ 45 :: hexL (s.take 16) = txt g s := by rw [List.take_of_length_le (by omega), hr4.out]; rfl
      rw [e16] at hcw
      clear hcv e16 hs16
      go_wp2_with fail
      go_ret2
      exact ⟨rfl, hf.out⟩
end Go.Proofs.YtjaocgmicdnghaaDoor
