/-
  CONTRACT of push's question, at the first phase.
-/
import Derived.Test.YtaenibbhpidjcaaGreatDoorQStep
import Derived.Test.YtaenibbhpidjcaaGreatDoorQuest
namespace Go.Proofs.YtaenibbhpidjcaaGreatDoor
set_option linter.unusedSimpArgs false
set_option linter.unusedVariables false
open Go Go.RowKit

def qqX (x sz : Nat) (u : ByteArray) (inc n : Int) (i : Nat) (v : Value) (W : World) : Prop := match i with
  | 0 => v = .pointer (some ⟨x, 0, none⟩)
  | 1 => v = .pointer (some ⟨x, 0, none⟩)
  | 2 => v = .pointer (some ⟨x, 0, none⟩)
  | 3 => v = .pointer (some ⟨x, 0, none⟩)
  | 4 => v = .string u
  | 5 => v = .pointer (some ⟨x, 0, none⟩)
  | 6 => v = .pointer (some ⟨x, 0, none⟩)
  | 7 => v = .pointer (some ⟨x, 0, none⟩)
  | 8 => v = .pointer (some ⟨x, 2, none⟩)
  | 9 => v = .int .u64 inc
  | 10 => v = .pointer (some ⟨x, 0, none⟩)
  | 11 => v = .pointer (some ⟨x, 0, none⟩)
  | 12 => v = .pointer (some ⟨x, 0, none⟩)
  | 13 => v = .pointer (some ⟨x, 3, none⟩)
  | 14 => v = .int .u64 n
  | 15 => v = .pointer (some ⟨x, 0, none⟩)
  | 16 => v = .agg #[.int .i64 1, .func (.func 48) #[] #[]]
  | 17 => v = .int .i64 1
  | 18 => v = .agg (askA u 1 inc n 1 ⟨#[]⟩ 0 0 0 0)
  | 19 => ∃ b, v = .pointer (some ⟨b, 0, none⟩) ∧ sz ≤ b ∧ Blk W b 52 (askA ⟨#[]⟩ 0 0 0 0 ⟨#[]⟩ 0 0 0 0)
  | _ => True
theorem qqX_far {x sz : Nat} {u : ByteArray} {inc n : Int} {i : Nat} {v : Value} {W W' : World} (hg : Fr (fun _ => False) W W') (hx : qqX x sz u inc n i v W) : qqX x sz u inc n i v W' := by
  match i with
  | 0 => exact hx
  | 1 => exact hx
  | 2 => exact hx
  | 3 => exact hx
  | 4 => exact hx
  | 5 => exact hx
  | 6 => exact hx
  | 7 => exact hx
  | 8 => exact hx
  | 9 => exact hx
  | 10 => exact hx
  | 11 => exact hx
  | 12 => exact hx
  | 13 => exact hx
  | 14 => exact hx
  | 15 => exact hx
  | 16 => exact hx
  | 17 => exact hx
  | 18 => exact hx
  | 19 => obtain ⟨g, e, l, b⟩ := hx; exact ⟨g, e, l, b.fr hg (fun h => h)⟩
  | (n + 20) => exact hx
theorem build_askq (u : ByteArray) (inc n : Int) (W : World) : (Instr.build 52 #[(0, .string u), (1, .int .i64 1), (2, .int .u64 inc), (3, .int .u64 n), (4, .int .i64 1)]).run Tryz.prog W = .ok (.agg (askA u 1 inc n 1 ⟨#[]⟩ 0 0 0 0)) W := by kernel_rfl
set_option maxRecDepth 100000 in
set_option maxHeartbeats 2000000 in
theorem qquest1_c (w : World) (x : Nat) (u s : ByteArray) (inc n since life to_ asked done why rf now seq : Int) (LA : Option Addr) (ln lc : Nat) (hB : Blk w x 94 #[.string u, .string s, .int .u64 inc, .int .u64 n, .int .i64 1, .int .u64 since, .int .u64 life, .int .u64 to_, .slice none 0 0, .slice none 0 0, .int .u64 asked, .int .i64 done, .int .i64 why, .int .i64 rf, .int .u64 now, .int .u64 seq, .slice none 0 0, .slice LA ln lc, .slice none 0 0, .slice none 0 0, .slice none 0 0]) :
    Calls Tryz.prog 60 #[.pointer (some ⟨x, 0, none⟩)] w fun e w' => e = .returned (.agg (askA u 1 inc n 1 s 0 0 0 0)) ∧ Fr (fun _ => False) w w' := by
  have HB := Lib.hid hB
  clear hB
  go_enter Tryz.func60, Tryz.ntmps60
  go_wp2_with fail
  refine abs_wp (fun W => Hid (Blk W x 94 #[.string u, .string s, .int .u64 inc, .int .u64 n, .int .i64 1, .int .u64 since, .int .u64 life, .int .u64 to_, .slice none 0 0, .slice none 0 0, .int .u64 asked, .int .i64 done, .int .i64 why, .int .i64 rf, .int .u64 now, .int .u64 seq, .slice none 0 0, .slice LA ln lc, .slice none 0 0, .slice none 0 0, .slice none 0 0]) ∧ Hid (Blk W w.heap.size 52 (askA ⟨#[]⟩ 0 0 0 0 ⟨#[]⟩ 0 0 0 0)) ∧ Hid (Fr (fun _ => False) w W)) ⟨HB.out.alloc _, Blk.new _ _ _, (Fr.refl _ w).alloc _⟩ ?_
  rintro w0 ⟨B0, Z0, F0⟩
  obtain ⟨g, hg⟩ : ∃ g, w.heap.size = g := ⟨_, rfl⟩
  rw [hg] at Z0 ⊢
  have HG := Lib.hid hg
  clear hg HB
  have hfd : ∀ W, (Instr.field 97 (.agg #[.int .i64 1, .func (.func 48) #[] #[]]) 0).run Tryz.prog W = .ok (.int .i64 1) W := fun W => by kernel_rfl
  have HFD := Lib.hid hfd
  have hbd := build_askq u inc n
  have HBD := Lib.hid hbd
  clear hfd hbd
  go_cut [3] from 6 to 24 (fun p wx => ∃ b : Nat, p = .pointer (some ⟨b, 0, none⟩) ∧ g < b ∧ w0.heap.size ≤ b ∧ Hid (Blk wx b 52 (askA u 1 inc n 1 ⟨#[]⟩ 0 0 0 0)) ∧ Hid (Blk wx x 94 #[.string u, .string s, .int .u64 inc, .int .u64 n, .int .i64 1, .int .u64 since, .int .u64 life, .int .u64 to_, .slice none 0 0, .slice none 0 0, .int .u64 asked, .int .i64 done, .int .i64 why, .int .i64 rf, .int .u64 now, .int .u64 seq, .slice none 0 0, .slice LA ln lc, .slice none 0 0, .slice none 0 0, .slice none 0 0]) ∧ Hid (Blk wx g 52 (askA ⟨#[]⟩ 0 0 0 0 ⟨#[]⟩ 0 0 0 0)) ∧ Hid (Fr (fun _ => False) w0 wx))
  case first =>
    refine (wpIn_wide (n := 9)).1 ?_
    refine wpIn_region_factsG (ms := [0, 1, 3, 7, 15, 0, 32, 96, 224, 480, 0, 1024, 3072, 7168, 15360, 0, 32768, 98304, 262143, 0, 1048575]) (k := 20) (Fr (fun _ => False)) (qqX x w0.heap.size u inc n) (fun i v W => True) (by kernel_rfl) (by kernel_rfl) (Fr.refl _ _) (fun a b c h1 h2 => h1.trans h2 (fun _ _ h => h)) (fun i v w w' hg hx => qqX_far hg hx) ?walk1
    case walk1 =>
    have hdr : ∀ W, Fr (fun _ => False) w0.drew W → Fr (fun _ => False) w0 W := fun W h => ((Fr.refl (fun _ => False) w0).drew).trans h (fun _ _ h => h)
    have HDR := Lib.hid hdr
    clear hdr
    refine factWalkG_cons (fun W hW hf K hK => ?_) (fun x0 => ?_)
    · skip
      refine ⟨by kernel_rfl, ?_⟩
      gi_step
      exact hK _ _ (Fr.refl _ _) rfl trivial
    simp only [Act.put, List.setIfInBounds_toArray, List.set_cons_succ, List.set_cons_zero]
    refine factWalkG_cons (fun W hW hf K hK => ?_) (fun x1 => ?_)
    · skip
      have e0 : x0 = .pointer (some ⟨x, 0, none⟩) := hf 0 (by omega) (by kernel_rfl)
      subst e0
      refine ⟨by kernel_rfl, ?_⟩
      gi_step
      exact hK _ _ (Fr.refl _ _) rfl trivial
    simp only [Act.put, List.setIfInBounds_toArray, List.set_cons_succ, List.set_cons_zero]
    refine factWalkG_cons (fun W hW hf K hK => ?_) (fun x2 => ?_)
    · skip
      have e1 : x1 = .pointer (some ⟨x, 0, none⟩) := hf 1 (by omega) (by kernel_rfl)
      subst e1
      refine ⟨by kernel_rfl, ?_⟩
      gi_step
      exact hK _ _ (Fr.refl _ _) rfl trivial
    simp only [Act.put, List.setIfInBounds_toArray, List.set_cons_succ, List.set_cons_zero]
    refine factWalkG_cons (fun W hW hf K hK => ?_) (fun x3 => ?_)
    · skip
      have e2 : x2 = .pointer (some ⟨x, 0, none⟩) := hf 2 (by omega) (by kernel_rfl)
      subst e2
      refine ⟨by kernel_rfl, ?_⟩
      gi_step
      exact hK _ _ (Fr.refl _ _) rfl trivial
    simp only [Act.put, List.setIfInBounds_toArray, List.set_cons_succ, List.set_cons_zero]
    refine factWalkG_cons (fun W hW hf K hK => ?_) (fun x4 => ?_)
    · skip
      have e3 : x3 = .pointer (some ⟨x, 0, none⟩) := hf 3 (by omega) (by kernel_rfl)
      subst e3
      have hbx := keepB B0.out (HDR.out W hW)
      have cx : W.cell? ⟨x, 0, none⟩ = some (.string u) := hbx.cell 0
      refine ⟨by kernel_rfl, ?_⟩
      gi_step
      exact hK _ _ (Fr.refl _ _) rfl trivial
    simp only [Act.put, List.setIfInBounds_toArray, List.set_cons_succ, List.set_cons_zero]
    refine factWalkG_cons (fun W hW hf K hK => ?_) (fun x5 => ?_)
    · skip
      refine ⟨by kernel_rfl, ?_⟩
      gi_step
      exact hK _ _ (Fr.refl _ _) rfl trivial
    simp only [Act.put, List.setIfInBounds_toArray, List.set_cons_succ, List.set_cons_zero]
    refine factWalkG_cons (fun W hW hf K hK => ?_) (fun x6 => ?_)
    · skip
      have e5 : x5 = .pointer (some ⟨x, 0, none⟩) := hf 5 (by omega) (by kernel_rfl)
      subst e5
      refine ⟨by kernel_rfl, ?_⟩
      gi_step
      exact hK _ _ (Fr.refl _ _) rfl trivial
    simp only [Act.put, List.setIfInBounds_toArray, List.set_cons_succ, List.set_cons_zero]
    refine factWalkG_cons (fun W hW hf K hK => ?_) (fun x7 => ?_)
    · skip
      have e6 : x6 = .pointer (some ⟨x, 0, none⟩) := hf 6 (by omega) (by kernel_rfl)
      subst e6
      refine ⟨by kernel_rfl, ?_⟩
      gi_step
      exact hK _ _ (Fr.refl _ _) rfl trivial
    simp only [Act.put, List.setIfInBounds_toArray, List.set_cons_succ, List.set_cons_zero]
    refine factWalkG_cons (fun W hW hf K hK => ?_) (fun x8 => ?_)
    · skip
      have e7 : x7 = .pointer (some ⟨x, 0, none⟩) := hf 7 (by omega) (by kernel_rfl)
      subst e7
      refine ⟨by kernel_rfl, ?_⟩
      gi_step
      exact hK _ _ (Fr.refl _ _) rfl trivial
    simp only [Act.put, List.setIfInBounds_toArray, List.set_cons_succ, List.set_cons_zero]
    refine factWalkG_cons (fun W hW hf K hK => ?_) (fun x9 => ?_)
    · skip
      have e8 : x8 = .pointer (some ⟨x, 2, none⟩) := hf 8 (by omega) (by kernel_rfl)
      subst e8
      have hbx := keepB B0.out (HDR.out W hW)
      have cx : W.cell? ⟨x, 2, none⟩ = some (.int .u64 inc) := hbx.cell 2
      refine ⟨by kernel_rfl, ?_⟩
      gi_step
      exact hK _ _ (Fr.refl _ _) rfl trivial
    simp only [Act.put, List.setIfInBounds_toArray, List.set_cons_succ, List.set_cons_zero]
    refine factWalkG_cons (fun W hW hf K hK => ?_) (fun x10 => ?_)
    · skip
      refine ⟨by kernel_rfl, ?_⟩
      gi_step
      exact hK _ _ (Fr.refl _ _) rfl trivial
    simp only [Act.put, List.setIfInBounds_toArray, List.set_cons_succ, List.set_cons_zero]
    refine factWalkG_cons (fun W hW hf K hK => ?_) (fun x11 => ?_)
    · skip
      have e10 : x10 = .pointer (some ⟨x, 0, none⟩) := hf 10 (by omega) (by kernel_rfl)
      subst e10
      refine ⟨by kernel_rfl, ?_⟩
      gi_step
      exact hK _ _ (Fr.refl _ _) rfl trivial
    simp only [Act.put, List.setIfInBounds_toArray, List.set_cons_succ, List.set_cons_zero]
    refine factWalkG_cons (fun W hW hf K hK => ?_) (fun x12 => ?_)
    · skip
      have e11 : x11 = .pointer (some ⟨x, 0, none⟩) := hf 11 (by omega) (by kernel_rfl)
      subst e11
      refine ⟨by kernel_rfl, ?_⟩
      gi_step
      exact hK _ _ (Fr.refl _ _) rfl trivial
    simp only [Act.put, List.setIfInBounds_toArray, List.set_cons_succ, List.set_cons_zero]
    refine factWalkG_cons (fun W hW hf K hK => ?_) (fun x13 => ?_)
    · skip
      have e12 : x12 = .pointer (some ⟨x, 0, none⟩) := hf 12 (by omega) (by kernel_rfl)
      subst e12
      refine ⟨by kernel_rfl, ?_⟩
      gi_step
      exact hK _ _ (Fr.refl _ _) rfl trivial
    simp only [Act.put, List.setIfInBounds_toArray, List.set_cons_succ, List.set_cons_zero]
    refine factWalkG_cons (fun W hW hf K hK => ?_) (fun x14 => ?_)
    · skip
      have e13 : x13 = .pointer (some ⟨x, 3, none⟩) := hf 13 (by omega) (by kernel_rfl)
      subst e13
      have hbx := keepB B0.out (HDR.out W hW)
      have cx : W.cell? ⟨x, 3, none⟩ = some (.int .u64 n) := hbx.cell 3
      refine ⟨by kernel_rfl, ?_⟩
      gi_step
      exact hK _ _ (Fr.refl _ _) rfl trivial
    simp only [Act.put, List.setIfInBounds_toArray, List.set_cons_succ, List.set_cons_zero]
    refine factWalkG_cons (fun W hW hf K hK => ?_) (fun x15 => ?_)
    · skip
      refine ⟨by kernel_rfl, ?_⟩
      gi_step
      exact hK _ _ (Fr.refl _ _) rfl trivial
    simp only [Act.put, List.setIfInBounds_toArray, List.set_cons_succ, List.set_cons_zero]
    refine factWalkG_cons (fun W hW hf K hK => ?_) (fun x16 => ?_)
    · skip
      have e15 : x15 = .pointer (some ⟨x, 0, none⟩) := hf 15 (by omega) (by kernel_rfl)
      subst e15
      refine ⟨by kernel_rfl, ?_⟩
      gi_step
      refine ⟨trivial, ?_⟩
      refine (callsIn_wide.2 (qstep1_c W x (keepB B0.out (HDR.out W hW)) rfl)).mono ?_
      rintro e W' ⟨rfl, f2⟩
      dsimp only
      exact hK _ _ f2 rfl trivial
    simp only [Act.put, List.setIfInBounds_toArray, List.set_cons_succ, List.set_cons_zero]
    refine factWalkG_cons (fun W hW hf K hK => ?_) (fun x17 => ?_)
    · skip
      have e16 : x16 = .agg #[.int .i64 1, .func (.func 48) #[] #[]] := hf 16 (by omega) (by kernel_rfl)
      subst e16
      have hfd := HFD.out W
      refine ⟨by kernel_rfl, ?_⟩
      gi_step
      exact hK _ _ (Fr.refl _ _) rfl trivial
    simp only [Act.put, List.setIfInBounds_toArray, List.set_cons_succ, List.set_cons_zero]
    refine factWalkG_cons (fun W hW hf K hK => ?_) (fun x18 => ?_)
    · skip
      have e4 : x4 = .string u := hf 4 (by omega) (by kernel_rfl)
      have e9 : x9 = .int .u64 inc := hf 9 (by omega) (by kernel_rfl)
      have e14 : x14 = .int .u64 n := hf 14 (by omega) (by kernel_rfl)
      have e17 : x17 = .int .i64 1 := hf 17 (by omega) (by kernel_rfl)
      subst e4 e9 e14 e17
      have hbd := HBD.out W
      refine ⟨by kernel_rfl, ?_⟩
      gi_step
      exact hK _ _ (Fr.refl _ _) rfl trivial
    simp only [Act.put, List.setIfInBounds_toArray, List.set_cons_succ, List.set_cons_zero]
    refine factWalkG_cons (fun W hW hf K hK => ?_) (fun x19 => ?_)
    · skip
      refine ⟨by kernel_rfl, ?_⟩
      gi_step
      exact hK _ _ ((Fr.refl _ _).alloc _) ⟨_, rfl, (HDR.out W hW).size, Blk.new _ _ _⟩ trivial
    simp only [Act.put, List.setIfInBounds_toArray, List.set_cons_succ, List.set_cons_zero]
    refine factWalkG_nil (fun W hW hf hmet => ?_)
    obtain ⟨b, e19, hle, kb⟩ : ∃ b, x19 = .pointer (some ⟨b, 0, none⟩) ∧ w0.heap.size ≤ b ∧ Blk W b 52 (askA ⟨#[]⟩ 0 0 0 0 ⟨#[]⟩ 0 0 0 0) := hf 19 (by omega)
    have e18 : x18 = .agg (askA u 1 inc n 1 ⟨#[]⟩ 0 0 0 0) := hf 18 (by omega)
    subst e18 e19
    have hWf := HDR.out W hW
    have hxb : x < b := Nat.lt_of_lt_of_le B0.out.lt hle
    have hgb : g < b := Nat.lt_of_lt_of_le Z0.out.lt hle
    have bx := Lib.hid (keepB B0.out hWf)
    have bg := Lib.hid (keepB Z0.out hWf)
    have FW := Lib.hid hWf
    have HTH := Lib.hid kb.there
    have HST := Lib.hid (kb.setAll (ds := (askA u 1 inc n 1 ⟨#[]⟩ 0 0 0 0)) rfl)
    have FST := Lib.hid (Fr.setCells (fp := fun k => k = b) (a := W) (g := b) (fun _ => rfl) ((askA u 1 inc n 1 ⟨#[]⟩ 0 0 0 0)).toList 0 W (Fr.refl _ _))
    have hsto := run_storeAt_mid (P := Tryz.prog) W b 0 52 (askA u 1 inc n 1 ⟨#[]⟩ 0 0 0 0) HTH.out tAsk_size (askA_one _ _ _ _ _ _ _ _ _ _)
    clear hf hmet hW hWf HDR kb B0 Z0
    change wpAnyIn _ _ _ _ _ _ 1 _ _ _
    refine wpAnyIn_ready (rs := [20]) (by kernel_rfl) (by simp) ?_
    refine AllReadyIn.cons rfl (fun K hK => ?_) AllReadyIn.nil
    refine stepIn_store rfl 52 _ _ rfl _ _ rfl rfl hsto ?_
    refine hK _ _ ?_
    clear hK K hsto
    refine wpAnyIn_done (by kernel_rfl) ?_ _
    have bx2 := Lib.hid (bx.out.fr FST.out (by omega))
    have bg2 := Lib.hid (bg.out.fr FST.out (by omega))
    have FF2 := Lib.hid (FW.out.trans FST.out (fun k hk e => by omega))
    generalize W.setCells b 0 ((askA u 1 inc n 1 ⟨#[]⟩ 0 0 0 0)).toList = w9 at *
    simp only [Act.put, List.setIfInBounds_toArray, List.set_cons_succ, List.set_cons_zero]
    go_wp2_with fail
    go_meet
    exact ⟨b, rfl, hgb, hle, HST.out, bx2.out, bg2.out, FF2.out⟩
  case rest =>
    obtain ⟨b, rfl, hgb, hbs, kb, bx, bg, ff⟩ := hcut
    have HBS := Lib.hid hbs
    have k4 : wc.cell? ⟨b, 4, none⟩ = some (.int .i64 1) := kb.out.cell 4
    have s1 : wc.cell? ⟨x, 1, none⟩ = some (.string s) := bx.out.cell 1
    have k5 : wc.cell? ⟨b, 5, none⟩ = some (.string ⟨#[]⟩) := kb.out.cell 5
    have r5 := kb.out.frozen 5
    have K2 : Hid (Blk (wc.setCell ⟨b, 5, none⟩ (.string s)) b 52 (askA u 1 inc n 1 s 0 0 0 0)) := kb.out.set_ 5 (.string s)
    have G2 := Lib.hid (bg.out.far (p := ⟨b, 5, none⟩) (by omega : g ≠ b) (.string s))
    have FS : Hid (Fr (fun k => k = g) w0 (wc.setCell ⟨b, 5, none⟩ (.string s))) := (ff.out.mono (fun _ _ h => h.elim)).setCell (p := ⟨b, 5, none⟩) (fun hk => by have := HBS.out; exact absurd hk (by show ¬ b < _; omega)) _
    go_wp2_with (first
      | (refine wpList_load_all rfl 52 _ rfl b rfl K2.out _ Tryz.underlying52 rfl tAsk_size ?_)
      | (refine wpList_store_blk rfl 52 _ _ rfl g (askA u 1 inc n 1 s 0 0 0 0) rfl rfl G2.out rfl tAsk_size (askA_one _ _ _ _ _ _ _ _ _ _) ?_
         rintro W3 b3 f3
         have K3 := Lib.hid b3
         have F3 : Hid (Fr (fun _ => False) w W3) := (F0.out.trans (FS.out.trans f3 (fun k hk e => by have := HG.out; have := F0.out.size; have := ff.out.size; have := FS.out.size; exact e)) (fun k hk e => by have := HG.out; omega))
         clear b3 f3))
    exact bodyPost_ret (results_one Tryz.results60 _ W3 g 52 _ _ rfl K3.out Tryz.underlying52 rfl tAsk_size) rfl ⟨rfl, F3.out⟩

end Go.Proofs.YtaenibbhpidjcaaGreatDoor
