/-
  CONTRACTS of value.order, cmpEntry, Cmp. Written by gen_cmp.py.
-/
import Derived.Test.YtnkfkicabgajmaaGreatDoorSame
namespace Go.Proofs.YtnkfkicabgajmaaGreatDoor
set_option linter.unusedSimpArgs false
set_option linter.unusedVariables false
open Go Go.RowKit

theorem load_val {P : Program} (W : World) (g off : Nat) (C : Array Value) (h : W.rangeAt g off C.toList) (ty : TypeId) (d : TypeDesc) (hu : P.underlying ty = some d) (hd : d.isRow = true) (hi : (P.info? ty).map (·.size) = some C.size) :
    (Instr.loadAt ty (.pointer (some ⟨g, off, none⟩))).run P W = .ok (.agg C) W := by
  have := run_loadAt_mid (P := P) W g off ty C.toList d h hu hd (by rw [Array.length_toList]; exact hi)
  rwa [Array.toArray_toList] at this
theorem compare_d (w : World) (a b : List UInt8) : Calls Tryz.prog 40 #[.string (strOf a), .string (strOf b)] w fun e w' => e = .returned (.int .i64 (cmpT a b)) ∧ w' = w := (compare_c w a b).mono fun e w' ⟨h1, h2⟩ => ⟨h1, h2.symm⟩
theorem order_c (w : World) (b : Bool) : Calls Tryz.prog 39 #[.bool b] w fun e w' => e = .returned (.int .i64 (ord b)) ∧ w = w' := by
  cases b <;>
  · go_enter Tryz.func39, Tryz.ntmps39
    go_wp2_with fail
    go_ret
    exact ⟨rfl, rfl⟩
def ceX (g1 g2 b off b' off' L M cl cm p9 : Nat) (C C' : Array Value) (u : Int) (i : Nat) (v : Value) (W : World) : Prop := match i with
  | 0 => v = .pointer (some ⟨g1, 3, none⟩)
  | 1 => v = .slice (some ⟨b, off, none⟩) L cl
  | 2 => v = .int .i64 (p9 : Nat)
  | 3 => v = .pointer (some ⟨b, off + p9 * 5, none⟩)
  | 4 => v = .agg C
  | 5 => v = .pointer (some ⟨g2, 3, none⟩)
  | 6 => v = .slice (some ⟨b', off', none⟩) M cm
  | 7 => v = .int .i64 (p9 : Nat)
  | 8 => v = .pointer (some ⟨b', off' + p9 * 5, none⟩)
  | 9 => v = .agg C'
  | 10 => v = .int .i64 u
  | _ => True
theorem ceX_far {g1 g2 b off b' off' L M cl cm p9 : Nat} {C C' : Array Value} {u : Int} {i : Nat} {v : Value} {W W' : World} (hg : Fr (fun _ => False) W W') (hx : ceX g1 g2 b off b' off' L M cl cm p9 C C' u i v W) : ceX g1 g2 b off b' off' L M cl cm p9 C C' u i v W' := by
  match i with
  | 0 => exact hx
  | 1 => exact hx
  | 2 => exact hx
  | 3 => exact hx
  | 4 => exact hx
  | 5 => exact hx
  | 6 => exact hx
  | 7 => exact hx
  | 8 => exact hx
  | 9 => exact hx
  | 10 => exact hx
  | (n + 11) => exact hx
/-- What an entry says. -/
def entC (ks js : List (List UInt8)) (i : Nat) : Int := if i < ks.length ∧ i < js.length then cmpT (ks.getD i []) (js.getD i []) else 0
set_option maxRecDepth 100000 in
set_option maxHeartbeats 2000000 in
theorem cmpEntry_c (w : World) {D E : Nat → Prop} {k n k' n' : Int} {t t' : List UInt8} {l l' : List V} {ks ks' : List (List UInt8)} {Al Ak Al' Ak' : Option Addr} {cl ck cl' ck' : Nat} {css css' : List (Array Value)}
    (hp : VP D w k n t l ks Al cl Ak ck css) (hq : VP E w k' n' t' l' ks' Al' cl' Ak' ck' css') (i : Nat) (hlt : i < l.length) (hlt' : i < l'.length)
    (ih : ∀ (x : V), x ∈ l → ∀ (W : World) (C C' : Array Value) (y : V), RdV D W C x → RdV E W C' y → Calls Tryz.prog 20 #[.agg C, .agg C'] W fun e w' => e = .returned (.int .i64 (cmpV x y)) ∧ Fr (fun _ => False) W w') :
    Calls Tryz.prog 41 #[.agg (vcs k n t Al l.length cl Ak ks.length ck), .agg (vcs k' n' t' Al' l'.length cl' Ak' ks'.length ck'), .int .i64 (i : Int)] w fun e w' => e = .returned (.int .i64 (lex (entC ks ks' i) (cmpV l[i] l'[i]))) ∧ Fr (fun _ => False) w w' := by
  obtain ⟨b, off, C, hA, hci, hrv, hrg, h5⟩ := hp.at_ hlt
  subst hA
  obtain ⟨b', off', C', hA', hci', hrv', hrg', h5'⟩ := hq.at_ hlt'
  subst hA'
  have hb2 := hp.b.ll
  have hb3 := hq.b.ll
  have hb4 := hp.b.kl
  have hb5 := hq.b.kl
  obtain ⟨u, hu⟩ : ∃ u, cmpV l[i] l'[i] = u := ⟨_, rfl⟩
  rw [hu]
  have HU := Lib.hid hu
  have HR := Lib.hid hrv
  have HG := Lib.hid hrg
  have HR' := Lib.hid hrv'
  have HG' := Lib.hid hrg'
  have HS1 := Lib.hid (szV hrv)
  have HS2 := Lib.hid (szV hrv')
  have IH := Lib.hid ih
  have HLT1 := Lib.hid (show (0 : Int) ≤ (i : Int) ∧ (i : Int) < (l.length : Int) by omega)
  have HLT2 := Lib.hid (show (0 : Int) ≤ (i : Int) ∧ (i : Int) < (l'.length : Int) by omega)
  have HP := Lib.hid hp
  have HQ := Lib.hid hq
  clear hu hci hrv hrg h5 hci' hrv' hrg' h5' hp hq ih
  by_cases h1 : i < ks.length
  case neg =>
    have he : entC ks ks' i = 0 := by unfold entC; rw [if_neg (fun h => h1 h.1)]
    have HE := Lib.hid he
    have d1 : decide ((i : Int) < (ks.length : Int)) = false := decide_eq_false (by omega)
    have d1' : decide (i < ks.length) = false := decide_eq_false h1
    clear he HP HQ
    go_enter Tryz.func41, Tryz.ntmps41
    go_upto_region 1 with fail
    refine abs_world (fun W => Hid (Blk W w.heap.size 25 (vcs k n t (some ⟨b, off, none⟩) l.length cl Ak ks.length ck)) ∧ Hid (Blk W (w.heap.size + 1) 25 (vcs k' n' t' (some ⟨b', off', none⟩) l'.length cl' Ak' ks'.length ck')) ∧ Hid (Fr (fun _ => False) w W)) ⟨(Blk.new w _ _).alloc _, Blk.new1 w _ _ _, ((Fr.refl _ w).alloc _).alloc _⟩ ?_
    rintro W1 ⟨B1, B2, F1⟩
    have a4 : W1.cell? ⟨w.heap.size, 4, none⟩ = some (.slice Ak ks.length ck) := B1.out.cell 4
    have b4 : W1.cell? ⟨w.heap.size + 1, 4, none⟩ = some (.slice Ak' ks'.length ck') := B2.out.cell 4
    go_upto_region 5 with fail
    have A3 := Lib.hid (show W1.cell? ⟨w.heap.size, 3, none⟩ = some (.slice (some ⟨b, off, none⟩) l.length cl) from B1.out.cell 3)
    have B3 := Lib.hid (show W1.cell? ⟨w.heap.size + 1, 3, none⟩ = some (.slice (some ⟨b', off', none⟩) l'.length cl') from B2.out.cell 3)
    have RG1 := Lib.hid (rng_far HG.out F1.out)
    have RG2 := Lib.hid (rng_far HG'.out F1.out)
    have HCALL : Hid (∀ W, Fr (fun _ => False) W1 W → Calls Tryz.prog 20 #[.agg C, .agg C'] W fun e w' => e = .returned (.int .i64 u) ∧ Fr (fun _ => False) W w') := fun W hW => by
      have h1 := F1.out.trans hW (fun _ _ h => h)
      have := IH.out l[i] (List.getElem_mem hlt) W C C' l'[i] (HR.out.far h1) (HR'.out.far h1)
      rw [HU.out] at this
      exact this
    have FW1 := Lib.hid F1.out
    clear B1 B2 a4 b4
    clear F1 HG HG' HR HR'
    generalize hg2 : w.heap.size + 1 = g2 at A3 B3 ⊢
    generalize hg1 : w.heap.size = g1 at A3 B3 ⊢
    clear hg1 hg2
    refine (wpIn_wide (n := 9)).1 ?_
    refine wpIn_region_factsG (ms := [0, 1, 0, 7, 15, 0, 32, 0, 224, 480, 1023, 2047]) (k := 11) (Fr (fun _ => False)) (ceX g1 g2 b off b' off' l.length l'.length cl cl' i C C' u) (fun i v W => True) (by kernel_rfl) (by kernel_rfl) (Fr.refl _ _) (fun a b c h1 h2 => h1.trans h2 (fun _ _ h => h)) (fun i v w w' hg hx => ceX_far hg hx) ?walk5
    case walk5 =>
    have hdr : ∀ W, Fr (fun _ => False) W1.drew W → Fr (fun _ => False) W1 W := fun W h => ((Fr.refl (fun _ => False) W1).drew).trans h (fun _ _ h => h)
    have HDR := Lib.hid hdr
    clear hdr
    refine factWalkG_cons (fun W hW hf K hK => ?_) (fun x0 => ?_)
    · skip
      refine ⟨by kernel_rfl, ?_⟩
      gi_step
      exact hK _ _ (Fr.refl _ _) rfl trivial
    simp only [Act.put, List.setIfInBounds_toArray, List.set_cons_succ, List.set_cons_zero]
    refine factWalkG_cons (fun W hW hf K hK => ?_) (fun x1 => ?_)
    · skip
      have e0 : x0 = .pointer (some ⟨g1, 3, none⟩) := hf 0 (by omega) (by kernel_rfl)
      subst e0
      have a3 : W.cell? ⟨g1, 3, none⟩ = some (.slice (some ⟨b, off, none⟩) l.length cl) := cell_far A3.out (HDR.out W hW)
      refine ⟨by kernel_rfl, ?_⟩
      gi_step
      exact hK _ _ (Fr.refl _ _) rfl trivial
    simp only [Act.put, List.setIfInBounds_toArray, List.set_cons_succ, List.set_cons_zero]
    refine factWalkG_cons (fun W hW hf K hK => ?_) (fun x2 => ?_)
    · skip
      refine ⟨by kernel_rfl, ?_⟩
      gi_step
      exact hK _ _ (Fr.refl _ _) rfl trivial
    simp only [Act.put, List.setIfInBounds_toArray, List.set_cons_succ, List.set_cons_zero]
    refine factWalkG_cons (fun W hW hf K hK => ?_) (fun x3 => ?_)
    · skip
      have e1 : x1 = .slice (some ⟨b, off, none⟩) l.length cl := hf 1 (by omega) (by kernel_rfl)
      have e2 : x2 = .int .i64 (i : Nat) := hf 2 (by omega) (by kernel_rfl)
      subst e1 e2
      have hl1 := HLT1.out
      refine ⟨by kernel_rfl, ?_⟩
      gi_step
      exact hK _ _ (Fr.refl _ _) rfl trivial
    simp only [Act.put, List.setIfInBounds_toArray, List.set_cons_succ, List.set_cons_zero]
    refine factWalkG_cons (fun W hW hf K hK => ?_) (fun x4 => ?_)
    · skip
      have e3 : x3 = .pointer (some ⟨b, off + i * 5, none⟩) := hf 3 (by omega) (by kernel_rfl)
      subst e3
      have hld := load_val (P := Tryz.prog) W b (off + i * 5) C (rng_far RG1.out (HDR.out W hW)) 25 _ Tryz.underlying25 rfl HS1.out
      refine ⟨by kernel_rfl, ?_⟩
      refine operIn_load 25 _ rfl _ rfl hld ?_
      exact hK _ _ (Fr.refl _ _) rfl trivial
    simp only [Act.put, List.setIfInBounds_toArray, List.set_cons_succ, List.set_cons_zero]
    refine factWalkG_cons (fun W hW hf K hK => ?_) (fun x5 => ?_)
    · skip
      refine ⟨by kernel_rfl, ?_⟩
      gi_step
      exact hK _ _ (Fr.refl _ _) rfl trivial
    simp only [Act.put, List.setIfInBounds_toArray, List.set_cons_succ, List.set_cons_zero]
    refine factWalkG_cons (fun W hW hf K hK => ?_) (fun x6 => ?_)
    · skip
      have e5 : x5 = .pointer (some ⟨g2, 3, none⟩) := hf 5 (by omega) (by kernel_rfl)
      subst e5
      have b3 : W.cell? ⟨g2, 3, none⟩ = some (.slice (some ⟨b', off', none⟩) l'.length cl') := cell_far B3.out (HDR.out W hW)
      refine ⟨by kernel_rfl, ?_⟩
      gi_step
      exact hK _ _ (Fr.refl _ _) rfl trivial
    simp only [Act.put, List.setIfInBounds_toArray, List.set_cons_succ, List.set_cons_zero]
    refine factWalkG_cons (fun W hW hf K hK => ?_) (fun x7 => ?_)
    · skip
      refine ⟨by kernel_rfl, ?_⟩
      gi_step
      exact hK _ _ (Fr.refl _ _) rfl trivial
    simp only [Act.put, List.setIfInBounds_toArray, List.set_cons_succ, List.set_cons_zero]
    refine factWalkG_cons (fun W hW hf K hK => ?_) (fun x8 => ?_)
    · skip
      have e6 : x6 = .slice (some ⟨b', off', none⟩) l'.length cl' := hf 6 (by omega) (by kernel_rfl)
      have e7 : x7 = .int .i64 (i : Nat) := hf 7 (by omega) (by kernel_rfl)
      subst e6 e7
      have hl2 := HLT2.out
      refine ⟨by kernel_rfl, ?_⟩
      gi_step
      exact hK _ _ (Fr.refl _ _) rfl trivial
    simp only [Act.put, List.setIfInBounds_toArray, List.set_cons_succ, List.set_cons_zero]
    refine factWalkG_cons (fun W hW hf K hK => ?_) (fun x9 => ?_)
    · skip
      have e8 : x8 = .pointer (some ⟨b', off' + i * 5, none⟩) := hf 8 (by omega) (by kernel_rfl)
      subst e8
      have hld := load_val (P := Tryz.prog) W b' (off' + i * 5) C' (rng_far RG2.out (HDR.out W hW)) 25 _ Tryz.underlying25 rfl HS2.out
      refine ⟨by kernel_rfl, ?_⟩
      refine operIn_load 25 _ rfl _ rfl hld ?_
      exact hK _ _ (Fr.refl _ _) rfl trivial
    simp only [Act.put, List.setIfInBounds_toArray, List.set_cons_succ, List.set_cons_zero]
    refine factWalkG_cons (fun W hW hf K hK => ?_) (fun x10 => ?_)
    · skip
      have e4 : x4 = .agg C := hf 4 (by omega) (by kernel_rfl)
      have e9 : x9 = .agg C' := hf 9 (by omega) (by kernel_rfl)
      subst e4 e9
      refine ⟨by kernel_rfl, ?_⟩
      gi_step
      refine ⟨trivial, ?_⟩
      refine (callsIn_wide.2 (HCALL.out W (HDR.out W hW))).mono ?_
      rintro e W' ⟨rfl, f2⟩
      dsimp only
      exact hK _ _ f2 rfl trivial
    simp only [Act.put, List.setIfInBounds_toArray, List.set_cons_succ, List.set_cons_zero]
    refine factWalkG_nil (fun W hW hf hmet => ?_)
    have e10 : x10 = .int .i64 u := hf 10 (by omega)
    subst e10
    have F8 := Lib.hid (FW1.out.trans (HDR.out W hW) (fun _ _ h => h))
    clear hf hmet hW HDR
    change wpAnyIn _ _ _ _ _ _ 1 _ _ _
    refine wpAnyIn_ready (rs := [11]) (by kernel_rfl) (by simp) ?_
    refine AllReadyIn.cons rfl (fun K hK => ?_) AllReadyIn.nil
    go_simp
    refine hK _ _ ?_
    refine wpAnyIn_done (by kernel_rfl) ?_ _
    go_wp2_with fail
    go_ret
    exact ⟨ret_int (by rw [HE.out]; rfl), F8.out⟩
  have d1 : decide ((i : Int) < (ks.length : Int)) = true := decide_eq_true (by omega)
  have d1' : decide (i < ks.length) = true := decide_eq_true h1
  by_cases h2 : i < ks'.length
  case neg =>
    have he : entC ks ks' i = 0 := by unfold entC; rw [if_neg (fun h => h2 h.2)]
    have HE := Lib.hid he
    have d2 : decide ((i : Int) < (ks'.length : Int)) = false := decide_eq_false (by omega)
    have d2' : decide (i < ks'.length) = false := decide_eq_false h2
    clear he HP HQ
    go_enter Tryz.func41, Tryz.ntmps41
    go_upto_region 1 with fail
    refine abs_world (fun W => Hid (Blk W w.heap.size 25 (vcs k n t (some ⟨b, off, none⟩) l.length cl Ak ks.length ck)) ∧ Hid (Blk W (w.heap.size + 1) 25 (vcs k' n' t' (some ⟨b', off', none⟩) l'.length cl' Ak' ks'.length ck')) ∧ Hid (Fr (fun _ => False) w W)) ⟨(Blk.new w _ _).alloc _, Blk.new1 w _ _ _, ((Fr.refl _ w).alloc _).alloc _⟩ ?_
    rintro W1 ⟨B1, B2, F1⟩
    have a4 : W1.cell? ⟨w.heap.size, 4, none⟩ = some (.slice Ak ks.length ck) := B1.out.cell 4
    have b4 : W1.cell? ⟨w.heap.size + 1, 4, none⟩ = some (.slice Ak' ks'.length ck') := B2.out.cell 4
    go_upto_region 5 with fail
    have A3 := Lib.hid (show W1.cell? ⟨w.heap.size, 3, none⟩ = some (.slice (some ⟨b, off, none⟩) l.length cl) from B1.out.cell 3)
    have B3 := Lib.hid (show W1.cell? ⟨w.heap.size + 1, 3, none⟩ = some (.slice (some ⟨b', off', none⟩) l'.length cl') from B2.out.cell 3)
    have RG1 := Lib.hid (rng_far HG.out F1.out)
    have RG2 := Lib.hid (rng_far HG'.out F1.out)
    have HCALL : Hid (∀ W, Fr (fun _ => False) W1 W → Calls Tryz.prog 20 #[.agg C, .agg C'] W fun e w' => e = .returned (.int .i64 u) ∧ Fr (fun _ => False) W w') := fun W hW => by
      have h1 := F1.out.trans hW (fun _ _ h => h)
      have := IH.out l[i] (List.getElem_mem hlt) W C C' l'[i] (HR.out.far h1) (HR'.out.far h1)
      rw [HU.out] at this
      exact this
    have FW1 := Lib.hid F1.out
    clear B1 B2 a4 b4
    clear F1 HG HG' HR HR'
    generalize hg2 : w.heap.size + 1 = g2 at A3 B3 ⊢
    generalize hg1 : w.heap.size = g1 at A3 B3 ⊢
    clear hg1 hg2
    refine (wpIn_wide (n := 9)).1 ?_
    refine wpIn_region_factsG (ms := [0, 1, 0, 7, 15, 0, 32, 0, 224, 480, 1023, 2047]) (k := 11) (Fr (fun _ => False)) (ceX g1 g2 b off b' off' l.length l'.length cl cl' i C C' u) (fun i v W => True) (by kernel_rfl) (by kernel_rfl) (Fr.refl _ _) (fun a b c h1 h2 => h1.trans h2 (fun _ _ h => h)) (fun i v w w' hg hx => ceX_far hg hx) ?walk5
    case walk5 =>
    have hdr : ∀ W, Fr (fun _ => False) W1.drew W → Fr (fun _ => False) W1 W := fun W h => ((Fr.refl (fun _ => False) W1).drew).trans h (fun _ _ h => h)
    have HDR := Lib.hid hdr
    clear hdr
    refine factWalkG_cons (fun W hW hf K hK => ?_) (fun x0 => ?_)
    · skip
      refine ⟨by kernel_rfl, ?_⟩
      gi_step
      exact hK _ _ (Fr.refl _ _) rfl trivial
    simp only [Act.put, List.setIfInBounds_toArray, List.set_cons_succ, List.set_cons_zero]
    refine factWalkG_cons (fun W hW hf K hK => ?_) (fun x1 => ?_)
    · skip
      have e0 : x0 = .pointer (some ⟨g1, 3, none⟩) := hf 0 (by omega) (by kernel_rfl)
      subst e0
      have a3 : W.cell? ⟨g1, 3, none⟩ = some (.slice (some ⟨b, off, none⟩) l.length cl) := cell_far A3.out (HDR.out W hW)
      refine ⟨by kernel_rfl, ?_⟩
      gi_step
      exact hK _ _ (Fr.refl _ _) rfl trivial
    simp only [Act.put, List.setIfInBounds_toArray, List.set_cons_succ, List.set_cons_zero]
    refine factWalkG_cons (fun W hW hf K hK => ?_) (fun x2 => ?_)
    · skip
      refine ⟨by kernel_rfl, ?_⟩
      gi_step
      exact hK _ _ (Fr.refl _ _) rfl trivial
    simp only [Act.put, List.setIfInBounds_toArray, List.set_cons_succ, List.set_cons_zero]
    refine factWalkG_cons (fun W hW hf K hK => ?_) (fun x3 => ?_)
    · skip
      have e1 : x1 = .slice (some ⟨b, off, none⟩) l.length cl := hf 1 (by omega) (by kernel_rfl)
      have e2 : x2 = .int .i64 (i : Nat) := hf 2 (by omega) (by kernel_rfl)
      subst e1 e2
      have hl1 := HLT1.out
      refine ⟨by kernel_rfl, ?_⟩
      gi_step
      exact hK _ _ (Fr.refl _ _) rfl trivial
    simp only [Act.put, List.setIfInBounds_toArray, List.set_cons_succ, List.set_cons_zero]
    refine factWalkG_cons (fun W hW hf K hK => ?_) (fun x4 => ?_)
    · skip
      have e3 : x3 = .pointer (some ⟨b, off + i * 5, none⟩) := hf 3 (by omega) (by kernel_rfl)
      subst e3
      have hld := load_val (P := Tryz.prog) W b (off + i * 5) C (rng_far RG1.out (HDR.out W hW)) 25 _ Tryz.underlying25 rfl HS1.out
      refine ⟨by kernel_rfl, ?_⟩
      refine operIn_load 25 _ rfl _ rfl hld ?_
      exact hK _ _ (Fr.refl _ _) rfl trivial
    simp only [Act.put, List.setIfInBounds_toArray, List.set_cons_succ, List.set_cons_zero]
    refine factWalkG_cons (fun W hW hf K hK => ?_) (fun x5 => ?_)
    · skip
      refine ⟨by kernel_rfl, ?_⟩
      gi_step
      exact hK _ _ (Fr.refl _ _) rfl trivial
    simp only [Act.put, List.setIfInBounds_toArray, List.set_cons_succ, List.set_cons_zero]
    refine factWalkG_cons (fun W hW hf K hK => ?_) (fun x6 => ?_)
    · skip
      have e5 : x5 = .pointer (some ⟨g2, 3, none⟩) := hf 5 (by omega) (by kernel_rfl)
      subst e5
      have b3 : W.cell? ⟨g2, 3, none⟩ = some (.slice (some ⟨b', off', none⟩) l'.length cl') := cell_far B3.out (HDR.out W hW)
      refine ⟨by kernel_rfl, ?_⟩
      gi_step
      exact hK _ _ (Fr.refl _ _) rfl trivial
    simp only [Act.put, List.setIfInBounds_toArray, List.set_cons_succ, List.set_cons_zero]
    refine factWalkG_cons (fun W hW hf K hK => ?_) (fun x7 => ?_)
    · skip
      refine ⟨by kernel_rfl, ?_⟩
      gi_step
      exact hK _ _ (Fr.refl _ _) rfl trivial
    simp only [Act.put, List.setIfInBounds_toArray, List.set_cons_succ, List.set_cons_zero]
    refine factWalkG_cons (fun W hW hf K hK => ?_) (fun x8 => ?_)
    · skip
      have e6 : x6 = .slice (some ⟨b', off', none⟩) l'.length cl' := hf 6 (by omega) (by kernel_rfl)
      have e7 : x7 = .int .i64 (i : Nat) := hf 7 (by omega) (by kernel_rfl)
      subst e6 e7
      have hl2 := HLT2.out
      refine ⟨by kernel_rfl, ?_⟩
      gi_step
      exact hK _ _ (Fr.refl _ _) rfl trivial
    simp only [Act.put, List.setIfInBounds_toArray, List.set_cons_succ, List.set_cons_zero]
    refine factWalkG_cons (fun W hW hf K hK => ?_) (fun x9 => ?_)
    · skip
      have e8 : x8 = .pointer (some ⟨b', off' + i * 5, none⟩) := hf 8 (by omega) (by kernel_rfl)
      subst e8
      have hld := load_val (P := Tryz.prog) W b' (off' + i * 5) C' (rng_far RG2.out (HDR.out W hW)) 25 _ Tryz.underlying25 rfl HS2.out
      refine ⟨by kernel_rfl, ?_⟩
      refine operIn_load 25 _ rfl _ rfl hld ?_
      exact hK _ _ (Fr.refl _ _) rfl trivial
    simp only [Act.put, List.setIfInBounds_toArray, List.set_cons_succ, List.set_cons_zero]
    refine factWalkG_cons (fun W hW hf K hK => ?_) (fun x10 => ?_)
    · skip
      have e4 : x4 = .agg C := hf 4 (by omega) (by kernel_rfl)
      have e9 : x9 = .agg C' := hf 9 (by omega) (by kernel_rfl)
      subst e4 e9
      refine ⟨by kernel_rfl, ?_⟩
      gi_step
      refine ⟨trivial, ?_⟩
      refine (callsIn_wide.2 (HCALL.out W (HDR.out W hW))).mono ?_
      rintro e W' ⟨rfl, f2⟩
      dsimp only
      exact hK _ _ f2 rfl trivial
    simp only [Act.put, List.setIfInBounds_toArray, List.set_cons_succ, List.set_cons_zero]
    refine factWalkG_nil (fun W hW hf hmet => ?_)
    have e10 : x10 = .int .i64 u := hf 10 (by omega)
    subst e10
    have F8 := Lib.hid (FW1.out.trans (HDR.out W hW) (fun _ _ h => h))
    clear hf hmet hW HDR
    change wpAnyIn _ _ _ _ _ _ 1 _ _ _
    refine wpAnyIn_ready (rs := [11]) (by kernel_rfl) (by simp) ?_
    refine AllReadyIn.cons rfl (fun K hK => ?_) AllReadyIn.nil
    go_simp
    refine hK _ _ ?_
    refine wpAnyIn_done (by kernel_rfl) ?_ _
    go_wp2_with fail
    go_ret
    exact ⟨ret_int (by rw [HE.out]; rfl), F8.out⟩
  have d2 : decide ((i : Int) < (ks'.length : Int)) = true := decide_eq_true (by omega)
  have d2' : decide (i < ks'.length) = true := decide_eq_true h2
  have he : entC ks ks' i = cmpT ks[i] ks'[i] := by unfold entC; rw [if_pos ⟨h1, h2⟩]; simp [h1, h2]
  have HE := Lib.hid he
  obtain ⟨q, qo, hAk, hkc⟩ := HP.out.key h1
  subst hAk
  obtain ⟨q', qo', hAk', hkc'⟩ := HQ.out.key h2
  subst hAk'
  have HK := Lib.hid hkc
  have HK' := Lib.hid hkc'
  clear he HP HQ hkc hkc'
  by_cases hz : cmpT ks[i] ks'[i] = 0
  case pos =>
    have d3 : (cmpT ks[i] ks'[i] != 0) = false := by simpa using hz
    have HZ := Lib.hid hz
    clear hz
    go_enter Tryz.func41, Tryz.ntmps41
    go_upto_region 1 with fail
    refine abs_world (fun W => Hid (Blk W w.heap.size 25 (vcs k n t (some ⟨b, off, none⟩) l.length cl (some ⟨q, qo, none⟩) ks.length ck)) ∧ Hid (Blk W (w.heap.size + 1) 25 (vcs k' n' t' (some ⟨b', off', none⟩) l'.length cl' (some ⟨q', qo', none⟩) ks'.length ck')) ∧ Hid (Fr (fun _ => False) w W)) ⟨(Blk.new w _ _).alloc _, Blk.new1 w _ _ _, ((Fr.refl _ w).alloc _).alloc _⟩ ?_
    rintro W1 ⟨B1, B2, F1⟩
    have a4 : W1.cell? ⟨w.heap.size, 4, none⟩ = some (.slice (some ⟨q, qo, none⟩) ks.length ck) := B1.out.cell 4
    have b4 : W1.cell? ⟨w.heap.size + 1, 4, none⟩ = some (.slice (some ⟨q', qo', none⟩) ks'.length ck') := B2.out.cell 4
    go_upto_region 2 with fail
    have kc := cell_far HK.out F1.out
    have kc' := cell_far HK'.out F1.out
    have i0 : (0 : Int) ≤ (i : Int) ∧ (i : Int) < (ks.length : Int) := by omega
    have i1 : (0 : Int) ≤ (i : Int) ∧ (i : Int) < (ks'.length : Int) := by omega
    go_quiet ((go_at_call 40; exact Calls.quiet_of_same (compare_d _ _ _)))
    go_wp2_with fail
    refine abs_world (fun W => Hid (Blk W w.heap.size 25 (vcs k n t (some ⟨b, off, none⟩) l.length cl (some ⟨q, qo, none⟩) ks.length ck)) ∧ Hid (Blk W (w.heap.size + 1) 25 (vcs k' n' t' (some ⟨b', off', none⟩) l'.length cl' (some ⟨q', qo', none⟩) ks'.length ck')) ∧ Hid (Fr (fun _ => False) w W)) ⟨B1.out.drewN _, B2.out.drewN _, F1.out.drewN _⟩ ?_
    clear B1 B2 F1 a4 b4 kc kc' i0 i1
    rintro W1 ⟨B1, B2, F1⟩
    have A3 := Lib.hid (show W1.cell? ⟨w.heap.size, 3, none⟩ = some (.slice (some ⟨b, off, none⟩) l.length cl) from B1.out.cell 3)
    have B3 := Lib.hid (show W1.cell? ⟨w.heap.size + 1, 3, none⟩ = some (.slice (some ⟨b', off', none⟩) l'.length cl') from B2.out.cell 3)
    have RG1 := Lib.hid (rng_far HG.out F1.out)
    have RG2 := Lib.hid (rng_far HG'.out F1.out)
    have HCALL : Hid (∀ W, Fr (fun _ => False) W1 W → Calls Tryz.prog 20 #[.agg C, .agg C'] W fun e w' => e = .returned (.int .i64 u) ∧ Fr (fun _ => False) W w') := fun W hW => by
      have h1 := F1.out.trans hW (fun _ _ h => h)
      have := IH.out l[i] (List.getElem_mem hlt) W C C' l'[i] (HR.out.far h1) (HR'.out.far h1)
      rw [HU.out] at this
      exact this
    have FW1 := Lib.hid F1.out
    clear B1 B2
    clear F1 HG HG' HR HR'
    generalize hg2 : w.heap.size + 1 = g2 at A3 B3 ⊢
    generalize hg1 : w.heap.size = g1 at A3 B3 ⊢
    clear hg1 hg2
    refine (wpIn_wide (n := 9)).1 ?_
    refine wpIn_region_factsG (ms := [0, 1, 0, 7, 15, 0, 32, 0, 224, 480, 1023, 2047]) (k := 11) (Fr (fun _ => False)) (ceX g1 g2 b off b' off' l.length l'.length cl cl' i C C' u) (fun i v W => True) (by kernel_rfl) (by kernel_rfl) (Fr.refl _ _) (fun a b c h1 h2 => h1.trans h2 (fun _ _ h => h)) (fun i v w w' hg hx => ceX_far hg hx) ?walk5
    case walk5 =>
    have hdr : ∀ W, Fr (fun _ => False) W1.drew W → Fr (fun _ => False) W1 W := fun W h => ((Fr.refl (fun _ => False) W1).drew).trans h (fun _ _ h => h)
    have HDR := Lib.hid hdr
    clear hdr
    refine factWalkG_cons (fun W hW hf K hK => ?_) (fun x0 => ?_)
    · skip
      refine ⟨by kernel_rfl, ?_⟩
      gi_step
      exact hK _ _ (Fr.refl _ _) rfl trivial
    simp only [Act.put, List.setIfInBounds_toArray, List.set_cons_succ, List.set_cons_zero]
    refine factWalkG_cons (fun W hW hf K hK => ?_) (fun x1 => ?_)
    · skip
      have e0 : x0 = .pointer (some ⟨g1, 3, none⟩) := hf 0 (by omega) (by kernel_rfl)
      subst e0
      have a3 : W.cell? ⟨g1, 3, none⟩ = some (.slice (some ⟨b, off, none⟩) l.length cl) := cell_far A3.out (HDR.out W hW)
      refine ⟨by kernel_rfl, ?_⟩
      gi_step
      exact hK _ _ (Fr.refl _ _) rfl trivial
    simp only [Act.put, List.setIfInBounds_toArray, List.set_cons_succ, List.set_cons_zero]
    refine factWalkG_cons (fun W hW hf K hK => ?_) (fun x2 => ?_)
    · skip
      refine ⟨by kernel_rfl, ?_⟩
      gi_step
      exact hK _ _ (Fr.refl _ _) rfl trivial
    simp only [Act.put, List.setIfInBounds_toArray, List.set_cons_succ, List.set_cons_zero]
    refine factWalkG_cons (fun W hW hf K hK => ?_) (fun x3 => ?_)
    · skip
      have e1 : x1 = .slice (some ⟨b, off, none⟩) l.length cl := hf 1 (by omega) (by kernel_rfl)
      have e2 : x2 = .int .i64 (i : Nat) := hf 2 (by omega) (by kernel_rfl)
      subst e1 e2
      have hl1 := HLT1.out
      refine ⟨by kernel_rfl, ?_⟩
      gi_step
      exact hK _ _ (Fr.refl _ _) rfl trivial
    simp only [Act.put, List.setIfInBounds_toArray, List.set_cons_succ, List.set_cons_zero]
    refine factWalkG_cons (fun W hW hf K hK => ?_) (fun x4 => ?_)
    · skip
      have e3 : x3 = .pointer (some ⟨b, off + i * 5, none⟩) := hf 3 (by omega) (by kernel_rfl)
      subst e3
      have hld := load_val (P := Tryz.prog) W b (off + i * 5) C (rng_far RG1.out (HDR.out W hW)) 25 _ Tryz.underlying25 rfl HS1.out
      refine ⟨by kernel_rfl, ?_⟩
      refine operIn_load 25 _ rfl _ rfl hld ?_
      exact hK _ _ (Fr.refl _ _) rfl trivial
    simp only [Act.put, List.setIfInBounds_toArray, List.set_cons_succ, List.set_cons_zero]
    refine factWalkG_cons (fun W hW hf K hK => ?_) (fun x5 => ?_)
    · skip
      refine ⟨by kernel_rfl, ?_⟩
      gi_step
      exact hK _ _ (Fr.refl _ _) rfl trivial
    simp only [Act.put, List.setIfInBounds_toArray, List.set_cons_succ, List.set_cons_zero]
    refine factWalkG_cons (fun W hW hf K hK => ?_) (fun x6 => ?_)
    · skip
      have e5 : x5 = .pointer (some ⟨g2, 3, none⟩) := hf 5 (by omega) (by kernel_rfl)
      subst e5
      have b3 : W.cell? ⟨g2, 3, none⟩ = some (.slice (some ⟨b', off', none⟩) l'.length cl') := cell_far B3.out (HDR.out W hW)
      refine ⟨by kernel_rfl, ?_⟩
      gi_step
      exact hK _ _ (Fr.refl _ _) rfl trivial
    simp only [Act.put, List.setIfInBounds_toArray, List.set_cons_succ, List.set_cons_zero]
    refine factWalkG_cons (fun W hW hf K hK => ?_) (fun x7 => ?_)
    · skip
      refine ⟨by kernel_rfl, ?_⟩
      gi_step
      exact hK _ _ (Fr.refl _ _) rfl trivial
    simp only [Act.put, List.setIfInBounds_toArray, List.set_cons_succ, List.set_cons_zero]
    refine factWalkG_cons (fun W hW hf K hK => ?_) (fun x8 => ?_)
    · skip
      have e6 : x6 = .slice (some ⟨b', off', none⟩) l'.length cl' := hf 6 (by omega) (by kernel_rfl)
      have e7 : x7 = .int .i64 (i : Nat) := hf 7 (by omega) (by kernel_rfl)
      subst e6 e7
      have hl2 := HLT2.out
      refine ⟨by kernel_rfl, ?_⟩
      gi_step
      exact hK _ _ (Fr.refl _ _) rfl trivial
    simp only [Act.put, List.setIfInBounds_toArray, List.set_cons_succ, List.set_cons_zero]
    refine factWalkG_cons (fun W hW hf K hK => ?_) (fun x9 => ?_)
    · skip
      have e8 : x8 = .pointer (some ⟨b', off' + i * 5, none⟩) := hf 8 (by omega) (by kernel_rfl)
      subst e8
      have hld := load_val (P := Tryz.prog) W b' (off' + i * 5) C' (rng_far RG2.out (HDR.out W hW)) 25 _ Tryz.underlying25 rfl HS2.out
      refine ⟨by kernel_rfl, ?_⟩
      refine operIn_load 25 _ rfl _ rfl hld ?_
      exact hK _ _ (Fr.refl _ _) rfl trivial
    simp only [Act.put, List.setIfInBounds_toArray, List.set_cons_succ, List.set_cons_zero]
    refine factWalkG_cons (fun W hW hf K hK => ?_) (fun x10 => ?_)
    · skip
      have e4 : x4 = .agg C := hf 4 (by omega) (by kernel_rfl)
      have e9 : x9 = .agg C' := hf 9 (by omega) (by kernel_rfl)
      subst e4 e9
      refine ⟨by kernel_rfl, ?_⟩
      gi_step
      refine ⟨trivial, ?_⟩
      refine (callsIn_wide.2 (HCALL.out W (HDR.out W hW))).mono ?_
      rintro e W' ⟨rfl, f2⟩
      dsimp only
      exact hK _ _ f2 rfl trivial
    simp only [Act.put, List.setIfInBounds_toArray, List.set_cons_succ, List.set_cons_zero]
    refine factWalkG_nil (fun W hW hf hmet => ?_)
    have e10 : x10 = .int .i64 u := hf 10 (by omega)
    subst e10
    have F8 := Lib.hid (FW1.out.trans (HDR.out W hW) (fun _ _ h => h))
    clear hf hmet hW HDR
    change wpAnyIn _ _ _ _ _ _ 1 _ _ _
    refine wpAnyIn_ready (rs := [11]) (by kernel_rfl) (by simp) ?_
    refine AllReadyIn.cons rfl (fun K hK => ?_) AllReadyIn.nil
    go_simp
    refine hK _ _ ?_
    refine wpAnyIn_done (by kernel_rfl) ?_ _
    go_wp2_with fail
    go_ret
    exact ⟨ret_int (by rw [HE.out, HZ.out]; rfl), F8.out⟩
  case neg =>
    have d3 : (cmpT ks[i] ks'[i] != 0) = true := by simpa using hz
    have HZ := Lib.hid hz
    clear hz
    go_enter Tryz.func41, Tryz.ntmps41
    go_upto_region 1 with fail
    refine abs_world (fun W => Hid (Blk W w.heap.size 25 (vcs k n t (some ⟨b, off, none⟩) l.length cl (some ⟨q, qo, none⟩) ks.length ck)) ∧ Hid (Blk W (w.heap.size + 1) 25 (vcs k' n' t' (some ⟨b', off', none⟩) l'.length cl' (some ⟨q', qo', none⟩) ks'.length ck')) ∧ Hid (Fr (fun _ => False) w W)) ⟨(Blk.new w _ _).alloc _, Blk.new1 w _ _ _, ((Fr.refl _ w).alloc _).alloc _⟩ ?_
    rintro W1 ⟨B1, B2, F1⟩
    have a4 : W1.cell? ⟨w.heap.size, 4, none⟩ = some (.slice (some ⟨q, qo, none⟩) ks.length ck) := B1.out.cell 4
    have b4 : W1.cell? ⟨w.heap.size + 1, 4, none⟩ = some (.slice (some ⟨q', qo', none⟩) ks'.length ck') := B2.out.cell 4
    go_upto_region 2 with fail
    have kc := cell_far HK.out F1.out
    have kc' := cell_far HK'.out F1.out
    have i0 : (0 : Int) ≤ (i : Int) ∧ (i : Int) < (ks.length : Int) := by omega
    have i1 : (0 : Int) ≤ (i : Int) ∧ (i : Int) < (ks'.length : Int) := by omega
    go_quiet ((go_at_call 40; exact Calls.quiet_of_same (compare_d _ _ _)))
    go_wp2_with fail
    go_ret
    exact ⟨ret_int (by rw [HE.out]; unfold lex; rw [if_neg HZ.out]), F1.out.drewN _⟩
end Go.Proofs.YtnkfkicabgajmaaGreatDoor
