/-
  CONTRACTS of the readers word, mark. Written by gen_lrd.py.
-/
import Derived.Test.YtimopkmlcjdgfaaDoorLsk
import Derived.Shelf.Strings.Prefix
namespace Go.Proofs
set_option linter.unusedSimpArgs false
set_option linter.unusedVariables false
open Go.Shelf
def Tryd.lays99_ren : Go.Shelf.Ren := ⟨fun | 99 => 57 | 206 => 66 | n => n, fun | 9 => 9 | 4 => 4 | 3 => 3 | n => n, fun | n => n⟩
theorem Tryd.lays99 : Go.Proofs.Lays.n99 Tryd.prog Tryd.lays99_ren := {
  mixed := by kernel_rfl
  f99 := Tryd.func57.trans (congrArg some (by kernel_rfl))
  f206 := Tryd.func66.trans (congrArg some (by kernel_rfl))
  t3 := Tryd.underlying3
  a3 := Tryd.isAgg3
  z3 := Tryd.sizeOf3
  v3 := Tryd.zeroValue3
  t4 := Tryd.underlying4
  a4 := Tryd.isAgg4
  z4 := Tryd.sizeOf4
  v4 := Tryd.zeroValue4
  t9 := Tryd.underlying9
  a9 := Tryd.isAgg9
  z9 := Tryd.sizeOf9
  v9 := Tryd.zeroValue9 }
end Go.Proofs
namespace Go.Proofs.YtimopkmlcjdgfaaDoor
set_option linter.unusedSimpArgs false
set_option linter.unusedVariables false
open Go Go.RowKit Go.Shelf

section
variable {F : Fence} {n : Nat} {P : Program} {ms : List Nat} {ops : Array Oper} {G : World → World → Prop} {w0 : World} {R : Nat → (Nat → Value) → World → Prop}
theorem factWalkR_skip {i : Nat} {o : Oper} {rest : List Oper} {val : Nat → Value} {a : Act} {K : (Nat → Value) → Act → Prop}
    (h1 : ∀ w, G w0 w → (∀ j, j < i → Anc ms i j = true → R j val w) → Region.wanted o (yielded ops a.tmps) = false ∧ (∀ f, o.about P w a.eval = some f → F.fn f) ∧ ∀ K' : Act → World → Prop, (∀ v w', G w w' → R i (fun q => if q = i then v else val q) w' → K' (a.put o.dst v) w') → K' (a.put o.dst undef) w)
    (h3 : ∀ v, factWalkR F n P ms ops G w0 R (i + 1) rest (fun q => if q = i then v else val q) (a.put o.dst v) K) : factWalkR F n P ms ops G w0 R i (o :: rest) val a K :=
  ⟨fun w hw hf K' hK' => by rw [if_neg (by rw [(h1 w hw hf).1]; decide)]; exact ⟨(h1 w hw hf).2.1, (h1 w hw hf).2.2 K' hK'⟩, h3⟩
end
theorem Gs.of_far {r : Nat} {t : TypeId} {M : Array Value} {W W' : World} (f : Fr (fun _ => False) W W') : Gs r t M W W' :=
  ⟨f.mono (fun _ _ h => h.elim), fun cs h e => ⟨cs, keepB h f, e⟩, fun h => keepB h f⟩
theorem prefix_c (w : World) (s : List UInt8) : Calls Tryd.prog 57 #[.string (strOf s), .string ⟨#[33, 61]⟩] w fun e w' => e = .returned (.bool ([33, 61].isPrefixOf s)) ∧ w = w' := by
  refine (Any.strings_HasPrefix Tryd.lays99 (strOf s) ⟨#[33, 61]⟩ w).mono ?_
  rintro e w' ⟨rfl, h⟩
  exact ⟨rfl, h.symm⟩
/-- What a reader answers. -/
def RdQ (k : Int) (t : List UInt8) (n : Int) (m : Nat) (ok : Bool) (w : World) (e : Ending) (w' : World) : Prop := e = .returned (.tuple #[.agg (tcs k t n 0), .int .i64 (m : Nat), .bool ok]) ∧ Fr (fun _ => False) w w'
section
variable {P : Program} {w : World} {F : Fence} {n : Nat} {K : Act → World → Prop} {Q : Exit → Act → World → Prop} {o : Oper} {a : Act}
theorem operIn_slice {ty : TypeId} (d lo hi : Operand) (hop : o.op = Op.slice ty d (some lo) (some hi) none)
    (v l h : Value) (hd : a.eval d = v) (hl : a.eval lo = l) (hh : a.eval hi = h) {z : Value} (hr : (Instr.sliceAt ty v (some l) (some h) none).run P w = .ok z w) (hK : K (a.put o.dst z) w) : Oper.wpIn F n P o a w K Q := by
  refine ⟨fun f hf => ?_, ?_⟩
  · simp [Oper.about, hop] at hf
  · simp [Oper.semAt, execOp, hop, hd, hl, hh, hr, Result.andThen, Oper.uponIn]
    exact hK
end
def wdR (p at_ n g : Nat) (s tx : List UInt8) (ok : Bool) (i : Nat) (val : Nat → Value) (W : World) : Prop := match i with
  | 0 => val 0 = .pointer (some ⟨p, 0, none⟩)
  | 1 => val 1 = .pointer (some ⟨p, 0, none⟩)
  | 2 => val 2 = .pointer (some ⟨p, 0, none⟩)
  | 3 => val 3 = .string (strOf s)
  | 4 => val 4 = .pointer (some ⟨p, 0, none⟩)
  | 5 => val 5 = .pointer (some ⟨p, 0, none⟩)
  | 6 => val 6 = .pointer (some ⟨p, 1, none⟩)
  | 7 => val 7 = .int .i64 (at_ : Nat)
  | 8 => val 8 = .pointer (some ⟨p, 0, none⟩)
  | 9 => val 9 = .pointer (some ⟨p, 0, none⟩)
  | 10 => val 10 = .pointer (some ⟨p, 1, none⟩)
  | 11 => val 11 = .int .i64 (at_ : Nat)
  | 12 => val 12 = .int .i64 (n : Nat)
  | 13 => val 13 = .int .i64 ((at_ : Int) + (n : Int))
  | 14 => val 14 = .string (strOf tx)
  | 15 => val 15 = .agg (tcs 1 tx 0 0)
  | 16 => val 16 = .int .i64 (n : Nat)
  | 17 => val 17 = .pointer (some ⟨p, 0, none⟩)
  | 18 => val 18 = .int .i64 (n : Nat)
  | 19 => val 19 = .bool ok
  | 20 => Blk W g 32 (tcs 1 tx 0 0)
  | 21 => val 21 = .int .i64 (n : Nat)
  | 22 => val 22 = .bool ok
  | _ => True
theorem wdR_far {p at_ n g : Nat} {s tx : List UInt8} {ok : Bool} (i : Nat) (val val' : Nat → Value) (W W' : World) (he : ∀ j, j = i ∨ Anc [0, 1, 3, 7, 0, 16, 48, 112, 0, 256, 768, 1792, 0, 7936, 16383, 32767, 0, 0, 0, 393216, 983039, 2097151, 4194303] i j = true → val j = val' j) (hg : Gs g 32 (tcs 1 tx 0 0) W W') (hx : wdR p at_ n g s tx ok i val W) : wdR p at_ n g s tx ok i val' W' := by
  match i with
  | 0 => exact (he 0 (.inl rfl)).symm.trans hx
  | 1 => exact (he 1 (.inl rfl)).symm.trans hx
  | 2 => exact (he 2 (.inl rfl)).symm.trans hx
  | 3 => exact (he 3 (.inl rfl)).symm.trans hx
  | 4 => exact (he 4 (.inl rfl)).symm.trans hx
  | 5 => exact (he 5 (.inl rfl)).symm.trans hx
  | 6 => exact (he 6 (.inl rfl)).symm.trans hx
  | 7 => exact (he 7 (.inl rfl)).symm.trans hx
  | 8 => exact (he 8 (.inl rfl)).symm.trans hx
  | 9 => exact (he 9 (.inl rfl)).symm.trans hx
  | 10 => exact (he 10 (.inl rfl)).symm.trans hx
  | 11 => exact (he 11 (.inl rfl)).symm.trans hx
  | 12 => exact (he 12 (.inl rfl)).symm.trans hx
  | 13 => exact (he 13 (.inl rfl)).symm.trans hx
  | 14 => exact (he 14 (.inl rfl)).symm.trans hx
  | 15 => exact (he 15 (.inl rfl)).symm.trans hx
  | 16 => exact (he 16 (.inl rfl)).symm.trans hx
  | 17 => exact (he 17 (.inl rfl)).symm.trans hx
  | 18 => exact (he 18 (.inl rfl)).symm.trans hx
  | 19 => exact (he 19 (.inl rfl)).symm.trans hx
  | 20 => exact hg.2.2 hx
  | 21 => exact (he 21 (.inl rfl)).symm.trans hx
  | 22 => exact (he 22 (.inl rfl)).symm.trans hx
  | (n + 23) => exact trivial
def mkR (p at_ n g : Nat) (s tx : List UInt8) (i : Nat) (val : Nat → Value) (W : World) : Prop := match i with
  | 0 => val 0 = .pointer (some ⟨p, 0, none⟩)
  | 1 => val 1 = .pointer (some ⟨p, 0, none⟩)
  | 2 => val 2 = .pointer (some ⟨p, 0, none⟩)
  | 3 => val 3 = .string (strOf s)
  | 4 => val 4 = .pointer (some ⟨p, 0, none⟩)
  | 5 => val 5 = .pointer (some ⟨p, 0, none⟩)
  | 6 => val 6 = .pointer (some ⟨p, 1, none⟩)
  | 7 => val 7 = .int .i64 (at_ : Nat)
  | 8 => val 8 = .pointer (some ⟨p, 0, none⟩)
  | 9 => val 9 = .pointer (some ⟨p, 0, none⟩)
  | 10 => val 10 = .pointer (some ⟨p, 1, none⟩)
  | 11 => val 11 = .int .i64 (at_ : Nat)
  | 12 => val 12 = .int .i64 (n : Nat)
  | 13 => val 13 = .int .i64 ((at_ : Int) + (n : Int))
  | 14 => val 14 = .string (strOf tx)
  | 15 => val 15 = .agg (tcs 4 tx 0 0)
  | 16 => val 16 = .int .i64 (n : Nat)
  | 17 => Blk W g 32 (tcs 4 tx 0 0)
  | 18 => val 18 = .int .i64 (n : Nat)
  | 19 => val 19 = .bool true
  | _ => True
theorem mkR_far {p at_ n g : Nat} {s tx : List UInt8} (i : Nat) (val val' : Nat → Value) (W W' : World) (he : ∀ j, j = i ∨ Anc [0, 1, 3, 7, 0, 16, 48, 112, 0, 256, 768, 1792, 0, 7936, 16383, 32767, 0, 65535, 262143, 524287] i j = true → val j = val' j) (hg : Gs g 32 (tcs 4 tx 0 0) W W') (hx : mkR p at_ n g s tx i val W) : mkR p at_ n g s tx i val' W' := by
  match i with
  | 0 => exact (he 0 (.inl rfl)).symm.trans hx
  | 1 => exact (he 1 (.inl rfl)).symm.trans hx
  | 2 => exact (he 2 (.inl rfl)).symm.trans hx
  | 3 => exact (he 3 (.inl rfl)).symm.trans hx
  | 4 => exact (he 4 (.inl rfl)).symm.trans hx
  | 5 => exact (he 5 (.inl rfl)).symm.trans hx
  | 6 => exact (he 6 (.inl rfl)).symm.trans hx
  | 7 => exact (he 7 (.inl rfl)).symm.trans hx
  | 8 => exact (he 8 (.inl rfl)).symm.trans hx
  | 9 => exact (he 9 (.inl rfl)).symm.trans hx
  | 10 => exact (he 10 (.inl rfl)).symm.trans hx
  | 11 => exact (he 11 (.inl rfl)).symm.trans hx
  | 12 => exact (he 12 (.inl rfl)).symm.trans hx
  | 13 => exact (he 13 (.inl rfl)).symm.trans hx
  | 14 => exact (he 14 (.inl rfl)).symm.trans hx
  | 15 => exact (he 15 (.inl rfl)).symm.trans hx
  | 16 => exact (he 16 (.inl rfl)).symm.trans hx
  | 17 => exact hg.2.2 hx
  | 18 => exact (he 18 (.inl rfl)).symm.trans hx
  | 19 => exact (he 19 (.inl rfl)).symm.trans hx
  | (n + 20) => exact trivial
set_option maxRecDepth 100000 in
set_option maxHeartbeats 8000000 in
theorem word_c (w : World) (p at_ : Nat) (s : List UInt8) (hs : s.length ≤ 1000000000) (hp : Blk w p 45 (xcs s at_)) (h : at_ < s.length) :
    Calls Tryd.prog 36 #[.pointer (some ⟨p, 0, none⟩)] w (RdQ 1 ((s.drop at_).take (1 + wEnd (s.drop (at_ + 1)))) 0 (1 + wEnd (s.drop (at_ + 1))) (endOk (s.drop (at_ + (1 + wEnd (s.drop (at_ + 1))))))  w) := by
  have hres := results_tii (P := Tryd.prog) (fn := Tryd.f36) (p := 2) (q := 3) (r := 4) (ty := 32) Tryd.results36
  have hsz := strOf_size s
  have hwl : 1 + wEnd (s.drop (at_ + 1)) ≤ s.length - at_ := by have := wEnd_le (s.drop (at_ + 1)); rw [List.length_drop] at this; omega
  have WE := Lib.hid (fun W => wordEnd_c W (s.drop at_) (by rw [List.length_drop]; omega) (by rw [List.length_drop]; omega))
  rw [List.drop_drop] at WE
  obtain ⟨n, hn⟩ : ∃ n, 1 + wEnd (s.drop (at_ + 1)) = n := ⟨_, rfl⟩
  rw [hn] at WE hwl ⊢
  clear hn
  have hdp := fun W => run_drop W s at_ (by omega)
  have EN := Lib.hid (fun W h => ends_c W p at_ n s hs h (by omega))
  obtain ⟨ok, hok⟩ : ∃ ok, endOk (s.drop (at_ + n)) = ok := ⟨_, rfl⟩
  rw [hok] at EN ⊢
  clear hok
  have hsl : ∀ W, (Instr.sliceAt 9 (.string (strOf s)) (some (.int .i64 (at_ : Nat))) (some (.int .i64 ((at_ : Int) + (n : Int)))) none).run Tryd.prog W = .ok (.string (strOf ((s.drop at_).take n))) W := fun W => by
    have h1 := run_sub W s at_ (at_ + n) (by omega) (by omega)
    rw [show at_ + n - at_ = n by omega] at h1
    exact h1
  obtain ⟨tx, htx⟩ : ∃ tx, (s.drop at_).take n = tx := ⟨_, rfl⟩
  rw [htx] at hsl ⊢
  have HSL := Lib.hid hsl
  have HNB : Hid (-9223372036854775808 ≤ (at_ : Int) + (n : Int) ∧ (at_ : Int) + (n : Int) ≤ 9223372036854775807) := Lib.hid (by omega)
  clear htx hsl
  obtain ⟨g, hg⟩ : ∃ g, w.heap.size = g := ⟨_, rfl⟩
  have HG := Lib.hid hg
  have HPG : Hid (¬ p = g) := Lib.hid (by have := hp.lt; omega)
  have HP := Lib.hid hp
  clear hp hg
  go_enter Tryd.func36, Tryd.ntmps36
  go_upto_region 1 with fail
  refine abs_world (fun W => Hid (Blk W w.heap.size 32 (tcs 0 [] 0 0)) ∧ Hid (Blk W p 45 (xcs s at_)) ∧ Hid (Fr (fun _ => False) w W)) ⟨Blk.new w _ _, HP.out.alloc _, (Fr.refl _ w).alloc _⟩ ?_
  rintro W1 ⟨Z0, P1, F1⟩
  rw [HG.out] at Z0 ⊢
  have c0 : W1.cell? ⟨p, 0, none⟩ = some (.string (strOf s)) := P1.out.cell 0
  have c1 : W1.cell? ⟨p, 1, none⟩ = some (.int .i64 (at_ : Nat)) := P1.out.cell 1
  go_quiet (first | (go_at_call 24; refine Calls.quiet_of_same ((WE.out _).mono fun e w' h => ⟨h.1, h.2.symm⟩)))
  go_upto_region 2 with fail
  refine abs_world (fun W => Hid (Blk W g 32 (tcs 0 [] 0 0)) ∧ Hid (Blk W p 45 (xcs s at_)) ∧ Hid (Fr (fun _ => False) w W)) ⟨Z0.out.drewN _, P1.out.drewN _, F1.out.drewN _⟩ ?_
  clear c0 c1 Z0 P1 F1
  clear W1
  rintro W1 ⟨Z0, P1, F1⟩
  have S1 := Lib.hid (show (Tryd.prog.info? 32).map (·.size) = some (tcs 1 tx 0 0).size from tsize)
  have HO1 := Lib.hid (show (tcs 1 tx 0 0).all (·.oneCell') = true by simp [tcs, Value.oneCell'])
  refine (wpIn_wide (n := 9)).1 ?_
  refine wpIn_region_factsR (ms := [0, 1, 3, 7, 0, 16, 48, 112, 0, 256, 768, 1792, 0, 7936, 16383, 32767, 0, 0, 0, 393216, 983039, 2097151, 4194303]) (k := 23) (Gs g 32 (tcs 1 tx 0 0)) (wdR p at_ n g s tx ok) (by kernel_rfl) (by kernel_rfl) (fun W => Gs.refl W) (fun a b c h1 h2 => h1.trans h2) (wdR_far) (lowMs_lt (by kernel_rfl)) ?walkw
  case walkw =>
  refine factWalkR_cons (fun W hW hf K hK => ?_) (fun v0 => ?_)
  · skip
    refine ⟨by kernel_rfl, ?_⟩
    gi_step
    exact hK _ _ (Gs.refl _) rfl
  simp only [Act.put, List.setIfInBounds_toArray, List.set_cons_succ, List.set_cons_zero]
  refine factWalkR_cons (fun W hW hf K hK => ?_) (fun v1 => ?_)
  · skip
    have e0 : v0 = .pointer (some ⟨p, 0, none⟩) := hf 0 (by omega) (by kernel_rfl)
    subst e0
    refine ⟨by kernel_rfl, ?_⟩
    gi_step
    exact hK _ _ (Gs.refl _) rfl
  simp only [Act.put, List.setIfInBounds_toArray, List.set_cons_succ, List.set_cons_zero]
  refine factWalkR_cons (fun W hW hf K hK => ?_) (fun v2 => ?_)
  · skip
    have e1 : v1 = .pointer (some ⟨p, 0, none⟩) := hf 1 (by omega) (by kernel_rfl)
    subst e1
    refine ⟨by kernel_rfl, ?_⟩
    gi_step
    exact hK _ _ (Gs.refl _) rfl
  simp only [Act.put, List.setIfInBounds_toArray, List.set_cons_succ, List.set_cons_zero]
  refine factWalkR_cons (fun W hW hf K hK => ?_) (fun v3 => ?_)
  · skip
    have e2 : v2 = .pointer (some ⟨p, 0, none⟩) := hf 2 (by omega) (by kernel_rfl)
    subst e2
    have cp0 : W.cell? ⟨p, 0, none⟩ = some (.string (strOf s)) := (P1.out.drew.fr hW.1 HPG.out).cell 0
    refine ⟨by kernel_rfl, ?_⟩
    gi_step
    exact hK _ _ (Gs.refl _) rfl
  simp only [Act.put, List.setIfInBounds_toArray, List.set_cons_succ, List.set_cons_zero]
  refine factWalkR_cons (fun W hW hf K hK => ?_) (fun v4 => ?_)
  · skip
    refine ⟨by kernel_rfl, ?_⟩
    gi_step
    exact hK _ _ (Gs.refl _) rfl
  simp only [Act.put, List.setIfInBounds_toArray, List.set_cons_succ, List.set_cons_zero]
  refine factWalkR_cons (fun W hW hf K hK => ?_) (fun v5 => ?_)
  · skip
    have e4 : v4 = .pointer (some ⟨p, 0, none⟩) := hf 4 (by omega) (by kernel_rfl)
    subst e4
    refine ⟨by kernel_rfl, ?_⟩
    gi_step
    exact hK _ _ (Gs.refl _) rfl
  simp only [Act.put, List.setIfInBounds_toArray, List.set_cons_succ, List.set_cons_zero]
  refine factWalkR_cons (fun W hW hf K hK => ?_) (fun v6 => ?_)
  · skip
    have e5 : v5 = .pointer (some ⟨p, 0, none⟩) := hf 5 (by omega) (by kernel_rfl)
    subst e5
    refine ⟨by kernel_rfl, ?_⟩
    gi_step
    exact hK _ _ (Gs.refl _) rfl
  simp only [Act.put, List.setIfInBounds_toArray, List.set_cons_succ, List.set_cons_zero]
  refine factWalkR_cons (fun W hW hf K hK => ?_) (fun v7 => ?_)
  · skip
    have e6 : v6 = .pointer (some ⟨p, 1, none⟩) := hf 6 (by omega) (by kernel_rfl)
    subst e6
    have cp1 : W.cell? ⟨p, 1, none⟩ = some (.int .i64 (at_ : Nat)) := (P1.out.drew.fr hW.1 HPG.out).cell 1
    refine ⟨by kernel_rfl, ?_⟩
    gi_step
    exact hK _ _ (Gs.refl _) rfl
  simp only [Act.put, List.setIfInBounds_toArray, List.set_cons_succ, List.set_cons_zero]
  refine factWalkR_cons (fun W hW hf K hK => ?_) (fun v8 => ?_)
  · skip
    refine ⟨by kernel_rfl, ?_⟩
    gi_step
    exact hK _ _ (Gs.refl _) rfl
  simp only [Act.put, List.setIfInBounds_toArray, List.set_cons_succ, List.set_cons_zero]
  refine factWalkR_cons (fun W hW hf K hK => ?_) (fun v9 => ?_)
  · skip
    have e8 : v8 = .pointer (some ⟨p, 0, none⟩) := hf 8 (by omega) (by kernel_rfl)
    subst e8
    refine ⟨by kernel_rfl, ?_⟩
    gi_step
    exact hK _ _ (Gs.refl _) rfl
  simp only [Act.put, List.setIfInBounds_toArray, List.set_cons_succ, List.set_cons_zero]
  refine factWalkR_cons (fun W hW hf K hK => ?_) (fun v10 => ?_)
  · skip
    have e9 : v9 = .pointer (some ⟨p, 0, none⟩) := hf 9 (by omega) (by kernel_rfl)
    subst e9
    refine ⟨by kernel_rfl, ?_⟩
    gi_step
    exact hK _ _ (Gs.refl _) rfl
  simp only [Act.put, List.setIfInBounds_toArray, List.set_cons_succ, List.set_cons_zero]
  refine factWalkR_cons (fun W hW hf K hK => ?_) (fun v11 => ?_)
  · skip
    have e10 : v10 = .pointer (some ⟨p, 1, none⟩) := hf 10 (by omega) (by kernel_rfl)
    subst e10
    have cp1 : W.cell? ⟨p, 1, none⟩ = some (.int .i64 (at_ : Nat)) := (P1.out.drew.fr hW.1 HPG.out).cell 1
    refine ⟨by kernel_rfl, ?_⟩
    gi_step
    exact hK _ _ (Gs.refl _) rfl
  simp only [Act.put, List.setIfInBounds_toArray, List.set_cons_succ, List.set_cons_zero]
  refine factWalkR_cons (fun W hW hf K hK => ?_) (fun v12 => ?_)
  · skip
    refine ⟨by kernel_rfl, ?_⟩
    gi_step
    exact hK _ _ (Gs.refl _) rfl
  simp only [Act.put, List.setIfInBounds_toArray, List.set_cons_succ, List.set_cons_zero]
  refine factWalkR_cons (fun W hW hf K hK => ?_) (fun v13 => ?_)
  · skip
    have e11 : v11 = .int .i64 (at_ : Nat) := hf 11 (by omega) (by kernel_rfl)
    have e12 : v12 = .int .i64 (n : Nat) := hf 12 (by omega) (by kernel_rfl)
    subst e11 e12
    have hwr : IntKind.i64.wrap ((at_ : Int) + (n : Int)) = (at_ : Int) + (n : Int) := IntWalk.i64_in _ HNB.out
    refine ⟨by kernel_rfl, ?_⟩
    gi_step
    exact hK _ _ (Gs.refl _) rfl
  simp only [Act.put, List.setIfInBounds_toArray, List.set_cons_succ, List.set_cons_zero]
  refine factWalkR_cons (fun W hW hf K hK => ?_) (fun v14 => ?_)
  · skip
    have e3 : v3 = .string (strOf s) := hf 3 (by omega) (by kernel_rfl)
    have e7 : v7 = .int .i64 (at_ : Nat) := hf 7 (by omega) (by kernel_rfl)
    have e13 : v13 = .int .i64 ((at_ : Int) + (n : Int)) := hf 13 (by omega) (by kernel_rfl)
    subst e3 e7 e13
    refine ⟨by kernel_rfl, ?_⟩
    refine operIn_slice _ _ _ rfl _ _ _ rfl rfl rfl (HSL.out W) ?_
    exact hK _ _ (Gs.refl _) rfl
  simp only [Act.put, List.setIfInBounds_toArray, List.set_cons_succ, List.set_cons_zero]
  refine factWalkR_cons (fun W hW hf K hK => ?_) (fun v15 => ?_)
  · skip
    have e14 : v14 = .string (strOf tx) := hf 14 (by omega) (by kernel_rfl)
    subst e14
    refine ⟨by kernel_rfl, ?_⟩
    gi_step
    exact hK _ _ (Gs.refl _) rfl
  simp only [Act.put, List.setIfInBounds_toArray, List.set_cons_succ, List.set_cons_zero]
  refine factWalkR_cons (fun W hW hf K hK => ?_) (fun v16 => ?_)
  · skip
    refine ⟨by kernel_rfl, ?_⟩
    gi_step
    exact hK _ _ (Gs.refl _) rfl
  simp only [Act.put, List.setIfInBounds_toArray, List.set_cons_succ, List.set_cons_zero]
  refine factWalkR_cons (fun W hW hf K hK => ?_) (fun v17 => ?_)
  · skip
    refine ⟨by kernel_rfl, ?_⟩
    gi_step
    exact hK _ _ (Gs.refl _) rfl
  simp only [Act.put, List.setIfInBounds_toArray, List.set_cons_succ, List.set_cons_zero]
  refine factWalkR_cons (fun W hW hf K hK => ?_) (fun v18 => ?_)
  · skip
    refine ⟨by kernel_rfl, ?_⟩
    gi_step
    exact hK _ _ (Gs.refl _) rfl
  simp only [Act.put, List.setIfInBounds_toArray, List.set_cons_succ, List.set_cons_zero]
  refine factWalkR_cons (fun W hW hf K hK => ?_) (fun v19 => ?_)
  · skip
    have e17 : v17 = .pointer (some ⟨p, 0, none⟩) := hf 17 (by omega) (by kernel_rfl)
    have e18 : v18 = .int .i64 (n : Nat) := hf 18 (by omega) (by kernel_rfl)
    subst e17 e18
    refine ⟨by kernel_rfl, ?_⟩
    gi_step
    refine ⟨trivial, ?_⟩
    refine (callsIn_wide.2 (EN.out W (P1.out.drew.fr hW.1 HPG.out))).mono ?_
    rintro e W' ⟨rfl, rfl⟩
    dsimp only
    exact hK _ _ (Gs.refl _) rfl
  simp only [Act.put, List.setIfInBounds_toArray, List.set_cons_succ, List.set_cons_zero]
  refine factWalkR_cons (fun W hW hf K hK => ?_) (fun v20 => ?_)
  · skip
    have e15 : v15 = .agg (tcs 1 tx 0 0) := hf 15 (by omega) (by kernel_rfl)
    subst e15
    obtain ⟨cs0, bz, hz⟩ := hW.2.1 _ Z0.out.drew rfl
    have hsto := run_storeAt_mid (P := Tryd.prog) W g 0 32 (tcs 1 tx 0 0) (by have h := bz.there; rw [hz] at h; exact h) S1.out HO1.out
    refine ⟨by kernel_rfl, ?_⟩
    refine operIn_store rfl _ _ _ rfl _ _ rfl rfl hsto ?_
    exact hK undef _ (Gs.store bz hz) (bz.setAll hz.symm)
  simp only [Act.put, List.setIfInBounds_toArray, List.set_cons_succ, List.set_cons_zero]
  refine factWalkR_cons (fun W hW hf K hK => ?_) (fun v21 => ?_)
  · skip
    have e16 : v16 = .int .i64 (n : Nat) := hf 16 (by omega) (by kernel_rfl)
    subst e16
    refine ⟨by kernel_rfl, ?_⟩
    gi_step
    exact hK _ _ (Gs.refl _) rfl
  simp only [Act.put, List.setIfInBounds_toArray, List.set_cons_succ, List.set_cons_zero]
  refine factWalkR_cons (fun W hW hf K hK => ?_) (fun v22 => ?_)
  · skip
    have e19 : v19 = .bool ok := hf 19 (by omega) (by kernel_rfl)
    subst e19
    refine ⟨by kernel_rfl, ?_⟩
    gi_step
    exact hK _ _ (Gs.refl _) rfl
  simp only [Act.put, List.setIfInBounds_toArray, List.set_cons_succ, List.set_cons_zero]
  refine factWalkR_nil (fun W hW hf => ?_)
  have b9 : Blk W g 32 (tcs 1 tx 0 0) := hf 20 (by omega)
  have e1 : v21 = .int .i64 (n : Nat) := hf 21 (by omega)
  have e2 : v22 = .bool ok := hf 22 (by omega)
  subst e1 e2
  have BM := Lib.hid b9
  have FW : Hid (Fr (fun q => q = g) w W) := Lib.hid ((F1.out.drew.mono (fun _ _ h => h.elim)).trans hW.1 (fun _ _ h => h))
  clear hf hW b9
  change wpAnyIn _ _ _ _ _ _ 0 _ _ _
  refine wpAnyIn_done (by kernel_rfl) ?_ _
  try simp only [Act.put, List.setIfInBounds_toArray, List.set_cons_succ, List.set_cons_zero]
  go_wp2_with fail
  refine bodyPost_ret (v := .tuple #[.agg (tcs 1 tx 0 0), .int .i64 (n : Nat), .bool ok]) (hres _ W g 32 _ _ _ _ rfl rfl rfl BM.out Tryd.underlying32 rfl S1.out) rfl ?_
  have hg := HG.out
  exact ⟨rfl, FW.out.mono (fun q hq e => by omega)⟩
set_option maxRecDepth 100000 in
set_option maxHeartbeats 8000000 in
theorem mark_c (w : World) (p at_ : Nat) (s : List UInt8) (hs : s.length ≤ 1000000000) (hp : Blk w p 45 (xcs s at_)) (h : at_ < s.length) :
    Calls Tryd.prog 40 #[.pointer (some ⟨p, 0, none⟩)] w (RdQ 4 ((s.drop at_).take (if [33, 61].isPrefixOf (s.drop at_) then 2 else 1)) 0 (if [33, 61].isPrefixOf (s.drop at_) then 2 else 1) true  w) := by
  have hres := results_tii (P := Tryd.prog) (fn := Tryd.f40) (p := 2) (q := 3) (r := 4) (ty := 32) Tryd.results40
  have hsz := strOf_size s
  have hdp := fun W => run_drop W s at_ (by omega)
  have PX := Lib.hid (fun W => prefix_c W (s.drop at_))
  obtain ⟨b, hb⟩ : ∃ b, [33, 61].isPrefixOf (s.drop at_) = b := ⟨_, rfl⟩
  rw [hb] at PX ⊢
  have hwl : (if b = true then 2 else 1 : Nat) ≤ s.length - at_ := by
    cases b with
    | false => simp; omega
    | true =>
      have := (List.isPrefixOf_iff_prefix.1 hb).length_le
      rw [List.length_drop] at this
      simpa using this
  clear hb
  obtain ⟨n, hn⟩ : ∃ n : Nat, (if b = true then 2 else 1) = n := ⟨_, rfl⟩
  rw [hn] at hwl ⊢
  have hsl : ∀ W, (Instr.sliceAt 9 (.string (strOf s)) (some (.int .i64 (at_ : Nat))) (some (.int .i64 ((at_ : Int) + (n : Int)))) none).run Tryd.prog W = .ok (.string (strOf ((s.drop at_).take n))) W := fun W => by
    have h1 := run_sub W s at_ (at_ + n) (by omega) (by omega)
    rw [show at_ + n - at_ = n by omega] at h1
    exact h1
  obtain ⟨tx, htx⟩ : ∃ tx, (s.drop at_).take n = tx := ⟨_, rfl⟩
  rw [htx] at hsl ⊢
  have HSL := Lib.hid hsl
  have HNB : Hid (-9223372036854775808 ≤ (at_ : Int) + (n : Int) ∧ (at_ : Int) + (n : Int) ≤ 9223372036854775807) := Lib.hid (by omega)
  clear htx hsl
  obtain ⟨g, hg⟩ : ∃ g, w.heap.size = g := ⟨_, rfl⟩
  have HG := Lib.hid hg
  have HPG : Hid (¬ p = g) := Lib.hid (by have := hp.lt; omega)
  have HP := Lib.hid hp
  clear hp hg
  go_enter Tryd.func40, Tryd.ntmps40
  go_upto_region 1 with fail
  refine abs_world (fun W => Hid (Blk W w.heap.size 32 (tcs 0 [] 0 0)) ∧ Hid (Blk W p 45 (xcs s at_)) ∧ Hid (Fr (fun _ => False) w W)) ⟨Blk.new w _ _, HP.out.alloc _, (Fr.refl _ w).alloc _⟩ ?_
  rintro W1 ⟨Z0, P1, F1⟩
  rw [HG.out] at Z0 ⊢
  have c0 : W1.cell? ⟨p, 0, none⟩ = some (.string (strOf s)) := P1.out.cell 0
  have c1 : W1.cell? ⟨p, 1, none⟩ = some (.int .i64 (at_ : Nat)) := P1.out.cell 1
  go_upto_region 2 with fail
  go_quiet (first | (go_at_call 57; refine Calls.quiet_of_same ((PX.out _).mono fun e w' h => ⟨h.1, h.2.symm⟩)))
  refine abs_exit (fun W => Hid (Blk W g 32 (tcs 0 [] 0 0)) ∧ Hid (Blk W p 45 (xcs s at_)) ∧ Hid (Fr (fun _ => False) w W)) ⟨Z0.out.drewN _, P1.out.drewN _, F1.out.drewN _⟩ ?_
  clear c0 c1 Z0 P1 F1
  clear W1
  rintro W1 ⟨Z0, P1, F1⟩
  cases b with
  | true =>
    obtain rfl : n = 2 := hn.symm
    go_upto_region 4 with fail
    have S1 := Lib.hid (show (Tryd.prog.info? 32).map (·.size) = some (tcs 4 tx 0 0).size from tsize)
    have HO1 := Lib.hid (show (tcs 4 tx 0 0).all (·.oneCell') = true by simp [tcs, Value.oneCell'])
    refine (wpIn_wide (n := 9)).1 ?_
    refine wpIn_region_factsR (ms := [0, 1, 3, 7, 0, 16, 48, 112, 0, 256, 768, 1792, 0, 7936, 16383, 32767, 0, 65535, 262143, 524287]) (k := 20) (Gs g 32 (tcs 4 tx 0 0)) (mkR p at_ 2 g s tx) (by kernel_rfl) (by kernel_rfl) (fun W => Gs.refl W) (fun a b c h1 h2 => h1.trans h2) (mkR_far) (lowMs_lt (by kernel_rfl)) ?walkm1
    case walkm1 =>
    refine factWalkR_cons (fun W hW hf K hK => ?_) (fun v0 => ?_)
    · skip
      refine ⟨by kernel_rfl, ?_⟩
      gi_step
      exact hK _ _ (Gs.refl _) rfl
    simp only [Act.put, List.setIfInBounds_toArray, List.set_cons_succ, List.set_cons_zero]
    refine factWalkR_cons (fun W hW hf K hK => ?_) (fun v1 => ?_)
    · skip
      have e0 : v0 = .pointer (some ⟨p, 0, none⟩) := hf 0 (by omega) (by kernel_rfl)
      subst e0
      refine ⟨by kernel_rfl, ?_⟩
      gi_step
      exact hK _ _ (Gs.refl _) rfl
    simp only [Act.put, List.setIfInBounds_toArray, List.set_cons_succ, List.set_cons_zero]
    refine factWalkR_cons (fun W hW hf K hK => ?_) (fun v2 => ?_)
    · skip
      have e1 : v1 = .pointer (some ⟨p, 0, none⟩) := hf 1 (by omega) (by kernel_rfl)
      subst e1
      refine ⟨by kernel_rfl, ?_⟩
      gi_step
      exact hK _ _ (Gs.refl _) rfl
    simp only [Act.put, List.setIfInBounds_toArray, List.set_cons_succ, List.set_cons_zero]
    refine factWalkR_cons (fun W hW hf K hK => ?_) (fun v3 => ?_)
    · skip
      have e2 : v2 = .pointer (some ⟨p, 0, none⟩) := hf 2 (by omega) (by kernel_rfl)
      subst e2
      have cp0 : W.cell? ⟨p, 0, none⟩ = some (.string (strOf s)) := (P1.out.drew.fr hW.1 HPG.out).cell 0
      refine ⟨by kernel_rfl, ?_⟩
      gi_step
      exact hK _ _ (Gs.refl _) rfl
    simp only [Act.put, List.setIfInBounds_toArray, List.set_cons_succ, List.set_cons_zero]
    refine factWalkR_cons (fun W hW hf K hK => ?_) (fun v4 => ?_)
    · skip
      refine ⟨by kernel_rfl, ?_⟩
      gi_step
      exact hK _ _ (Gs.refl _) rfl
    simp only [Act.put, List.setIfInBounds_toArray, List.set_cons_succ, List.set_cons_zero]
    refine factWalkR_cons (fun W hW hf K hK => ?_) (fun v5 => ?_)
    · skip
      have e4 : v4 = .pointer (some ⟨p, 0, none⟩) := hf 4 (by omega) (by kernel_rfl)
      subst e4
      refine ⟨by kernel_rfl, ?_⟩
      gi_step
      exact hK _ _ (Gs.refl _) rfl
    simp only [Act.put, List.setIfInBounds_toArray, List.set_cons_succ, List.set_cons_zero]
    refine factWalkR_cons (fun W hW hf K hK => ?_) (fun v6 => ?_)
    · skip
      have e5 : v5 = .pointer (some ⟨p, 0, none⟩) := hf 5 (by omega) (by kernel_rfl)
      subst e5
      refine ⟨by kernel_rfl, ?_⟩
      gi_step
      exact hK _ _ (Gs.refl _) rfl
    simp only [Act.put, List.setIfInBounds_toArray, List.set_cons_succ, List.set_cons_zero]
    refine factWalkR_cons (fun W hW hf K hK => ?_) (fun v7 => ?_)
    · skip
      have e6 : v6 = .pointer (some ⟨p, 1, none⟩) := hf 6 (by omega) (by kernel_rfl)
      subst e6
      have cp1 : W.cell? ⟨p, 1, none⟩ = some (.int .i64 (at_ : Nat)) := (P1.out.drew.fr hW.1 HPG.out).cell 1
      refine ⟨by kernel_rfl, ?_⟩
      gi_step
      exact hK _ _ (Gs.refl _) rfl
    simp only [Act.put, List.setIfInBounds_toArray, List.set_cons_succ, List.set_cons_zero]
    refine factWalkR_cons (fun W hW hf K hK => ?_) (fun v8 => ?_)
    · skip
      refine ⟨by kernel_rfl, ?_⟩
      gi_step
      exact hK _ _ (Gs.refl _) rfl
    simp only [Act.put, List.setIfInBounds_toArray, List.set_cons_succ, List.set_cons_zero]
    refine factWalkR_cons (fun W hW hf K hK => ?_) (fun v9 => ?_)
    · skip
      have e8 : v8 = .pointer (some ⟨p, 0, none⟩) := hf 8 (by omega) (by kernel_rfl)
      subst e8
      refine ⟨by kernel_rfl, ?_⟩
      gi_step
      exact hK _ _ (Gs.refl _) rfl
    simp only [Act.put, List.setIfInBounds_toArray, List.set_cons_succ, List.set_cons_zero]
    refine factWalkR_cons (fun W hW hf K hK => ?_) (fun v10 => ?_)
    · skip
      have e9 : v9 = .pointer (some ⟨p, 0, none⟩) := hf 9 (by omega) (by kernel_rfl)
      subst e9
      refine ⟨by kernel_rfl, ?_⟩
      gi_step
      exact hK _ _ (Gs.refl _) rfl
    simp only [Act.put, List.setIfInBounds_toArray, List.set_cons_succ, List.set_cons_zero]
    refine factWalkR_cons (fun W hW hf K hK => ?_) (fun v11 => ?_)
    · skip
      have e10 : v10 = .pointer (some ⟨p, 1, none⟩) := hf 10 (by omega) (by kernel_rfl)
      subst e10
      have cp1 : W.cell? ⟨p, 1, none⟩ = some (.int .i64 (at_ : Nat)) := (P1.out.drew.fr hW.1 HPG.out).cell 1
      refine ⟨by kernel_rfl, ?_⟩
      gi_step
      exact hK _ _ (Gs.refl _) rfl
    simp only [Act.put, List.setIfInBounds_toArray, List.set_cons_succ, List.set_cons_zero]
    refine factWalkR_cons (fun W hW hf K hK => ?_) (fun v12 => ?_)
    · skip
      refine ⟨by kernel_rfl, ?_⟩
      gi_step
      exact hK _ _ (Gs.refl _) rfl
    simp only [Act.put, List.setIfInBounds_toArray, List.set_cons_succ, List.set_cons_zero]
    refine factWalkR_cons (fun W hW hf K hK => ?_) (fun v13 => ?_)
    · skip
      have e11 : v11 = .int .i64 (at_ : Nat) := hf 11 (by omega) (by kernel_rfl)
      have e12 : v12 = .int .i64 2 := hf 12 (by omega) (by kernel_rfl)
      subst e11 e12
      have hwr : IntKind.i64.wrap ((at_ : Int) + 2) = (at_ : Int) + 2 := IntWalk.i64_in _ HNB.out
      refine ⟨by kernel_rfl, ?_⟩
      gi_step
      exact hK _ _ (Gs.refl _) rfl
    simp only [Act.put, List.setIfInBounds_toArray, List.set_cons_succ, List.set_cons_zero]
    refine factWalkR_cons (fun W hW hf K hK => ?_) (fun v14 => ?_)
    · skip
      have e3 : v3 = .string (strOf s) := hf 3 (by omega) (by kernel_rfl)
      have e7 : v7 = .int .i64 (at_ : Nat) := hf 7 (by omega) (by kernel_rfl)
      have e13 : v13 = .int .i64 ((at_ : Int) + 2) := hf 13 (by omega) (by kernel_rfl)
      subst e3 e7 e13
      refine ⟨by kernel_rfl, ?_⟩
      refine operIn_slice _ _ _ rfl _ _ _ rfl rfl rfl (HSL.out W) ?_
      exact hK _ _ (Gs.refl _) rfl
    simp only [Act.put, List.setIfInBounds_toArray, List.set_cons_succ, List.set_cons_zero]
    refine factWalkR_cons (fun W hW hf K hK => ?_) (fun v15 => ?_)
    · skip
      have e14 : v14 = .string (strOf tx) := hf 14 (by omega) (by kernel_rfl)
      subst e14
      refine ⟨by kernel_rfl, ?_⟩
      gi_step
      exact hK _ _ (Gs.refl _) rfl
    simp only [Act.put, List.setIfInBounds_toArray, List.set_cons_succ, List.set_cons_zero]
    refine factWalkR_cons (fun W hW hf K hK => ?_) (fun v16 => ?_)
    · skip
      refine ⟨by kernel_rfl, ?_⟩
      gi_step
      exact hK _ _ (Gs.refl _) rfl
    simp only [Act.put, List.setIfInBounds_toArray, List.set_cons_succ, List.set_cons_zero]
    refine factWalkR_cons (fun W hW hf K hK => ?_) (fun v17 => ?_)
    · skip
      have e15 : v15 = .agg (tcs 4 tx 0 0) := hf 15 (by omega) (by kernel_rfl)
      subst e15
      obtain ⟨cs0, bz, hz⟩ := hW.2.1 _ Z0.out.drew rfl
      have hsto := run_storeAt_mid (P := Tryd.prog) W g 0 32 (tcs 4 tx 0 0) (by have h := bz.there; rw [hz] at h; exact h) S1.out HO1.out
      refine ⟨by kernel_rfl, ?_⟩
      refine operIn_store rfl _ _ _ rfl _ _ rfl rfl hsto ?_
      exact hK undef _ (Gs.store bz hz) (bz.setAll hz.symm)
    simp only [Act.put, List.setIfInBounds_toArray, List.set_cons_succ, List.set_cons_zero]
    refine factWalkR_cons (fun W hW hf K hK => ?_) (fun v18 => ?_)
    · skip
      have e16 : v16 = .int .i64 2 := hf 16 (by omega) (by kernel_rfl)
      subst e16
      refine ⟨by kernel_rfl, ?_⟩
      gi_step
      exact hK _ _ (Gs.refl _) rfl
    simp only [Act.put, List.setIfInBounds_toArray, List.set_cons_succ, List.set_cons_zero]
    refine factWalkR_cons (fun W hW hf K hK => ?_) (fun v19 => ?_)
    · skip
      refine ⟨by kernel_rfl, ?_⟩
      gi_step
      exact hK _ _ (Gs.refl _) rfl
    simp only [Act.put, List.setIfInBounds_toArray, List.set_cons_succ, List.set_cons_zero]
    refine factWalkR_nil (fun W hW hf => ?_)
    have b9 : Blk W g 32 (tcs 4 tx 0 0) := hf 17 (by omega)
    have e1 : v18 = .int .i64 2 := hf 18 (by omega)
    have e2 : v19 = .bool true := hf 19 (by omega)
    subst e1 e2
    have BM := Lib.hid b9
    have FW : Hid (Fr (fun q => q = g) w W) := Lib.hid ((F1.out.drew.mono (fun _ _ h => h.elim)).trans hW.1 (fun _ _ h => h))
    clear hf hW b9
    change wpAnyIn _ _ _ _ _ _ 0 _ _ _
    refine wpAnyIn_done (by kernel_rfl) ?_ _
    try simp only [Act.put, List.setIfInBounds_toArray, List.set_cons_succ, List.set_cons_zero]
    go_wp2_with fail
    refine bodyPost_ret (v := .tuple #[.agg (tcs 4 tx 0 0), .int .i64 2, .bool true]) (hres _ W g 32 _ _ _ _ rfl rfl rfl BM.out Tryd.underlying32 rfl S1.out) rfl ?_
    have hg := HG.out
    exact ⟨rfl, FW.out.mono (fun q hq e => by omega)⟩
  | false =>
    obtain rfl : n = 1 := hn.symm
    go_upto_region 4 with fail
    have S1 := Lib.hid (show (Tryd.prog.info? 32).map (·.size) = some (tcs 4 tx 0 0).size from tsize)
    have HO1 := Lib.hid (show (tcs 4 tx 0 0).all (·.oneCell') = true by simp [tcs, Value.oneCell'])
    refine (wpIn_wide (n := 9)).1 ?_
    refine wpIn_region_factsR (ms := [0, 1, 3, 7, 0, 16, 48, 112, 0, 256, 768, 1792, 0, 7936, 16383, 32767, 0, 65535, 262143, 524287]) (k := 20) (Gs g 32 (tcs 4 tx 0 0)) (mkR p at_ 1 g s tx) (by kernel_rfl) (by kernel_rfl) (fun W => Gs.refl W) (fun a b c h1 h2 => h1.trans h2) (mkR_far) (lowMs_lt (by kernel_rfl)) ?walkm2
    case walkm2 =>
    refine factWalkR_cons (fun W hW hf K hK => ?_) (fun v0 => ?_)
    · skip
      refine ⟨by kernel_rfl, ?_⟩
      gi_step
      exact hK _ _ (Gs.refl _) rfl
    simp only [Act.put, List.setIfInBounds_toArray, List.set_cons_succ, List.set_cons_zero]
    refine factWalkR_cons (fun W hW hf K hK => ?_) (fun v1 => ?_)
    · skip
      have e0 : v0 = .pointer (some ⟨p, 0, none⟩) := hf 0 (by omega) (by kernel_rfl)
      subst e0
      refine ⟨by kernel_rfl, ?_⟩
      gi_step
      exact hK _ _ (Gs.refl _) rfl
    simp only [Act.put, List.setIfInBounds_toArray, List.set_cons_succ, List.set_cons_zero]
    refine factWalkR_cons (fun W hW hf K hK => ?_) (fun v2 => ?_)
    · skip
      have e1 : v1 = .pointer (some ⟨p, 0, none⟩) := hf 1 (by omega) (by kernel_rfl)
      subst e1
      refine ⟨by kernel_rfl, ?_⟩
      gi_step
      exact hK _ _ (Gs.refl _) rfl
    simp only [Act.put, List.setIfInBounds_toArray, List.set_cons_succ, List.set_cons_zero]
    refine factWalkR_cons (fun W hW hf K hK => ?_) (fun v3 => ?_)
    · skip
      have e2 : v2 = .pointer (some ⟨p, 0, none⟩) := hf 2 (by omega) (by kernel_rfl)
      subst e2
      have cp0 : W.cell? ⟨p, 0, none⟩ = some (.string (strOf s)) := (P1.out.drew.fr hW.1 HPG.out).cell 0
      refine ⟨by kernel_rfl, ?_⟩
      gi_step
      exact hK _ _ (Gs.refl _) rfl
    simp only [Act.put, List.setIfInBounds_toArray, List.set_cons_succ, List.set_cons_zero]
    refine factWalkR_cons (fun W hW hf K hK => ?_) (fun v4 => ?_)
    · skip
      refine ⟨by kernel_rfl, ?_⟩
      gi_step
      exact hK _ _ (Gs.refl _) rfl
    simp only [Act.put, List.setIfInBounds_toArray, List.set_cons_succ, List.set_cons_zero]
    refine factWalkR_cons (fun W hW hf K hK => ?_) (fun v5 => ?_)
    · skip
      have e4 : v4 = .pointer (some ⟨p, 0, none⟩) := hf 4 (by omega) (by kernel_rfl)
      subst e4
      refine ⟨by kernel_rfl, ?_⟩
      gi_step
      exact hK _ _ (Gs.refl _) rfl
    simp only [Act.put, List.setIfInBounds_toArray, List.set_cons_succ, List.set_cons_zero]
    refine factWalkR_cons (fun W hW hf K hK => ?_) (fun v6 => ?_)
    · skip
      have e5 : v5 = .pointer (some ⟨p, 0, none⟩) := hf 5 (by omega) (by kernel_rfl)
      subst e5
      refine ⟨by kernel_rfl, ?_⟩
      gi_step
      exact hK _ _ (Gs.refl _) rfl
    simp only [Act.put, List.setIfInBounds_toArray, List.set_cons_succ, List.set_cons_zero]
    refine factWalkR_cons (fun W hW hf K hK => ?_) (fun v7 => ?_)
    · skip
      have e6 : v6 = .pointer (some ⟨p, 1, none⟩) := hf 6 (by omega) (by kernel_rfl)
      subst e6
      have cp1 : W.cell? ⟨p, 1, none⟩ = some (.int .i64 (at_ : Nat)) := (P1.out.drew.fr hW.1 HPG.out).cell 1
      refine ⟨by kernel_rfl, ?_⟩
      gi_step
      exact hK _ _ (Gs.refl _) rfl
    simp only [Act.put, List.setIfInBounds_toArray, List.set_cons_succ, List.set_cons_zero]
    refine factWalkR_cons (fun W hW hf K hK => ?_) (fun v8 => ?_)
    · skip
      refine ⟨by kernel_rfl, ?_⟩
      gi_step
      exact hK _ _ (Gs.refl _) rfl
    simp only [Act.put, List.setIfInBounds_toArray, List.set_cons_succ, List.set_cons_zero]
    refine factWalkR_cons (fun W hW hf K hK => ?_) (fun v9 => ?_)
    · skip
      have e8 : v8 = .pointer (some ⟨p, 0, none⟩) := hf 8 (by omega) (by kernel_rfl)
      subst e8
      refine ⟨by kernel_rfl, ?_⟩
      gi_step
      exact hK _ _ (Gs.refl _) rfl
    simp only [Act.put, List.setIfInBounds_toArray, List.set_cons_succ, List.set_cons_zero]
    refine factWalkR_cons (fun W hW hf K hK => ?_) (fun v10 => ?_)
    · skip
      have e9 : v9 = .pointer (some ⟨p, 0, none⟩) := hf 9 (by omega) (by kernel_rfl)
      subst e9
      refine ⟨by kernel_rfl, ?_⟩
      gi_step
      exact hK _ _ (Gs.refl _) rfl
    simp only [Act.put, List.setIfInBounds_toArray, List.set_cons_succ, List.set_cons_zero]
    refine factWalkR_cons (fun W hW hf K hK => ?_) (fun v11 => ?_)
    · skip
      have e10 : v10 = .pointer (some ⟨p, 1, none⟩) := hf 10 (by omega) (by kernel_rfl)
      subst e10
      have cp1 : W.cell? ⟨p, 1, none⟩ = some (.int .i64 (at_ : Nat)) := (P1.out.drew.fr hW.1 HPG.out).cell 1
      refine ⟨by kernel_rfl, ?_⟩
      gi_step
      exact hK _ _ (Gs.refl _) rfl
    simp only [Act.put, List.setIfInBounds_toArray, List.set_cons_succ, List.set_cons_zero]
    refine factWalkR_cons (fun W hW hf K hK => ?_) (fun v12 => ?_)
    · skip
      refine ⟨by kernel_rfl, ?_⟩
      gi_step
      exact hK _ _ (Gs.refl _) rfl
    simp only [Act.put, List.setIfInBounds_toArray, List.set_cons_succ, List.set_cons_zero]
    refine factWalkR_cons (fun W hW hf K hK => ?_) (fun v13 => ?_)
    · skip
      have e11 : v11 = .int .i64 (at_ : Nat) := hf 11 (by omega) (by kernel_rfl)
      have e12 : v12 = .int .i64 1 := hf 12 (by omega) (by kernel_rfl)
      subst e11 e12
      have hwr : IntKind.i64.wrap ((at_ : Int) + 1) = (at_ : Int) + 1 := IntWalk.i64_in _ HNB.out
      refine ⟨by kernel_rfl, ?_⟩
      gi_step
      exact hK _ _ (Gs.refl _) rfl
    simp only [Act.put, List.setIfInBounds_toArray, List.set_cons_succ, List.set_cons_zero]
    refine factWalkR_cons (fun W hW hf K hK => ?_) (fun v14 => ?_)
    · skip
      have e3 : v3 = .string (strOf s) := hf 3 (by omega) (by kernel_rfl)
      have e7 : v7 = .int .i64 (at_ : Nat) := hf 7 (by omega) (by kernel_rfl)
      have e13 : v13 = .int .i64 ((at_ : Int) + 1) := hf 13 (by omega) (by kernel_rfl)
      subst e3 e7 e13
      refine ⟨by kernel_rfl, ?_⟩
      refine operIn_slice _ _ _ rfl _ _ _ rfl rfl rfl (HSL.out W) ?_
      exact hK _ _ (Gs.refl _) rfl
    simp only [Act.put, List.setIfInBounds_toArray, List.set_cons_succ, List.set_cons_zero]
    refine factWalkR_cons (fun W hW hf K hK => ?_) (fun v15 => ?_)
    · skip
      have e14 : v14 = .string (strOf tx) := hf 14 (by omega) (by kernel_rfl)
      subst e14
      refine ⟨by kernel_rfl, ?_⟩
      gi_step
      exact hK _ _ (Gs.refl _) rfl
    simp only [Act.put, List.setIfInBounds_toArray, List.set_cons_succ, List.set_cons_zero]
    refine factWalkR_cons (fun W hW hf K hK => ?_) (fun v16 => ?_)
    · skip
      refine ⟨by kernel_rfl, ?_⟩
      gi_step
      exact hK _ _ (Gs.refl _) rfl
    simp only [Act.put, List.setIfInBounds_toArray, List.set_cons_succ, List.set_cons_zero]
    refine factWalkR_cons (fun W hW hf K hK => ?_) (fun v17 => ?_)
    · skip
      have e15 : v15 = .agg (tcs 4 tx 0 0) := hf 15 (by omega) (by kernel_rfl)
      subst e15
      obtain ⟨cs0, bz, hz⟩ := hW.2.1 _ Z0.out.drew rfl
      have hsto := run_storeAt_mid (P := Tryd.prog) W g 0 32 (tcs 4 tx 0 0) (by have h := bz.there; rw [hz] at h; exact h) S1.out HO1.out
      refine ⟨by kernel_rfl, ?_⟩
      refine operIn_store rfl _ _ _ rfl _ _ rfl rfl hsto ?_
      exact hK undef _ (Gs.store bz hz) (bz.setAll hz.symm)
    simp only [Act.put, List.setIfInBounds_toArray, List.set_cons_succ, List.set_cons_zero]
    refine factWalkR_cons (fun W hW hf K hK => ?_) (fun v18 => ?_)
    · skip
      have e16 : v16 = .int .i64 1 := hf 16 (by omega) (by kernel_rfl)
      subst e16
      refine ⟨by kernel_rfl, ?_⟩
      gi_step
      exact hK _ _ (Gs.refl _) rfl
    simp only [Act.put, List.setIfInBounds_toArray, List.set_cons_succ, List.set_cons_zero]
    refine factWalkR_cons (fun W hW hf K hK => ?_) (fun v19 => ?_)
    · skip
      refine ⟨by kernel_rfl, ?_⟩
      gi_step
      exact hK _ _ (Gs.refl _) rfl
    simp only [Act.put, List.setIfInBounds_toArray, List.set_cons_succ, List.set_cons_zero]
    refine factWalkR_nil (fun W hW hf => ?_)
    have b9 : Blk W g 32 (tcs 4 tx 0 0) := hf 17 (by omega)
    have e1 : v18 = .int .i64 1 := hf 18 (by omega)
    have e2 : v19 = .bool true := hf 19 (by omega)
    subst e1 e2
    have BM := Lib.hid b9
    have FW : Hid (Fr (fun q => q = g) w W) := Lib.hid ((F1.out.drew.mono (fun _ _ h => h.elim)).trans hW.1 (fun _ _ h => h))
    clear hf hW b9
    change wpAnyIn _ _ _ _ _ _ 0 _ _ _
    refine wpAnyIn_done (by kernel_rfl) ?_ _
    try simp only [Act.put, List.setIfInBounds_toArray, List.set_cons_succ, List.set_cons_zero]
    go_wp2_with fail
    refine bodyPost_ret (v := .tuple #[.agg (tcs 4 tx 0 0), .int .i64 1, .bool true]) (hres _ W g 32 _ _ _ _ rfl rfl rfl BM.out Tryd.underlying32 rfl S1.out) rfl ?_
    have hg := HG.out
    exact ⟨rfl, FW.out.mono (fun q hq e => by omega)⟩
end Go.Proofs.YtimopkmlcjdgfaaDoor
