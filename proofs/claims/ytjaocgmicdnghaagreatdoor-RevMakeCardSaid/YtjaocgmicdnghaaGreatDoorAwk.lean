/-
  THE CHAPTER's EXAMPLES: awake.
-/
import Derived.Test.YtjaocgmicdnghaaGreatDoorMake
import Derived.Test.YtjaocgmicdnghaaGreatDoorHD
import Derived.Test.YtjaocgmicdnghaaGreatDoorHP
namespace Go.Proofs.YtjaocgmicdnghaaGreatDoor
set_option linter.unusedSimpArgs false
set_option linter.unusedVariables false
open Go Go.RowKit Go.Shelf Go.Lib
attribute [local go_sem] Oper.semAt_some

theorem dec_2 : decDigits 2 = [50] := by rw [decDigits]; rfl
theorem parse_good : parse [50, 45, 48, 48, 48, 48, 48, 48, 48, 48, 48, 48, 48, 48, 48, 48, 48, 48, 48, 48, 48, 48, 48, 48, 48, 48, 48, 48, 48, 48, 48, 48, 48, 48] = some (2, zN) := parse_txt ⟨by omega, rfl, by unfold txt; rw [dec_2]; rfl⟩
theorem parse_bad : parse [48, 50, 45, 48, 48, 48, 48, 48, 48, 48, 48, 48, 48, 48, 48, 48, 48, 48, 48, 48, 48, 48, 48, 48, 48, 48, 48, 48, 48, 48, 48, 48, 48, 48, 48] = none := by
  cases h : parse [48, 50, 45, 48, 48, 48, 48, 48, 48, 48, 48, 48, 48, 48, 48, 48, 48, 48, 48, 48, 48, 48, 48, 48, 48, 48, 48, 48, 48, 48, 48, 48, 48, 48, 48] with
  | none => rfl
  | some x =>
    exfalso
    obtain ⟨g, sum⟩ := x
    obtain ⟨h1, h2, h3⟩ := parse_some h
    have hc := cut1_txt g sum
    rw [h3] at hc
    have hc2 : cut1 [48, 50, 45, 48, 48, 48, 48, 48, 48, 48, 48, 48, 48, 48, 48, 48, 48, 48, 48, 48, 48, 48, 48, 48, 48, 48, 48, 48, 48, 48, 48, 48, 48, 48, 48] = ([48, 50], [48, 48, 48, 48, 48, 48, 48, 48, 48, 48, 48, 48, 48, 48, 48, 48, 48, 48, 48, 48, 48, 48, 48, 48, 48, 48, 48, 48, 48, 48, 48, 48]) := by decide +kernel
    rw [hc2] at hc
    have hd : decDigits g = [48, 50] := (congrArg Prod.fst hc).symm
    have hg := genOf_dec g (by omega)
    rw [hd] at hg
    have hg2 : genOf [48, 50] = 2 := by decide +kernel
    rw [hg2] at hg
    rw [← hg, dec_2] at hd
    cases hd
theorem run_slice2 (g g' : Nat) (q q' : List UInt8) (h : q.length = 16) (h' : q'.length = 16) (W : World) : (Instr.buildSlice 59 2 #[(0, .agg (rc g q).toArray), (1, .agg (rc g' q').toArray)]).run Tryz.prog W = .ok (.slice (some ⟨W.heap.size, 0, none⟩) 2 2) (W.alloc (.cells (rcs [(g, q), (g', q')]).toArray 25)) := by
  obtain ⟨a0, a1, a2, a3, a4, a5, a6, a7, a8, a9, a10, a11, a12, a13, a14, a15, rfl⟩ := len16 h
  obtain ⟨c0, c1, c2, c3, c4, c5, c6, c7, c8, c9, c10, c11, c12, c13, c14, c15, rfl⟩ := len16 h'
  kernel_rfl
theorem wpList_load_h {P : Program} {ops : Array Oper} {rest : List Oper} {op : Oper} {a : Act} {w : World} {Q : Exit → Act → World → Prop} (ty : TypeId) (x : Operand) (ho : op.op = .load ty x) (hw : Region.wanted op (yielded ops a.tmps) = true)
    (b o : Nat) (hx : a.eval x = .pointer (some ⟨b, o, none⟩)) (cs : List Value) (d : TypeDesc) (hc : w.rangeAt b o cs)
    (hu : P.underlying ty = some d) (hd : d.isRow = true) (hi : (P.info? ty).map (·.size) = some cs.length)
    (h : wpList P ops Q rest (a.put op.dst (.agg cs.toArray)) w) : wpList P ops Q (op :: rest) a w := wpList_load_g hw ty x ho b o hx cs d hc hu hd hi h
theorem wpList_buildSlice_g {P : Program} {ops : Array Oper} {rest : List Oper} {op : Oper} {a : Act} {w w' : World} {Q : Exit → Act → World → Prop} (ty : TypeId) (n i j : Nat) (x y : Operand) (ho : op.op = .buildSlice ty n #[(i, x), (j, y)]) (hw : Region.wanted op (yielded ops a.tmps) = true)
    (u v z : Value) (hx : a.eval x = u) (hy : a.eval y = v) (hr : (Instr.buildSlice ty n #[(i, u), (j, v)]).run P w = .ok z w')
    (h : wpList P ops Q rest (a.put op.dst z) w') : wpList P ops Q (op :: rest) a w :=
  wpList_step fun K hK => by
    rw [if_pos hw]
    unfold Oper.wp execOp
    simp only [ho, List.map_toArray, List.map_cons, List.map_nil, hx, hy, Sem.run_bind, hr, Result.andThen_ok, Sem.run_pure]
    exact hK _ _ h
theorem rd_two (V5 : World) (q2 q1 : List UInt8) (h2 : q2.length = 16) (h1 : q1.length = 16) : Rd (V5.alloc (.cells (rcs [(2, q2), (1, q1)]).toArray 25)) (some ⟨V5.heap.size, 0, none⟩) 34 (rcs [(2, q2), (1, q1)]) := by
  have hb := Blk.new V5 25 (rcs [(2, q2), (1, q1)]).toArray
  have hl : (rcs [(2, q2), (1, q1)]).length = 34 := by simp [rcs, rc_len h2, rc_len h1]
  refine ⟨hl, fun _ => ⟨_, rfl, fun j u hu => ?_⟩⟩
  rw [Addr.add_lit, Nat.zero_add, hb.cell, List.getElem?_toArray]
  exact hu
theorem chL_two (q q' : List UInt8) : chL [(2, q), (1, q')] = true := by rfl

theorem abs_list {P : Program} {ops : Array Oper} {Q : Exit → Act → World → Prop} {l : List Oper} {a : Act} {w : World} (Φ : World → Prop) (h : Φ w) (k : ∀ W, Φ W → wpList P ops Q l a W) : wpList P ops Q l a w := k w h
theorem abs_calls {P : Program} {f : FuncId} {args : Array Value} {R : Ending → World → Prop} {w : World} (Φ : World → Prop) (h : Φ w) (k : ∀ W, Φ W → Calls P f args W R) : Calls P f args w R := k w h
set_option maxRecDepth 100000 in
set_option maxHeartbeats 2000000 in
theorem awake_c (w : World) (hL : LaidOk w) : Calls Tryz.prog 5 #[] w fun e w' => e = .returned (.bool true) ∧ Fr (fun _ => False) w w' := by
  have HL := Lib.hid hL
  have m1 := fun (W : World) (hW : Fr (fun _ => False) w W) => make_null W 0 zN 0 rfl (.inl ⟨rfl, rfl, rfl⟩) (by omega) (hL.far hW)
  have m1' : ∀ W, Fr (fun _ => False) w W → Calls Tryz.prog 6 #[.agg #[.int .u64 0, .int .u8 0, .int .u8 0, .int .u8 0, .int .u8 0, .int .u8 0, .int .u8 0, .int .u8 0, .int .u8 0, .int .u8 0, .int .u8 0, .int .u8 0, .int .u8 0, .int .u8 0, .int .u8 0, .int .u8 0, .int .u8 0], .int .i64 0, .agg #[.int .i64 0, .int .i64 0, .string ⟨#[]⟩, .slice none 0 0, .slice none 0 0]] W fun e w' => ∃ q : List UInt8, q.length = 16 ∧ e = .returned (.tuple #[.agg (rc 1 q).toArray, .int .i64 0]) ∧ Fr (fun _ => False) W w' := m1
  have m2 := fun (W : World) (q : List UInt8) (hq : q.length = 16) (hW : Fr (fun _ => False) w W) => make_null W 1 q 1 hq (.inr ⟨rfl, by omega, rfl⟩) (by omega) (hL.far hW)
  have m2' : ∀ W q, q.length = 16 → Fr (fun _ => False) w W → Calls Tryz.prog 6 #[.agg (rc 1 q).toArray, .int .i64 1, .agg #[.int .i64 0, .int .i64 0, .string ⟨#[]⟩, .slice none 0 0, .slice none 0 0]] W fun e w' => ∃ q : List UInt8, q.length = 16 ∧ e = .returned (.tuple #[.agg (rc 2 q).toArray, .int .i64 0]) ∧ Fr (fun _ => False) W w' := m2
  have p1 := fun (W : World) (hW : Fr (fun _ => False) w W) => parse_c W [50, 45, 48, 48, 48, 48, 48, 48, 48, 48, 48, 48, 48, 48, 48, 48, 48, 48, 48, 48, 48, 48, 48, 48, 48, 48, 48, 48, 48, 48, 48, 48, 48, 48] (by decide) (hL.far hW)
  have p2 := fun (W : World) (hW : Fr (fun _ => False) w W) => parse_c W [48, 50, 45, 48, 48, 48, 48, 48, 48, 48, 48, 48, 48, 48, 48, 48, 48, 48, 48, 48, 48, 48, 48, 48, 48, 48, 48, 48, 48, 48, 48, 48, 48, 48, 48] (by decide) (hL.far hW)
  simp only [parse_good] at p1
  simp only [parse_bad] at p2
  have p1' : ∀ W, Fr (fun _ => False) w W → Calls Tryz.prog 13 #[.string ⟨#[50, 45, 48, 48, 48, 48, 48, 48, 48, 48, 48, 48, 48, 48, 48, 48, 48, 48, 48, 48, 48, 48, 48, 48, 48, 48, 48, 48, 48, 48, 48, 48, 48, 48]⟩] W fun e w' => e = .returned (.tuple #[.agg (rc 2 zN).toArray, .int .i64 0]) ∧ Fr (fun _ => False) W w' := p1
  have p2' : ∀ W, Fr (fun _ => False) w W → Calls Tryz.prog 13 #[.string ⟨#[48, 50, 45, 48, 48, 48, 48, 48, 48, 48, 48, 48, 48, 48, 48, 48, 48, 48, 48, 48, 48, 48, 48, 48, 48, 48, 48, 48, 48, 48, 48, 48, 48, 48, 48]⟩] W fun e w' => e = .returned (.tuple #[.agg (rc 0 zN).toArray, .int .i64 2]) ∧ Fr (fun _ => False) W w' := p2
  have heq := fun W => run_eql_rev 2 2 zN zN rfl rfl W
  simp only [decide_true, and_self] at heq
  have heq' : ∀ W, (binOp .eql 25 (.agg (rc 2 zN).toArray) (.agg #[.int .u64 2, .int .u8 0, .int .u8 0, .int .u8 0, .int .u8 0, .int .u8 0, .int .u8 0, .int .u8 0, .int .u8 0, .int .u8 0, .int .u8 0, .int .u8 0, .int .u8 0, .int .u8 0, .int .u8 0, .int .u8 0, .int .u8 0])).run Tryz.prog W = .ok (.bool true) W := heq
  have hz16 : zN.length = 16 := rfl
  obtain ⟨z, hz⟩ : ∃ z, zN = z := ⟨_, rfl⟩
  rw [hz] at hz16
  simp only [hz] at heq' p1' p2'
  have HZ := Lib.hid hz16
  have HEQ := Lib.hid heq'
  have HM1 := Lib.hid m1'
  have HM2 := Lib.hid m2'
  have HP1 := Lib.hid p1'
  have HP2 := Lib.hid p2'
  clear hL m1 m1' m2 m2' p1 p1' p2 p2' heq heq' hz hz16
  go_enter Tryz.func5, Tryz.ntmps5
  go_wp2_with fail

  refine (HM1.out w (Fr.refl (fun _ => False) w)).mono ?_
  rintro e W0 ⟨q1, hq, rfl, f⟩
  have HQ1 := Lib.hid hq
  clear hq
  have G := Lib.hid ((Fr.refl (fun _ => False) w).trans f (fun _ _ h => h))
  clear f
  have HSZ := Lib.hid (tRev_size (g := 1) (s := q1) HQ1.out)
  have BN := Blk.new W0 25 (rc 0 zN).toArray
  have HTH : Hid ((W0.alloc (.cells (rc 0 zN).toArray 25)).there W0.heap.size 0 (rc 1 q1).toArray.size) := by show World.there _ _ _ _; rw [show (rc 1 q1).toArray.size = 17 from by rw [List.size_toArray, rc_len HQ1.out]]; exact BN.there
  have HST := Lib.hid (BN.setAll (ds := (rc 1 q1).toArray) (by rw [List.size_toArray, List.size_toArray, rc_len HQ1.out]; rfl))
  have HONE := Lib.hid (rc_all 1 q1)
  have FST : Hid (Fr (fun _ => False) w ((W0.alloc (.cells (rc 0 zN).toArray 25)).setCells W0.heap.size 0 (rc 1 q1).toArray.toList)) := (G.out.alloc _).trans (Fr.setCells (fp := fun k => k = W0.heap.size) (a := W0.alloc (.cells (rc 0 zN).toArray 25)) (g := W0.heap.size) (fun _ => rfl) (rc 1 q1) 0 (W0.alloc (.cells (rc 0 zN).toArray 25)) (Fr.refl _ _)) (fun k hk e => by have := G.out.size; omega)
  clear BN
  go_wp2_with (first
    | (refine wpList_store_mid rfl 25 _ _ rfl W0.heap.size 0 (rc 1 q1).toArray rfl rfl HTH.out HSZ.out HONE.out ?_
       refine abs_list (fun W => Hid (Blk W W0.heap.size 25 (rc 1 q1).toArray) ∧ Hid (Fr (fun _ => False) w W)) ⟨HST.out, FST.out⟩ ?_
       rintro V1 ⟨B0, F1⟩
       obtain ⟨x0, hx⟩ : ∃ x, W0.heap.size = x := ⟨_, rfl⟩
       rw [hx] at B0 ⊢
       clear hx HSZ HTH HST HONE FST G 
       have RG1 := Lib.hid B0.out.rng
       have HI1 := Lib.hid (show (Tryz.prog.info? 25).map (·.size) = some (rc 1 q1).length by rw [rc_len HQ1.out]; kernel_rfl))
    | refine wpList_load_mid rfl 25 _ rfl x0 0 rfl (rc 1 q1) _ RG1.out Tryz.underlying25 rfl HI1.out ?_)
  clear RG1 HI1
  refine (HM2.out V1 q1 HQ1.out F1.out).mono ?_
  rintro e W1 ⟨q2, hq, rfl, f⟩
  have HQ2 := Lib.hid hq
  clear hq
  have G := Lib.hid (F1.out.trans f (fun _ _ h => h))
  have C0 := Lib.hid (B0.out.fr f (fun h => h))
  clear B0 F1
  clear f
  have HSZ := Lib.hid (tRev_size (g := 2) (s := q2) HQ2.out)
  have BN := Blk.new W1 25 (rc 0 zN).toArray
  have HTH : Hid ((W1.alloc (.cells (rc 0 zN).toArray 25)).there W1.heap.size 0 (rc 2 q2).toArray.size) := by show World.there _ _ _ _; rw [show (rc 2 q2).toArray.size = 17 from by rw [List.size_toArray, rc_len HQ2.out]]; exact BN.there
  have HST := Lib.hid (BN.setAll (ds := (rc 2 q2).toArray) (by rw [List.size_toArray, List.size_toArray, rc_len HQ2.out]; rfl))
  have HONE := Lib.hid (rc_all 2 q2)
  have FST : Hid (Fr (fun _ => False) w ((W1.alloc (.cells (rc 0 zN).toArray 25)).setCells W1.heap.size 0 (rc 2 q2).toArray.toList)) := (G.out.alloc _).trans (Fr.setCells (fp := fun k => k = W1.heap.size) (a := W1.alloc (.cells (rc 0 zN).toArray 25)) (g := W1.heap.size) (fun _ => rfl) (rc 2 q2) 0 (W1.alloc (.cells (rc 0 zN).toArray 25)) (Fr.refl _ _)) (fun k hk e => by have := G.out.size; omega)
  have D0 : Hid (Blk ((W1.alloc (.cells (rc 0 zN).toArray 25)).setCells W1.heap.size 0 (rc 2 q2).toArray.toList) x0 25 (rc 1 q1).toArray) := (C0.out.alloc _).fr (Fr.setCells (fp := fun k => k = W1.heap.size) (a := W1.alloc (.cells (rc 0 zN).toArray 25)) (g := W1.heap.size) (fun _ => rfl) (rc 2 q2) 0 (W1.alloc (.cells (rc 0 zN).toArray 25)) (Fr.refl _ _)) (fun e => by have := C0.out.lt; omega)
  clear BN
  go_wp2_with (first
    | (refine wpList_store_mid rfl 25 _ _ rfl W1.heap.size 0 (rc 2 q2).toArray rfl rfl HTH.out HSZ.out HONE.out ?_
       refine abs_list (fun W => Hid (Blk W W1.heap.size 25 (rc 2 q2).toArray) ∧ Hid (Blk W x0 25 (rc 1 q1).toArray) ∧ Hid (Fr (fun _ => False) w W)) ⟨HST.out, D0.out, FST.out⟩ ?_
       rintro V2 ⟨B1, B0, F2⟩
       obtain ⟨x1, hx⟩ : ∃ x, W1.heap.size = x := ⟨_, rfl⟩
       rw [hx] at B1 ⊢
       clear hx HSZ HTH HST HONE FST G C0 D0))
  refine (HP1.out V2 F2.out).mono ?_
  rintro e W2 ⟨rfl, f⟩
  have G := Lib.hid (F2.out.trans f (fun _ _ h => h))
  have C0 := Lib.hid (B0.out.fr f (fun h => h))
  have C1 := Lib.hid (B1.out.fr f (fun h => h))
  clear B0 B1 F2
  clear f
  have HSZ := Lib.hid (tRev_size (g := 2) (s := z) HZ.out)
  have BN := Blk.new W2 25 (rc 0 zN).toArray
  have HTH : Hid ((W2.alloc (.cells (rc 0 zN).toArray 25)).there W2.heap.size 0 (rc 2 z).toArray.size) := by show World.there _ _ _ _; rw [show (rc 2 z).toArray.size = 17 from by rw [List.size_toArray, rc_len HZ.out]]; exact BN.there
  have HST := Lib.hid (BN.setAll (ds := (rc 2 z).toArray) (by rw [List.size_toArray, List.size_toArray, rc_len HZ.out]; rfl))
  have HONE := Lib.hid (rc_all 2 z)
  have FST : Hid (Fr (fun _ => False) w ((W2.alloc (.cells (rc 0 zN).toArray 25)).setCells W2.heap.size 0 (rc 2 z).toArray.toList)) := (G.out.alloc _).trans (Fr.setCells (fp := fun k => k = W2.heap.size) (a := W2.alloc (.cells (rc 0 zN).toArray 25)) (g := W2.heap.size) (fun _ => rfl) (rc 2 z) 0 (W2.alloc (.cells (rc 0 zN).toArray 25)) (Fr.refl _ _)) (fun k hk e => by have := G.out.size; omega)
  have D0 : Hid (Blk ((W2.alloc (.cells (rc 0 zN).toArray 25)).setCells W2.heap.size 0 (rc 2 z).toArray.toList) x0 25 (rc 1 q1).toArray) := (C0.out.alloc _).fr (Fr.setCells (fp := fun k => k = W2.heap.size) (a := W2.alloc (.cells (rc 0 zN).toArray 25)) (g := W2.heap.size) (fun _ => rfl) (rc 2 z) 0 (W2.alloc (.cells (rc 0 zN).toArray 25)) (Fr.refl _ _)) (fun e => by have := C0.out.lt; omega)
  have D1 : Hid (Blk ((W2.alloc (.cells (rc 0 zN).toArray 25)).setCells W2.heap.size 0 (rc 2 z).toArray.toList) x1 25 (rc 2 q2).toArray) := (C1.out.alloc _).fr (Fr.setCells (fp := fun k => k = W2.heap.size) (a := W2.alloc (.cells (rc 0 zN).toArray 25)) (g := W2.heap.size) (fun _ => rfl) (rc 2 z) 0 (W2.alloc (.cells (rc 0 zN).toArray 25)) (Fr.refl _ _)) (fun e => by have := C1.out.lt; omega)
  clear BN
  go_wp2_with (first
    | (refine wpList_store_mid rfl 25 _ _ rfl W2.heap.size 0 (rc 2 z).toArray rfl rfl HTH.out HSZ.out HONE.out ?_
       refine abs_list (fun W => Hid (Blk W W2.heap.size 25 (rc 2 z).toArray) ∧ Hid (Blk W x0 25 (rc 1 q1).toArray) ∧ Hid (Blk W x1 25 (rc 2 q2).toArray) ∧ Hid (Fr (fun _ => False) w W)) ⟨HST.out, D0.out, D1.out, FST.out⟩ ?_
       rintro V3 ⟨B2, B0, B1, F3⟩
       obtain ⟨x2, hx⟩ : ∃ x, W2.heap.size = x := ⟨_, rfl⟩
       rw [hx] at B2 ⊢
       clear hx HSZ HTH HST HONE FST G C0 D0 C1 D1))
  refine (HP2.out V3 F3.out).mono ?_
  rintro e W3 ⟨rfl, f⟩
  have G := Lib.hid (F3.out.trans f (fun _ _ h => h))
  have C0 := Lib.hid (B0.out.fr f (fun h => h))
  have C1 := Lib.hid (B1.out.fr f (fun h => h))
  have C2 := Lib.hid (B2.out.fr f (fun h => h))
  clear B0 B1 B2 F3
  clear f
  have HSZ := Lib.hid (tRev_size (g := 0) (s := z) HZ.out)
  have BN := Blk.new W3 25 (rc 0 zN).toArray
  have HTH : Hid ((W3.alloc (.cells (rc 0 zN).toArray 25)).there W3.heap.size 0 (rc 0 z).toArray.size) := by show World.there _ _ _ _; rw [show (rc 0 z).toArray.size = 17 from by rw [List.size_toArray, rc_len HZ.out]]; exact BN.there
  have HST := Lib.hid (BN.setAll (ds := (rc 0 z).toArray) (by rw [List.size_toArray, List.size_toArray, rc_len HZ.out]; rfl))
  have HONE := Lib.hid (rc_all 0 z)
  have FST : Hid (Fr (fun _ => False) w ((W3.alloc (.cells (rc 0 zN).toArray 25)).setCells W3.heap.size 0 (rc 0 z).toArray.toList)) := (G.out.alloc _).trans (Fr.setCells (fp := fun k => k = W3.heap.size) (a := W3.alloc (.cells (rc 0 zN).toArray 25)) (g := W3.heap.size) (fun _ => rfl) (rc 0 z) 0 (W3.alloc (.cells (rc 0 zN).toArray 25)) (Fr.refl _ _)) (fun k hk e => by have := G.out.size; omega)
  have D0 : Hid (Blk ((W3.alloc (.cells (rc 0 zN).toArray 25)).setCells W3.heap.size 0 (rc 0 z).toArray.toList) x0 25 (rc 1 q1).toArray) := (C0.out.alloc _).fr (Fr.setCells (fp := fun k => k = W3.heap.size) (a := W3.alloc (.cells (rc 0 zN).toArray 25)) (g := W3.heap.size) (fun _ => rfl) (rc 0 z) 0 (W3.alloc (.cells (rc 0 zN).toArray 25)) (Fr.refl _ _)) (fun e => by have := C0.out.lt; omega)
  have D1 : Hid (Blk ((W3.alloc (.cells (rc 0 zN).toArray 25)).setCells W3.heap.size 0 (rc 0 z).toArray.toList) x1 25 (rc 2 q2).toArray) := (C1.out.alloc _).fr (Fr.setCells (fp := fun k => k = W3.heap.size) (a := W3.alloc (.cells (rc 0 zN).toArray 25)) (g := W3.heap.size) (fun _ => rfl) (rc 0 z) 0 (W3.alloc (.cells (rc 0 zN).toArray 25)) (Fr.refl _ _)) (fun e => by have := C1.out.lt; omega)
  have D2 : Hid (Blk ((W3.alloc (.cells (rc 0 zN).toArray 25)).setCells W3.heap.size 0 (rc 0 z).toArray.toList) x2 25 (rc 2 z).toArray) := (C2.out.alloc _).fr (Fr.setCells (fp := fun k => k = W3.heap.size) (a := W3.alloc (.cells (rc 0 zN).toArray 25)) (g := W3.heap.size) (fun _ => rfl) (rc 0 z) 0 (W3.alloc (.cells (rc 0 zN).toArray 25)) (Fr.refl _ _)) (fun e => by have := C2.out.lt; omega)
  clear BN
  have I0 := Lib.hid (show (Tryz.prog.info? 25).map (·.size) = some (rc 1 q1).length by rw [rc_len HQ1.out]; kernel_rfl)
  have I1 := Lib.hid (show (Tryz.prog.info? 25).map (·.size) = some (rc 2 q2).length by rw [rc_len HQ2.out]; kernel_rfl)
  have I2 := Lib.hid (show (Tryz.prog.info? 25).map (·.size) = some (rc 2 z).length by rw [rc_len HZ.out]; kernel_rfl)
  go_wp2_with (first
    | (refine wpList_store_mid rfl 25 _ _ rfl W3.heap.size 0 (rc 0 z).toArray rfl rfl HTH.out HSZ.out HONE.out ?_
       refine abs_list (fun W => Hid (Blk W W3.heap.size 25 (rc 0 z).toArray) ∧ Hid (Blk W x0 25 (rc 1 q1).toArray) ∧ Hid (Blk W x1 25 (rc 2 q2).toArray) ∧ Hid (Blk W x2 25 (rc 2 z).toArray) ∧ Hid (Fr (fun _ => False) w W)) ⟨HST.out, D0.out, D1.out, D2.out, FST.out⟩ ?_
       rintro V4 ⟨B3, B0, B1, B2, F4⟩
       obtain ⟨x3, hx⟩ : ∃ x, W3.heap.size = x := ⟨_, rfl⟩
       rw [hx] at B3 ⊢
       clear hx HSZ HTH HST HONE FST G C0 D0 C1 D1 C2 D2
       have heq' := HEQ.out
       have c1 : V4.cell? ⟨x0, 0, none⟩ = some (.int .u64 1) := B0.out.cell 0
       have c2 : V4.cell? ⟨x1, 0, none⟩ = some (.int .u64 2) := B1.out.cell 0
       have R0 := Lib.hid B0.out.rng
       have R1 := Lib.hid B1.out.rng
       have R2 := Lib.hid B2.out.rng)
    | refine wpList_load_h 25 (.tmp 5) rfl (by kernel_rfl) x2 0 rfl (rc 2 z) _ R2.out Tryz.underlying25 rfl I2.out ?_
    | refine wpList_load_h 25 (.tmp 1) rfl (by kernel_rfl) x0 0 rfl (rc 1 q1) _ R0.out Tryz.underlying25 rfl I0.out ?_
    | refine wpList_load_h 25 (.tmp 3) rfl (by kernel_rfl) x1 0 rfl (rc 2 q2) _ R1.out Tryz.underlying25 rfl I1.out ?_)
  refine (cmp_lt V4 1 2 q1 q2 (by omega)).mono ?_
  rintro e V5 ⟨rfl, f⟩
  have F5 := Lib.hid (F4.out.trans f (fun _ _ h => h))
  have R05 := Lib.hid (B0.out.fr f (fun h => h)).rng
  have R15 := Lib.hid (B1.out.fr f (fun h => h)).rng
  have hbs := Lib.hid (run_slice2 2 1 q2 q1 HQ2.out HQ1.out V5)
  clear f B0 B1 B2 B3 R0 R1 R2 c1 c2 heq' F4
  go_wp2_with (first
    | (refine wpList_load_h 25 (.tmp 3) rfl ?_ x1 0 ?_ (rc 2 q2) _ ?_ Tryz.underlying25 rfl ?_ ?_
       · kernel_rfl
       · rfl
       · exact R15.out
       · exact I1.out
       skip)
    | (refine wpList_load_h 25 (.tmp 1) rfl ?_ x0 0 ?_ (rc 1 q1) _ ?_ Tryz.underlying25 rfl ?_ ?_
       · kernel_rfl
       · rfl
       · exact R05.out
       · exact I0.out
       skip)
    | (refine wpList_buildSlice_g 59 2 0 1 (.tmp 65) (.tmp 66) rfl ?_ (.agg (rc 2 q2).toArray) (.agg (rc 1 q1).toArray) _ ?_ ?_ hbs.out ?_
       · kernel_rfl
       · rfl
       · rfl
       skip
       refine abs_list (fun W => Hid (Rd W (some ⟨V5.heap.size, 0, none⟩) 34 (rcs [(2, q2), (1, q1)])) ∧ Hid (Fr (fun _ => False) w W)) ⟨rd_two V5 q2 q1 HQ2.out HQ1.out, F5.out.alloc _⟩ ?_
       rintro V6 ⟨RD6, F6⟩
       obtain ⟨x5, hx⟩ : ∃ x, V5.heap.size = x := ⟨_, rfl⟩
       rw [hx] at RD6 ⊢
       clear hx))
  have hch := chain_c V6 (some ⟨x5, 0, none⟩) 2 [(2, q2), (1, q1)] (by intro x hx; simp at hx; rcases hx with rfl | rfl; exact ⟨HQ2.out, by show (2 : Nat) < _; omega⟩; exact ⟨HQ1.out, by show (1 : Nat) < _; omega⟩) RD6.out (by show (2 : Nat) ≤ _; omega)
  rw [chL_two] at hch
  refine hch.mono ?_
  rintro e V7 ⟨rfl, f⟩
  have F7 := Lib.hid (F6.out.trans f (fun _ _ h => h))
  clear f hch
  go_wp2_with fail
  go_ret
  exact ⟨rfl, F7.out⟩
end Go.Proofs.YtjaocgmicdnghaaGreatDoor
