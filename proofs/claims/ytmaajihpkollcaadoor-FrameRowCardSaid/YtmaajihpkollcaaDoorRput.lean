/-
  CONTRACTS of the reference's Sum and Put.
-/
import Derived.Test.YtmaajihpkollcaaDoorFr7
import Derived.Test.YtmaajihpkollcaaDoorRck
namespace Go.Proofs.YtmaajihpkollcaaDoor
set_option linter.unusedSimpArgs false
set_option linter.unusedVariables false
open Go Go.RowKit

theorem sum_head (s n : Nat) (hs : s < 4294967296) (hn : n ≤ 16384) :
    [.int .u8 ((s : Int) % 256), .int .u8 ((s : Int) / 256 % 256), .int .u8 ((s : Int) / 65536 % 256), .int .u8 ((s : Int) / 16777216), .int .u8 ((n : Int) / 16777216), .int .u8 ((n : Int) / 65536), .int .u8 ((n : Int) / 256), .int .u8 ((n : Int) % 256)] = bv (le 4 s ++ be 4 n) := by
  rw [bv_append, le4, be4]
  simp only [List.cons_append, List.nil_append, List.cons.injEq, Value.int.injEq, true_and, and_true]
  omega
theorem own_lits (w : World) (base : Nat) (l : List Value) (n : Nat) (hl : l.length = n) (hb : base ≤ w.heap.size) (hn : n ≤ maxLen) :
    (w.alloc (.cells l.toArray 5)).ownsRow base 5 1 (.slice (some ⟨w.heap.size, 0, none⟩) n n) n l :=
  ⟨by rw [hl, Nat.mul_one], .inr ⟨w.heap.size, n, l.toArray, rfl, hb, heap_alloc_new w _, Nat.le_refl _, hn, by simp [hl], by rw [Nat.mul_one, ← hl]; simp⟩⟩

set_option maxHeartbeats 2000000 in
theorem rsum_c (w : World) (s : Nat) (hs : s < 4294967296) (A : Option Addr) (n c : Nat) (p : List UInt8) (hA : Rd w A n (bv p)) (hn : n ≤ 16384) :
    Calls Tryd.prog 30 #[.int .u32 (s : Int), .slice A n c] w fun e w' => e = .returned (.int .u32 (sumOf s p : Int)) ∧ Fr (fun _ => False) w w' := by
  obtain ⟨i0, hi, hz0, hz1, hz2⟩ := info_parts u8_info
  have hp : p.length = n := by rw [← hA.1, bv_length]
  have OE := own_lits w w.heap.size _ 8 (show ([.int .u8 ((s : Int) % 256), .int .u8 ((s : Int) / 256 % 256), .int .u8 ((s : Int) / 65536 % 256), .int .u8 ((s : Int) / 16777216), .int .u8 ((n : Int) / 16777216), .int .u8 ((n : Int) / 65536), .int .u8 ((n : Int) / 256), .int .u8 ((n : Int) % 256)] : List Value).length = 8 from rfl) (Nat.le_refl _) (by unfold maxLen; omega)
  have HO : Hid ((w.alloc (.cells #[.int .u8 ((s : Int) % 256), .int .u8 ((s : Int) / 256 % 256), .int .u8 ((s : Int) / 65536 % 256), .int .u8 ((s : Int) / 16777216), .int .u8 ((n : Int) / 16777216), .int .u8 ((n : Int) / 65536), .int .u8 ((n : Int) / 256), .int .u8 ((n : Int) % 256)] 5)).ownsRow w.heap.size 5 1 (.slice (some ⟨w.heap.size, 0, none⟩) 8 8) 8 (bv (le 4 s ++ be 4 n))) := by
    rw [← sum_head s n hs hn]
    exact OE
  have FA : Hid (Fr (fun _ => False) w (w.alloc (.cells #[.int .u8 ((s : Int) % 256), .int .u8 ((s : Int) / 256 % 256), .int .u8 ((s : Int) / 65536 % 256), .int .u8 ((s : Int) / 16777216), .int .u8 ((n : Int) / 16777216), .int .u8 ((n : Int) / 65536), .int .u8 ((n : Int) / 256), .int .u8 ((n : Int) % 256)] 5))) := (Fr.refl _ w).alloc _
  have HP := Lib.hid hp
  have hI := Lib.hid hi
  have HA := Lib.hid hA
  clear hA hi OE hp
  go_enter Tryd.func30, Tryd.ntmps30
  go_wp2_with (
    (at_builtin
     refine wpList_app rfl _ _ _ _ rfl w.heap.size 5 i0 _ 1 1 Tryd.underlying25 hI.out hz0 hz1 hz2 rfl _ 8 _ rfl HO.out _ n _ rfl (Src.rd Tryd.underlying25 _ (HA.out.far FA.out) (bv_one _)) (by omega) (by unfold maxLen; omega) FA.out.size ?_
     intro v3 w3 hown3 hf3 hn3
     rw [← bv_append] at hown3
     have H3 := Lib.hid hown3
     have F3 := Lib.hid (FA.out.trans hf3 (fun i hi hq => by have := (HO.out.lt i hq).1; omega))
     obtain ⟨A3, c3, rfl, _, _⟩ := own_slice hown3
     clear hown3 hf3 hn3))
  refine (rcheck_c _ A3 (8 + n) c3 _ (Rd.of_own (own_base H3.out (base' := 0) (fun _ _ => Nat.zero_le _))) (by omega)).mono ?_
  rintro e w4 ⟨rfl, rfl⟩
  rw [show check (le 4 s ++ be 4 n ++ p) = sumOf s p from by unfold sumOf; rw [HP.out]]
  go_wp2_with fail
  go_ret
  exact ⟨rfl, F3.out⟩

section
variable {P : Program}
/-- append as an operation of a region that draws. -/
theorem oper_app_p {w : World} {ops : Array Oper} {o : Oper} {a : Act} {K : Act → World → Prop} {Q : Exit → Act → World → Prop} {X : Prop} (hgd : o.guard = none) (s x : Operand) (t tx : TypeId)
    (ho : o.op = .call { callee := .builtin .append, args := #[s, x], argTypes := #[t, tx] })
    (base : Nat) (e : TypeId) (i : TypeInfo) (z : Value) (size bytes : Nat) (ht : P.underlying t = some (.slice e)) (hi : P.info? e = some i) (hz : i.zero = some z)
    (hsize : i.size = size) (hby : i.bytes = bytes) (hzs : z.cells.size = size)
    (v : Value) (n : Nat) (xs : List Value) (hv : a.eval s = v) (hown : w.ownsRow base e size v n xs)
    (xv : Value) (m : Nat) (news : List Value) (hx : a.eval x = xv) (hs : Src P size tx xv m news w)
    (hbytes : (n + m) * bytes ≤ 140737488355328) (h63 : n + m ≤ maxLen) (hbase : base ≤ w.heap.size)
    (h : ∀ v' w', w'.ownsRow base e size v' (n + m) (xs ++ news) → Fr (fun k => v.ownBlock = some k) w w' → (v'.ownBlock = v.ownBlock ∨ v'.ownBlock = some w.heap.size) → K (a.put o.dst v') w') :
    if Region.wanted o (yielded ops a.tmps) = true then Oper.wp P o a w K Q else X := by
  simp only [Region.wanted, hgd, if_true]
  obtain ⟨v', w', hr, h2, h3, h4⟩ := run_app (P := P) w base t tx o.type e i z size bytes ht hi hz hsize hby hzs v n xs hown xv m news hs hbytes h63 hbase
  unfold Oper.wp execOp
  simp only [ho, resolve, invoke, builtin, Sem.run_bind, Sem.run_pure, Result.andThen_ok, List.map_toArray, List.map_cons, List.map_nil, hv, hx, hr]
  exact h _ _ h2 h3 h4
end

theorem put_head (n x : Nat) (hn : n ≤ 16384) (hx : x < 4294967296) :
    [.int .u8 ((n : Int) / 16777216), .int .u8 ((n : Int) / 65536), .int .u8 ((n : Int) / 256), .int .u8 ((n : Int) % 256), .int .u8 ((x : Int) / 16777216), .int .u8 ((x : Int) / 65536 % 256), .int .u8 ((x : Int) / 256 % 256), .int .u8 ((x : Int) % 256)] = bv (be 4 n ++ be 4 x) := by
  rw [bv_append, be4, be4]
  simp only [List.cons_append, List.nil_append, List.cons.injEq, Value.int.injEq, true_and, and_true]
  omega

theorem wrapi (x : Int) (h0 : 0 ≤ x) (h : x < 9223372036854775808) : IntKind.i64.wrap x = x := by
  obtain ⟨n, rfl⟩ := Int.eq_ofNat_of_zero_le h0
  exact Lib.wrap_i64_small n (by omega)
theorem heldT2 {W W' : World} {b D E : Nat} {t : TypeId} {c z x : Value} (h : Blk W b t #[c, z, x]) (hne : b ≠ D) (hne2 : b ≠ E) (f : Fr (fun k => k = D ∨ k = E) W W') : W'.cell? ⟨b, 0, none⟩ = some c ∧ W'.cell? ⟨b, 1, none⟩ = some z ∧ W'.cell? ⟨b, 2, none⟩ = some x := by
  have h1 := h.fr f (fun h => h.elim hne hne2)
  exact ⟨h1.cell 0, h1.cell 1, h1.cell 2⟩
theorem Fr.set2 {W W' : World} {D E : Nat} (h : Fr (fun k => k = D ∨ k = E) W W') (i : Nat) (u : Value) : Fr (fun k => k = D ∨ k = E) W (W'.setCell ⟨E, i, none⟩ u) := h.setCell (fun _ => .inr rfl) u

set_option maxRecDepth 100000 in
set_option maxHeartbeats 4000000 in
theorem rput_c (w : World) (cn sz : Int) (s : Nat) (hs : s < 4294967296) (h0 : 0 ≤ cn) (h1 : cn < 4611686018427387904) (g0 : 0 ≤ sz) (h2 : sz < 4611686018427387904) (A : Option Addr) (n c : Nat) (p : List UInt8) (hA : Rd w A n (bv p)) (hn : n ≤ 16384) :
    Calls Tryd.prog 22 #[tailV cn sz s, .slice A n c] w fun e w' => ∃ v, e = .returned (.tuple #[v, tailV (cn + 1) (sz + 8 + (n : Int)) (sumOf s p), .int .i64 0]) ∧ w'.ownsRow w.heap.size 5 1 v (8 + n) (bv (recB s p)) ∧ Fr (fun _ => False) w w' := by
  obtain ⟨i0, hi, hz0, hz1, hz2⟩ := info_parts u8_info
  have hp : p.length = n := by rw [← hA.1, bv_length]
  have HA := Lib.hid hA
  have HP := Lib.hid hp
  have hI := Lib.hid hi
  unfold tailV
  clear hA hp hi
  have HB : Hid (Blk ((w.alloc (.cells #[.int .i64 cn, .int .i64 sz, .int .u32 (s : Int)] 30)).alloc (.cells #[.int .i64 0, .int .i64 0, .int .u32 0] 30)) w.heap.size 30 #[.int .i64 cn, .int .i64 sz, .int .u32 (s : Int)]) := (Blk.new w _ _).alloc _
  have HD : Hid (Blk ((w.alloc (.cells #[.int .i64 cn, .int .i64 sz, .int .u32 (s : Int)] 30)).alloc (.cells #[.int .i64 0, .int .i64 0, .int .u32 0] 30)) (w.heap.size + 1) 30 #[.int .i64 0, .int .i64 0, .int .u32 0]) := by
    have := Blk.new (w.alloc (.cells #[.int .i64 cn, .int .i64 sz, .int .u32 (s : Int)] 30)) 30 #[.int .i64 0, .int .i64 0, .int .u32 0]
    rwa [World.size_alloc] at this
  have F1 : Hid (Fr (fun _ => False) w ((w.alloc (.cells #[.int .i64 cn, .int .i64 sz, .int .u32 (s : Int)] 30)).alloc (.cells #[.int .i64 0, .int .i64 0, .int .u32 0] 30))) := ((Fr.refl _ w).alloc _).alloc _
  have c2 := HB.out.cell 2
  go_enter Tryd.func22, Tryd.ntmps22
  go_wp2_with fail
  have ra := Lib.hid (HA.out.far F1.out)
  generalize ((w.alloc (.cells #[.int .i64 cn, .int .i64 sz, .int .u32 (s : Int)] 30)).alloc (.cells #[.int .i64 0, .int .i64 0, .int .u32 0] 30)) = w1 at *
  refine (rsum_c w1 s hs A n c p ra.out hn).mono ?_
  rintro e w2 ⟨rfl, f2⟩
  have hx := sumOf_lt s p
  have hrb : recB s p = be 4 n ++ be 4 (sumOf s p) ++ p := by unfold recB; rw [HP.out]
  obtain ⟨x, hX⟩ : ∃ x, sumOf s p = x := ⟨_, rfl⟩
  rw [hX] at hx hrb ⊢
  have HRB := Lib.hid hrb
  have HX := Lib.hid hX
  clear hX hrb c2
  have FL := (Fr.refl (fun _ => False) w2).alloc (.cells #[.int .u8 ((n : Int) / 16777216), .int .u8 ((n : Int) / 65536), .int .u8 ((n : Int) / 256), .int .u8 ((n : Int) % 256), .int .u8 ((x : Int) / 16777216), .int .u8 ((x : Int) / 65536 % 256), .int .u8 ((x : Int) / 256 % 256), .int .u8 ((x : Int) % 256)] 5)
  have OL := own_lits w2 w2.heap.size _ 8 (show ([.int .u8 ((n : Int) / 16777216), .int .u8 ((n : Int) / 65536), .int .u8 ((n : Int) / 256), .int .u8 ((n : Int) % 256), .int .u8 ((x : Int) / 16777216), .int .u8 ((x : Int) / 65536 % 256), .int .u8 ((x : Int) / 256 % 256), .int .u8 ((x : Int) % 256)] : List Value).length = 8 from rfl) (Nat.le_refl _) (by unfold maxLen; omega)
  have HO : Hid ((w2.alloc (.cells #[.int .u8 ((n : Int) / 16777216), .int .u8 ((n : Int) / 65536), .int .u8 ((n : Int) / 256), .int .u8 ((n : Int) % 256), .int .u8 ((x : Int) / 16777216), .int .u8 ((x : Int) / 65536 % 256), .int .u8 ((x : Int) / 256 % 256), .int .u8 ((x : Int) % 256)] 5)).ownsRow w2.heap.size 5 1 (.slice (some ⟨w2.heap.size, 0, none⟩) 8 8) 8 (bv (be 4 n ++ be 4 x))) := by
    rw [← put_head n x hn hx]
    exact OL
  have F3 := Lib.hid ((F1.out.trans f2 (fun _ _ h => h)).trans FL (fun _ _ h => h))
  have G3 := Lib.hid (f2.trans FL (fun _ _ h => h))
  have zz := FL.size
  have z2 : w.heap.size + 1 < w2.heap.size := Nat.lt_of_lt_of_le HD.out.lt f2.size
  clear OL f2 FL
  go_wp2_with fail
  generalize (w2.alloc (.cells #[.int .u8 ((n : Int) / 16777216), .int .u8 ((n : Int) / 65536), .int .u8 ((n : Int) / 256), .int .u8 ((n : Int) % 256), .int .u8 ((x : Int) / 16777216), .int .u8 ((x : Int) / 65536 % 256), .int .u8 ((x : Int) / 256 % 256), .int .u8 ((x : Int) % 256)] 5)) = w3 at *
  have B3 := Lib.hid (HB.out.fr G3.out (fun h => h))
  have D3 := Lib.hid (HD.out.fr G3.out (fun h => h))
  have OD := Lib.hid (own_fr HO.out ((Fr.refl (fun _ => False) w3).drew) (fun _ _ h => h))
  have RD := Lib.hid ((ra.out.far G3.out).drew)
  have hw1 : IntKind.i64.wrap (cn + 1) = cn + 1 := wrapi _ (by omega) (by omega)
  have hw2 : IntKind.i64.wrap (sz + 8) = sz + 8 := wrapi _ (by omega) (by omega)
  have hw3 : IntKind.i64.wrap (sz + 8 + (n : Int)) = sz + 8 + (n : Int) := wrapi _ (by omega) (by omega)
  go_region_held3 (fun w' => w'.cell? ⟨w.heap.size, 0, none⟩ = some (.int .i64 cn) ∧ w'.cell? ⟨w.heap.size, 1, none⟩ = some (.int .i64 sz) ∧ w'.cell? ⟨w.heap.size, 2, none⟩ = some (.int .u32 (s : Int)))
    (exact heldT2 B3.out (D := w2.heap.size) (E := w.heap.size + 1) (by omega) (by omega) (by repeat (first | exact Fr.refl _ _ | exact FA.out | refine Fr.drew ?_ | refine Fr.alloc ?_ _ | refine Fr.set2 ?_ _ _)))
    (first
      | (refine oper_app_p rfl _ _ _ _ rfl w2.heap.size 5 i0 _ 1 1 Tryd.underlying25 hI.out hz0 hz1 hz2 rfl _ 8 _ rfl OD.out _ n _ rfl (Src.rd Tryd.underlying25 _ RD.out (bv_one _)) (by omega) (by unfold maxLen; omega) zz ?_
         intro v4 w4 o4 f40 hn4
         have f4 : Fr (fun k => k = w2.heap.size) w3.drew w4 := f40.mono (fun i hi hq => by
           have h : (Value.slice (some ⟨w2.heap.size, 0, none⟩) 8 8).ownBlock = some i := hq
           exact (Option.some.inj h).symm)
         have FA : Hid (Fr (fun k => k = w2.heap.size ∨ k = w.heap.size + 1) w3 w4) := ((Fr.refl _ w3).drew).trans f4 (fun i hi hq => .inl hq)
         have D4 := D3.out.drew.fr f4 (by omega)
         have j0 := D4.cell 0
         have j1 := D4.cell 1
         have j2 := D4.cell 2
         have m0 := D4.frozen 0
         have m1 := D4.frozen 1
         have m2 := D4.frozen 2
         have DD := Lib.hid D4
         have O4 : Hid (w4.ownsRow w2.heap.size 5 1 v4 (8 + n) (bv (recB s p))) := by
           rw [← bv_append] at o4
           rw [HRB.out]
           exact o4
         have F4 : Hid (Fr (fun _ => False) w w4) := (F3.out.drew).trans f4 (fun i hi hq => by omega)
         clear D4 o4 f4 f40 hn4))
  have D9 := ((DD.out.set_ 0 (.int .i64 (cn + 1))).set_ 1 (.int .i64 (sz + 8 + (n : Int)))).set_ 2 (.int .u32 (x : Int))
  have r0 := D9.cell 0
  have r1 := D9.cell 1
  have r2 := D9.cell 2
  simp at r0 r1 r2
  have F9 : Hid (Fr (fun _ => False) w (((w4.setCell ⟨w.heap.size + 1, 0, none⟩ (.int .i64 (cn + 1))).setCell ⟨w.heap.size + 1, 1, none⟩ (.int .i64 (sz + 8 + (n : Int)))).setCell ⟨w.heap.size + 1, 2, none⟩ (.int .u32 (x : Int)))) :=
    ((F4.out.setCell (fun h => absurd h (by simp)) _).setCell (fun h => absurd h (by simp)) _).setCell (fun h => absurd h (by simp)) _
  have O9 : Hid ((((w4.setCell ⟨w.heap.size + 1, 0, none⟩ (.int .i64 (cn + 1))).setCell ⟨w.heap.size + 1, 1, none⟩ (.int .i64 (sz + 8 + (n : Int)))).setCell ⟨w.heap.size + 1, 2, none⟩ (.int .u32 (x : Int))).ownsRow w.heap.size 5 1 v4 (8 + n) (bv (recB s p))) := by
    have hf := (((Fr.refl (fun k => k = w.heap.size + 1) w4).setCell (p := ⟨w.heap.size + 1, 0, none⟩) (fun _ => rfl) (.int .i64 (cn + 1))).setCell (p := ⟨w.heap.size + 1, 1, none⟩) (fun _ => rfl) (.int .i64 (sz + 8 + (n : Int)))).setCell (p := ⟨w.heap.size + 1, 2, none⟩) (fun _ => rfl) (.int .u32 (x : Int))
    have h1 := own_fr O4.out hf (fun k hk e => own_blk_ne O4.out DD.out (by decide) (by rw [hk, e]))
    exact own_base h1 (fun k hk => by have := (O4.out.lt k hk).1; omega)
  clear D9 j0 j1 j2 m0 m1 m2
  generalize (((w4.setCell ⟨w.heap.size + 1, 0, none⟩ (.int .i64 (cn + 1))).setCell ⟨w.heap.size + 1, 1, none⟩ (.int .i64 (sz + 8 + (n : Int)))).setCell ⟨w.heap.size + 1, 2, none⟩ (.int .u32 (x : Int))) = w9 at *
  go_wp2_with fail
  exact bodyPost_ret (v := .tuple #[v4, .agg #[.int .i64 (cn + 1), .int .i64 (sz + 8 + (n : Int)), .int .u32 (x : Int)], .int .i64 0]) (by simp [results, Tryd.results22, go_sem, r0, r1, r2]) rfl ⟨v4, by rw [HX.out], O9.out, F9.out⟩
end Go.Proofs.YtmaajihpkollcaaDoor
