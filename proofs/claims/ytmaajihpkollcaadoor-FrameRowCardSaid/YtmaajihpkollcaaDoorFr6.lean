/-
  CONTRACTS: frame's Put.
-/
import Derived.Test.YtmaajihpkollcaaDoorFr5
namespace Go.Proofs.YtmaajihpkollcaaDoor
set_option linter.unusedSimpArgs false
set_option linter.unusedVariables false
open Go Go.RowKit

theorem recB_eq (s : Nat) (p : List UInt8) : [be 4 p.length, be 4 (sumOf s p), p].flatten = recB s p := by simp [recB]

theorem Fr.set_ {a w : World} {D : Nat} (h : Fr (fun k => k = D) a w) (o : Nat) (u : Value) : Fr (fun k => k = D) a (w.setCell ⟨D, o, none⟩ u) := h.setCell (p := ⟨D, o, none⟩) (fun _ => rfl) u
theorem heldT {W W' : World} {b D : Nat} {t : TypeId} {c z x : Value} (h : Blk W b t #[c, z, x]) (hne : b ≠ D) (f : Fr (fun k => k = D) W W') : W'.cell? ⟨b, 0, none⟩ = some c ∧ W'.cell? ⟨b, 1, none⟩ = some z ∧ W'.cell? ⟨b, 2, none⟩ = some x := by
  have h1 := h.fr f hne
  exact ⟨h1.cell 0, h1.cell 1, h1.cell 2⟩

set_option maxRecDepth 100000 in
set_option maxHeartbeats 4000000 in
theorem put_c (w : World) (cn sz : Int) (s : Nat) (hs : s < 4294967296) (h0 : 0 ≤ cn) (h1 : cn < 4611686018427387904) (g0 : 0 ≤ sz) (h2 : sz < 4611686018427387904) (A : Option Addr) (n c : Nat) (p : List UInt8) (hA : Rd w A n (bv p)) (hc : n ≤ c) (hc2 : c ≤ maxLen) (hN : Nb w) (hn : n ≤ 16384) :
    Calls Tryd.prog 18 #[tailV cn sz s, .slice A n c] w fun e w' => ∃ v, e = .returned (.tuple #[v, tailV (cn + 1) (sz + (8 + (n : Int))) (sumOf s p), .int .i64 0]) ∧ w'.ownsRow w.heap.size 5 1 v (8 + n) (bv (recB s p)) ∧ Fr (fun _ => False) w w' := by
  have hp : p.length = n := by rw [← hA.1, bv_length]
  have HA := Lib.hid hA
  have HP := Lib.hid hp
  have HN := Lib.hid hN
  have HC2 := Lib.hid hc2
  unfold tailV
  clear hA hp hN hc2
  go_enter Tryd.func18, Tryd.ntmps18
  go_wp2_with fail
  refine (first_c _ n _ (by omega) (by omega)).mono ?_
  rintro e w1 ⟨rfl, rfl⟩
  go_wp2_with fail
  have HB : Hid (Blk (((w.alloc (.cells #[.int .i64 cn, .int .i64 sz, .int .u32 (s : Int)] 30)).alloc (.cells #[.int .i64 0, .int .i64 0, .int .u32 0] 30)).alloc (.cells (bv (be 4 n)).toArray 5)) w.heap.size 30 #[.int .i64 cn, .int .i64 sz, .int .u32 (s : Int)]) := ((Blk.new w _ _).alloc _).alloc _
  have HD : Hid (Blk (((w.alloc (.cells #[.int .i64 cn, .int .i64 sz, .int .u32 (s : Int)] 30)).alloc (.cells #[.int .i64 0, .int .i64 0, .int .u32 0] 30)).alloc (.cells (bv (be 4 n)).toArray 5)) (w.heap.size + 1) 30 #[.int .i64 0, .int .i64 0, .int .u32 0]) := by
    have := (Blk.new (w.alloc (.cells #[.int .i64 cn, .int .i64 sz, .int .u32 (s : Int)] 30)) 30 #[.int .i64 0, .int .i64 0, .int .u32 0]).alloc (.cells (bv (be 4 n)).toArray 5)
    rwa [World.size_alloc] at this
  have HLn : Hid (Blk (((w.alloc (.cells #[.int .i64 cn, .int .i64 sz, .int .u32 (s : Int)] 30)).alloc (.cells #[.int .i64 0, .int .i64 0, .int .u32 0] 30)).alloc (.cells (bv (be 4 n)).toArray 5)) (w.heap.size + 1 + 1) 5 (bv (be 4 n)).toArray) := by
    have := Blk.new ((w.alloc (.cells #[.int .i64 cn, .int .i64 sz, .int .u32 (s : Int)] 30)).alloc (.cells #[.int .i64 0, .int .i64 0, .int .u32 0] 30)) 5 (bv (be 4 n)).toArray
    rwa [World.size_alloc, World.size_alloc] at this
  have F1 : Hid (Fr (fun _ => False) w (((w.alloc (.cells #[.int .i64 cn, .int .i64 sz, .int .u32 (s : Int)] 30)).alloc (.cells #[.int .i64 0, .int .i64 0, .int .u32 0] 30)).alloc (.cells (bv (be 4 n)).toArray 5))) := (((Fr.refl _ w).alloc _).alloc _).alloc _
  generalize (((w.alloc (.cells #[.int .i64 cn, .int .i64 sz, .int .u32 (s : Int)] 30)).alloc (.cells #[.int .i64 0, .int .i64 0, .int .u32 0] 30)).alloc (.cells (bv (be 4 n)).toArray 5)) = w1 at *
  have c0 := HB.out.cell 0
  have c1 := HB.out.cell 1
  have c2 := HB.out.cell 2
  go_wp2_with fail
  have hl4 : Rd w1 (some ⟨w.heap.size + 1 + 1, 0, none⟩) 4 (bv (be 4 n)) := by
    have := Rd.of_blk (n := 4) HLn.out (by simp [bv_length, be_length])
    simpa [List.take_of_length_le, bv_length, be_length] using this
  have HL4 := Lib.hid hl4
  have ra := Lib.hid (HA.out.far F1.out)
  have N1 := Lib.hid (HN.out.far F1.out)
  clear hl4
  refine (chained_c w1 cn sz s hs _ A 4 n 4 c (be 4 n) p HL4.out ra.out (by omega) hc (by unfold maxLen; omega) HC2.out N1.out).mono ?_
  rintro e w2 ⟨rfl, f2⟩
  have hsum : Hid (check (le 4 s ++ be 4 n ++ p) = sumOf s p) := by show _ = _; unfold sumOf; rw [HP.out]
  rw [hsum.out]
  have hx := sumOf_lt s p
  have hrb := recB_eq s p
  rw [HP.out] at hrb
  obtain ⟨x, hX⟩ : ∃ x, sumOf s p = x := ⟨_, rfl⟩
  rw [hX] at hx hrb ⊢
  have HX := Lib.hid hX
  have HRB := Lib.hid hrb
  clear hX hrb
  have B2 := Lib.hid (HB.out.fr f2 (fun h => h))
  have D2 := Lib.hid (HD.out.fr f2 (fun h => h))
  have L2 := Lib.hid (HL4.out.far f2)
  have A2 := Lib.hid (ra.out.far f2)
  have F2 := Lib.hid (F1.out.trans f2 (fun _ _ h => h))
  clear f2 c0 c1 c2
  go_wp2_with fail
  have hb1 : RdB ((w2.alloc (.cells (bv (be 4 x)).toArray 5)).alloc (.cells #[.slice (some ⟨w.heap.size + 1 + 1, 0, none⟩) 4 4, .slice (some ⟨w2.heap.size, 0, none⟩) 4 4, .slice A n c] 25)) (some ⟨w2.heap.size + 1, 0, none⟩) 3 [be 4 n, be 4 x, p] := by
    obtain rfl := HP.out
    have h5 : Rd (w2.alloc (.cells (bv (be 4 x)).toArray 5)) (some ⟨w2.heap.size, 0, none⟩) (be 4 x).length (bv (be 4 x)) := by
      have := Rd.of_blk (n := 4) (Blk.new w2 5 (bv (be 4 x)).toArray) (by simp [bv_length, be_length])
      rw [be_length]
      simpa [List.take_of_length_le, bv_length, be_length] using this
    have h6 : Rd w2 (some ⟨w.heap.size + 1 + 1, 0, none⟩) (be 4 p.length).length (bv (be 4 p.length)) := by rw [be_length]; exact L2.out
    have r := rdB3 (w2.alloc (.cells (bv (be 4 x)).toArray 5)) 25 _ _ _ 4 4 c (be 4 p.length) (be 4 x) p (h6.alloc _) h5 (A2.out.alloc _) (by rw [be_length]; omega) (by rw [be_length]; omega) hc (by unfold maxLen; omega) (by unfold maxLen; omega) HC2.out
    rw [World.size_alloc] at r
    rw [be_length, be_length] at r
    exact r
  have R3 : Hid (RdB ((w2.alloc (.cells (bv (be 4 x)).toArray 5)).alloc (.cells #[.slice (some ⟨w.heap.size + 1 + 1, 0, none⟩) 4 4, .slice (some ⟨w2.heap.size, 0, none⟩) 4 4, .slice A n c] 25)).drew (some ⟨w2.heap.size + 1, 0, none⟩) 3 [be 4 n, be 4 x, p]) := hb1.far ((Fr.refl _ _).drew)
  have hlen : Hid ((recB s p).length = 8 + n) := by show _ = _; rw [recB_length, HP.out]
  clear hb1
  go_region_held3 (fun w' => w'.cell? ⟨w.heap.size, 0, none⟩ = some (.int .i64 cn) ∧ w'.cell? ⟨w.heap.size, 1, none⟩ = some (.int .i64 sz) ∧ w'.cell? ⟨w.heap.size, 2, none⟩ = some (.int .u32 (s : Int)))
    (exact heldT B2.out (D := w.heap.size + 1) (by omega) (by repeat (first | exact Fr.refl _ _ | exact FA.out.mono (fun _ _ h => h.elim) | exact FB.out.mono (fun _ _ h => h.elim) | refine Fr.drew ?_ | refine Fr.alloc ?_ _ | refine Fr.set_ ?_ _ _)))
    (first
      | (go_at_call 23; refine (first_c _ x _ rfl hx).mono ?_; rintro e w3 ⟨rfl, rfl⟩)
      | (go_at_call 25
         refine (concat_c _ _ 3 3 _ R3.out (by omega) (by rw [HRB.out, hlen.out]; omega)).mono ?_
         rintro e w4 ⟨v4, rfl, o4, f4⟩
         rw [HRB.out, hlen.out] at o4
         have FA := Lib.hid ((((((Fr.refl _ w2).alloc _).alloc _).drew).trans f4 (fun _ _ h => h)) : Fr (fun _ => False) w2 w4)
         have O4 := Lib.hid o4
         clear o4 f4)
      | (go_at_call 26
         refine (after_c _ cn sz s x A n c h0 h1 g0 h2 (by omega)).mono ?_
         rintro e w5 ⟨rfl, f5⟩
         unfold tailV
         have FB := Lib.hid (FA.out.trans f5 (fun _ _ h => h))
         have O5 := Lib.hid (own_fr O4.out f5 (fun _ _ h => h))
         have D5 := D2.out.fr FB.out (fun h => h)
         have j0 := D5.cell 0
         have j1 := D5.cell 1
         have j2 := D5.cell 2
         have m0 := D5.frozen 0
         have m1 := D5.frozen 1
         have m2 := D5.frozen 2
         have DD := Lib.hid D5
         clear f5 D5))
  have D9 := ((DD.out.set_ 0 (.int .i64 (cn + 1))).set_ 1 (.int .i64 (sz + (8 + (n : Int))))).set_ 2 (.int .u32 (x : Int))
  have r0 := D9.cell 0
  have r1 := D9.cell 1
  have r2 := D9.cell 2
  simp at r0 r1 r2
  have F9 : Hid (Fr (fun _ => False) w (((w5.setCell ⟨w.heap.size + 1, 0, none⟩ (.int .i64 (cn + 1))).setCell ⟨w.heap.size + 1, 1, none⟩ (.int .i64 (sz + (8 + (n : Int))))).setCell ⟨w.heap.size + 1, 2, none⟩ (.int .u32 (x : Int)))) :=
    (((F2.out.trans FB.out (fun _ _ h => h)).setCell (fun h => absurd h (by simp)) _).setCell (fun h => absurd h (by simp)) _).setCell (fun h => absurd h (by simp)) _
  have O9 : Hid ((((w5.setCell ⟨w.heap.size + 1, 0, none⟩ (.int .i64 (cn + 1))).setCell ⟨w.heap.size + 1, 1, none⟩ (.int .i64 (sz + (8 + (n : Int))))).setCell ⟨w.heap.size + 1, 2, none⟩ (.int .u32 (x : Int))).ownsRow w.heap.size 5 1 v4 (8 + n) (bv (recB s p))) := by
    have hf := (((Fr.refl (fun k => k = w.heap.size + 1) w5).setCell (p := ⟨w.heap.size + 1, 0, none⟩) (fun _ => rfl) (.int .i64 (cn + 1))).setCell (p := ⟨w.heap.size + 1, 1, none⟩) (fun _ => rfl) (.int .i64 (sz + (8 + (n : Int))))).setCell (p := ⟨w.heap.size + 1, 2, none⟩) (fun _ => rfl) (.int .u32 (x : Int))
    have hsz := F2.out.size
    have h1 := own_fr O5.out hf (fun k hk e => own_blk_ne O5.out DD.out (by decide) (by rw [hk, e]))
    exact own_base h1 (fun k hk => by have := (O4.out.lt k hk).1; simp at this; omega)
  clear D9 j0 j1 j2 m0 m1 m2
  generalize (((w5.setCell ⟨w.heap.size + 1, 0, none⟩ (.int .i64 (cn + 1))).setCell ⟨w.heap.size + 1, 1, none⟩ (.int .i64 (sz + (8 + (n : Int))))).setCell ⟨w.heap.size + 1, 2, none⟩ (.int .u32 (x : Int))) = w9 at *
  go_wp2_with fail
  exact bodyPost_ret (v := .tuple #[v4, .agg #[.int .i64 (cn + 1), .int .i64 (sz + (8 + (n : Int))), .int .u32 (x : Int)], .int .i64 0]) (by simp [results, Tryd.results18, go_sem, r0, r1, r2]) rfl ⟨v4, by rw [HX.out], O9.out, F9.out⟩
end Go.Proofs.YtmaajihpkollcaaDoor
