/-
  CONTRACTS: digest's maySize, Begin, Mix.
-/
import Derived.Test.YtfdpaiainlfigaaDoorMix
import Derived.Test.YtfdpaiainlfigaaDoorDigP
import Derived.Test.YtfdpaiainlfigaaDoorCat
namespace Go.Proofs.YtfdpaiainlfigaaDoor
set_option linter.unusedSimpArgs false
set_option linter.unusedVariables false
open Go Go.RowKit

/-- A size that may be. -/
def szB (S : Int) : Bool := decide (1 ≤ S) && decide (S ≤ 32)
theorem maySize_c (w : World) (S : Int) : Calls Tryd.prog 29 #[.int .i64 S] w fun e w' => e = .returned (.bool (szB S)) ∧ w = w' := by
  by_cases h1 : 1 ≤ S
  · go_enter Tryd.func29, Tryd.ntmps29
    have h1' : decide (1 ≤ S) = true := decide_eq_true h1
    go_wp2_with fail
    go_ret
    exact ⟨by unfold szB; rw [h1', Bool.true_and]; rfl, rfl⟩
  · have h1' : decide (1 ≤ S) = false := decide_eq_false h1
    go_enter Tryd.func29, Tryd.ntmps29
    go_wp2_with fail
    go_ret
    exact ⟨by unfold szB; rw [h1', Bool.false_and]; rfl, rfl⟩

set_option maxRecDepth 100000 in
set_option maxHeartbeats 1000000 in
theorem begin_no (w : World) (S : Int) (hS : szB S = false) : Calls Tryd.prog 17 #[.int .i64 S] w fun e w' => e = .returned (.tuple #[.agg (dc [] (.slice none 0 0) 0 0), .int .i64 1]) ∧ Fr (fun _ => False) w w' := by
  go_enter Tryd.func17, Tryd.ntmps17
  go_wp2_with (go_at_call 29; refine (maySize_c _ S).mono ?_; rintro e w' ⟨rfl, rfl⟩; rw [hS])
  exact bodyPost_ret (v := .tuple #[.agg (dc [] (.slice none 0 0) 0 0), .int .i64 1]) (by simp [results, Tryd.results17, go_sem]; rfl) rfl ⟨rfl, (Fr.refl _ w).alloc _⟩
set_option maxRecDepth 100000 in
set_option maxHeartbeats 1000000 in
theorem begin_yes (w : World) (S : Nat) (hS : szB (S : Int) = true) (hS2 : S ≤ 32) (hT : Tabs w) : Calls Tryd.prog 17 #[.int .i64 (S : Int)] w fun e w' => e = .returned (.tuple #[.agg (dc (begL S) (.slice none 0 0) 0 S), .int .i64 0]) ∧ Fr (fun _ => False) w w' := by
  have x0 := hT.i 0 (by omega)
  have x1 := hT.i 1 (by omega)
  have x2 := hT.i 2 (by omega)
  have x3 := hT.i 3 (by omega)
  have x4 := hT.i 4 (by omega)
  have x5 := hT.i 5 (by omega)
  have x6 := hT.i 6 (by omega)
  have x7 := hT.i 7 (by omega)
  have hlt := hT.lt
  have h0 : 0 < w.heap.size := by omega
  have k0 := at_lt ws_ivs 0
  have hx1 : bits .xor .u32 16842752 (S : Int) = ((16842752 ^^^ S : Nat) : Int) := u32_xor_nat 16842752 S (by omega) (by omega)
  have hx2 : bits .xor .u32 (at_ ivs 0 : Int) ((16842752 ^^^ S : Nat) : Int) = ((at_ ivs 0 ^^^ (16842752 ^^^ S) : Nat) : Int) := u32_xor_nat _ _ k0 (Nat.xor_lt_two_pow (n := 32) (by omega) (by omega))
  clear hT k0
  go_enter Tryd.func17, Tryd.ntmps17
  go_wp2_with (go_at_call 29; refine (maySize_c _ _).mono ?_; rintro e w' ⟨rfl, rfl⟩; rw [hS])
  have e : dc (begL S) (.slice none 0 0) 0 (S : Int) = #[.int .u32 (at_ ivs 0 ^^^ (16842752 ^^^ S) : Nat), .int .u32 (at_ ivs 1 : Nat), .int .u32 (at_ ivs 2 : Nat), .int .u32 (at_ ivs 3 : Nat), .int .u32 (at_ ivs 4 : Nat), .int .u32 (at_ ivs 5 : Nat), .int .u32 (at_ ivs 6 : Nat), .int .u32 (at_ ivs 7 : Nat), .slice none 0 0, .int .u64 0, .int .i64 (S : Int)] := rfl
  rw [e]
  clear x0 x1 x2 x3 x4 x5 x6 x7
  exact bodyPost_ret (by simp [results, Tryd.results17, go_sem]) rfl ⟨rfl, ((Fr.refl _ w).alloc _).alloc _⟩

set_option maxRecDepth 100000 in
set_option maxHeartbeats 1000000 in
/-- digest.Mix, of bytes that may be. -/
theorem Mix_yes (w : World) (H : List Nat) (A : Option Addr) (c : Nat) (b : List UInt8) (n : Nat) (last : Bool) (l : Int) (hl : l = if last then 1 else 0) (hH : Ws 8 H) (hA : Rd w A 64 (bv b)) (hn : n < 18446744073709551616) (hT : Tabs w) :
    Calls Tryd.prog 10 #[.agg (uv H), .slice A 64 c, .int .u64 (n : Int), .int .i64 l] w fun e w' => e = .returned (.tuple #[.agg (uv (mixL H (wds b) n last)), .int .i64 0]) ∧ Fr (fun _ => False) w w' := by
  have hM := hH.ofMix (wds b) n hn last
  have hc := fun W hA hT => mix_c W H A c b n last hH hA hn hT
  rw [uv8 hH] at hc ⊢
  have h64 : (((64 : Nat) : Int) != 64) = false := by decide
  have hll : (l != 0) = last := by rw [hl]; cases last <;> rfl
  have hl1 : (l == 1) = last := by rw [hl]; cases last <;> rfl
  have hl2 : last = true → (l != 1) = false := fun h => by rw [hl, h]; rfl
  have HC := Lib.hid hc
  have HA := Lib.hid hA
  have HT := Lib.hid hT
  have HM := Lib.hid hM
  clear hc hA hT hH hn hM hl
  cases last
  all_goals
    try have hl2 := hl2 rfl
    go_enter Tryd.func10, Tryd.ntmps10
    go_wp2_with fail
    refine (HC.out _ (HA.out.far (((Fr.refl _ w).alloc _).alloc _)) (HT.out.far (((Fr.refl _ w).alloc _).alloc _))).mono ?_
    rintro e w1 ⟨rfl, f1⟩
    rw [uv8 HM.out]
    have F1 := Lib.hid ((((Fr.refl (fun _ => False) w).alloc (.cells #[.int .u32 (at_ H 0 : Nat), .int .u32 (at_ H 1 : Nat), .int .u32 (at_ H 2 : Nat), .int .u32 (at_ H 3 : Nat), .int .u32 (at_ H 4 : Nat), .int .u32 (at_ H 5 : Nat), .int .u32 (at_ H 6 : Nat), .int .u32 (at_ H 7 : Nat)] 23)).alloc (.cells #[.int .u32 0, .int .u32 0, .int .u32 0, .int .u32 0, .int .u32 0, .int .u32 0, .int .u32 0, .int .u32 0] 23)).trans f1 (fun _ _ h => h))
    have b1 := Blk.new (w.alloc (.cells #[.int .u32 (at_ H 0 : Nat), .int .u32 (at_ H 1 : Nat), .int .u32 (at_ H 2 : Nat), .int .u32 (at_ H 3 : Nat), .int .u32 (at_ H 4 : Nat), .int .u32 (at_ H 5 : Nat), .int .u32 (at_ H 6 : Nat), .int .u32 (at_ H 7 : Nat)] 23)) 23 #[.int .u32 0, .int .u32 0, .int .u32 0, .int .u32 0, .int .u32 0, .int .u32 0, .int .u32 0, .int .u32 0]
    rw [World.size_alloc] at b1
    have B1 := Lib.hid (b1.fr f1 (fun h => h))
    clear f1 b1
    have c0 := B1.out.cell 0
    have z0 := B1.out.frozen 0
    have c1 := B1.out.cell 1
    have z1 := B1.out.frozen 1
    have c2 := B1.out.cell 2
    have z2 := B1.out.frozen 2
    have c3 := B1.out.cell 3
    have z3 := B1.out.frozen 3
    have c4 := B1.out.cell 4
    have z4 := B1.out.frozen 4
    have c5 := B1.out.cell 5
    have z5 := B1.out.frozen 5
    have c6 := B1.out.cell 6
    have z6 := B1.out.frozen 6
    have c7 := B1.out.cell 7
    have z7 := B1.out.frozen 7
    simp only [List.getElem?_toArray, List.getElem?_cons_zero, List.getElem?_cons_succ] at c0 c1 c2 c3 c4 c5 c6 c7
    go_wp2_with fail
    refine bodyPost_ret (by simp [results, Tryd.results10, go_sem, c0, c1, c2, c3, c4, c5, c6, c7]; exact (uv8 HM.out).symm) rfl ⟨rfl, ?_⟩
    have hs : w.heap.size + 1 < w.heap.size → False := by omega
    exact (((((((F1.out.setCell (p := ⟨w.heap.size + 1, 0, none⟩) hs _).setCell (p := ⟨w.heap.size + 1, 1, none⟩) hs _).setCell (p := ⟨w.heap.size + 1, 2, none⟩) hs _).setCell (p := ⟨w.heap.size + 1, 3, none⟩) hs _).setCell (p := ⟨w.heap.size + 1, 4, none⟩) hs _).setCell (p := ⟨w.heap.size + 1, 5, none⟩) hs _).setCell (p := ⟨w.heap.size + 1, 6, none⟩) hs _).setCell (p := ⟨w.heap.size + 1, 7, none⟩) hs _
theorem Mix_no (w : World) (H : List Nat) (A : Option Addr) (m c : Nat) (n l : Int) (hH : Ws 8 H) (h : (m : Int) ≠ 64 ∨ (l ≠ 0 ∧ l ≠ 1)) :
    Calls Tryd.prog 10 #[.agg (uv H), .slice A m c, .int .u64 n, .int .i64 l] w fun e w' => e = .returned (.tuple #[.agg (uv (List.replicate 8 0)), .int .i64 1]) ∧ Fr (fun _ => False) w w' := by
  have h8 := uv8 hH
  have hz := uv8 (H := List.replicate 8 0) ⟨rfl, by decide⟩
  rw [h8, hz]
  clear h8 hz
  by_cases hm : (m : Int) = 64
  · have h64 : ((m : Int) != 64) = false := by simp [hm]
    obtain ⟨l0, l1⟩ : l ≠ 0 ∧ l ≠ 1 := h.resolve_left (fun e => e hm)
    have l0' : (l != 0) = true := by simp [l0]
    have l1' : (l != 1) = true := by simp [l1]
    clear h hm l0 l1
    go_enter Tryd.func10, Tryd.ntmps10
    go_wp2_with fail
    exact bodyPost_ret (by simp [results, Tryd.results10, go_sem, at_]) rfl ⟨rfl, ((Fr.refl _ w).alloc _).alloc _⟩
  · have h64 : ((m : Int) != 64) = true := by simp [hm]
    clear h hm
    go_enter Tryd.func10, Tryd.ntmps10
    go_wp2_with fail
    exact bodyPost_ret (by simp [results, Tryd.results10, go_sem, at_]) rfl ⟨rfl, ((Fr.refl _ w).alloc _).alloc _⟩
end Go.Proofs.YtfdpaiainlfigaaDoor
