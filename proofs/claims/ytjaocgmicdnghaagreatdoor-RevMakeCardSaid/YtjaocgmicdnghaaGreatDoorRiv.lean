/-
  CONTRACTS of the reference's IV and orders.
-/
import Derived.Test.YtjaocgmicdnghaaGreatDoorWords
import Derived.Deep.QuietTactic
import Derived.BigQuiet
namespace Go.Proofs.YtjaocgmicdnghaaGreatDoor
set_option linter.unusedSimpArgs false
set_option linter.unusedVariables false
open Go Go.RowKit

set_option maxRecDepth 100000 in
set_option maxHeartbeats 1000000 in
theorem riv_c (w : World) (i : Nat) (hi : i < 8) : Calls Tryz.prog 77 #[.int .i64 (i : Int)] w fun e w' => e = .returned (.int .u32 (at_ ivs i : Nat)) ∧ Fr (fun _ => False) w w' := by
  have b := Blk.new w 76 (uv ivs)
  have x : (w.alloc (.cells (uv ivs) 76)).cell? ⟨w.heap.size, i, none⟩ = some (.int .u32 (at_ ivs i : Nat)) := by
    rw [b.cell, uv_get _ _ hi]
  have f := Lib.hid ((Fr.refl (fun _ => False) w).alloc (.cells (uv ivs) 76))
  rw [show uv ivs = #[.int .u32 0x6a09e667, .int .u32 0xbb67ae85, .int .u32 0x3c6ef372, .int .u32 0xa54ff53a, .int .u32 0x510e527f, .int .u32 0x9b05688c, .int .u32 0x1f83d9ab, .int .u32 0x5be0cd19] from rfl] at x f
  have hi8 : (i : Int) < 8 := by omega
  clear b
  go_enter Tryz.func77, Tryz.ntmps77
  go_wp2_with fail
  go_ret
  exact ⟨rfl, f.out⟩

/-- A row of places. -/
def ov (r : Nat) : Array Value := ((List.range 16).map fun k => Value.int .i64 (od r k : Nat)).toArray
theorem ov_get (r k : Nat) (h : k < 16) : (ov r)[k]? = some (.int .i64 (od r k : Nat)) := by
  unfold ov
  rw [List.getElem?_toArray, List.getElem?_map, List.getElem?_range h]
  rfl
/-- The reference's rows of places, in memory. -/
structure Ords (W : World) (g B : Nat) : Prop where
  row : B ≤ g ∧ g < W.heap.size
  ord : ∀ r, r < 10 → ∃ q, B ≤ q ∧ q < W.heap.size ∧ W.cell? ⟨g, r, none⟩ = some (.slice (some ⟨q, 0, none⟩) 16 16) ∧ ∀ k, k < 16 → W.cell? ⟨q, k, none⟩ = some (.int .i64 (od r k : Nat))
theorem Ords.fr {W W' : World} {g B : Nat} {fp : Nat → Prop} (h : Ords W g B) (hf : Fr fp W W') (hp : ∀ k, fp k → k < B) : Ords W' g B := by
  refine ⟨⟨h.row.1, Nat.lt_of_lt_of_le h.row.2 hf.size⟩, fun r hr => ?_⟩
  obtain ⟨q, h1, h2, h3, h4⟩ := h.ord r hr
  refine ⟨q, h1, Nat.lt_of_lt_of_le h2 hf.size, ?_, fun k hk => ?_⟩
  · rw [hf.cell h.row.2 (fun e => by have := hp _ e; have := h.row.1; dsimp only at *; omega)]
    exact h3
  · rw [hf.cell h2 (fun e => by have := hp _ e; dsimp only at *; omega)]
    exact h4 k hk
def rows10 (B : Nat) : Array Value := ((List.range 10).map fun r => Value.slice (some ⟨B + r, 0, none⟩) 16 16).toArray
theorem ords_new (w : World) : ∃ W : World, W = (((((((((((w.alloc (.cells (ov 0) 3)).alloc (.cells (ov 1) 3)).alloc (.cells (ov 2) 3)).alloc (.cells (ov 3) 3)).alloc (.cells (ov 4) 3)).alloc (.cells (ov 5) 3)).alloc (.cells (ov 6) 3)).alloc (.cells (ov 7) 3)).alloc (.cells (ov 8) 3)).alloc (.cells (ov 9) 3)).alloc (.cells (rows10 w.heap.size) 121)) ∧ Ords W (w.heap.size + 10) w.heap.size ∧ Fr (fun _ => False) w W := by
  refine ⟨_, rfl, ?_, ?_⟩
  · have e : ∀ (W : World) (o : Obj), (W.alloc o).heap.size = W.heap.size + 1 := fun W o => World.size_alloc W o
    have bs : ∀ (W : World) (r : Nat), Blk (W.alloc (.cells (ov r) 3)) W.heap.size 3 (ov r) := fun W r => Blk.new W _ _
    have key : ∀ (W : World) (q r : Nat), r < 10 → q = w.heap.size + r → Blk W q 3 (ov r) → Blk W (w.heap.size + 10) 121 (rows10 w.heap.size) → q < W.heap.size → ∃ q, w.heap.size ≤ q ∧ q < W.heap.size ∧ W.cell? ⟨w.heap.size + 10, r, none⟩ = some (.slice (some ⟨q, 0, none⟩) 16 16) ∧ ∀ k, k < 16 → W.cell? ⟨q, k, none⟩ = some (.int .i64 (od r k : Nat)) := by
      intro W q r hr hq b1 b2 hl
      refine ⟨q, by omega, hl, ?_, fun k hk => ?_⟩
      · rw [b2.cell]
        subst hq
        unfold rows10
        rw [List.getElem?_toArray, List.getElem?_map, List.getElem?_range hr]
        rfl
      · rw [b1.cell, ov_get _ _ hk]
    have b10 := Blk.new ((((((((((w.alloc (.cells (ov 0) 3)).alloc (.cells (ov 1) 3)).alloc (.cells (ov 2) 3)).alloc (.cells (ov 3) 3)).alloc (.cells (ov 4) 3)).alloc (.cells (ov 5) 3)).alloc (.cells (ov 6) 3)).alloc (.cells (ov 7) 3)).alloc (.cells (ov 8) 3)).alloc (.cells (ov 9) 3)) 121 (rows10 w.heap.size)
    simp only [e] at b10
    refine ⟨⟨by omega, by have := b10.lt; simp only [e] at this ⊢; omega⟩, fun r hr => ?_⟩
    have hr' : r = 0 ∨ r = 1 ∨ r = 2 ∨ r = 3 ∨ r = 4 ∨ r = 5 ∨ r = 6 ∨ r = 7 ∨ r = 8 ∨ r = 9 := by omega
    have c0 := bs w 0
    rcases hr' with rfl | rfl | rfl | rfl | rfl | rfl | rfl | rfl | rfl | rfl
    · exact key _ _ 0 hr rfl ((((((((((c0.alloc _).alloc _).alloc _).alloc _).alloc _).alloc _).alloc _).alloc _).alloc _).alloc _) b10 (by simp only [e]; omega)
    · have c := bs (w.alloc (.cells (ov 0) 3)) 1
      exact key _ _ 1 hr (by simp only [e]) (((((((((c.alloc _).alloc _).alloc _).alloc _).alloc _).alloc _).alloc _).alloc _).alloc _) b10 (by simp only [e]; omega)
    · have c := bs ((w.alloc (.cells (ov 0) 3)).alloc (.cells (ov 1) 3)) 2
      exact key _ _ 2 hr (by simp only [e]) ((((((((c.alloc _).alloc _).alloc _).alloc _).alloc _).alloc _).alloc _).alloc _) b10 (by simp only [e]; omega)
    · have c := bs (((w.alloc (.cells (ov 0) 3)).alloc (.cells (ov 1) 3)).alloc (.cells (ov 2) 3)) 3
      exact key _ _ 3 hr (by simp only [e]) (((((((c.alloc _).alloc _).alloc _).alloc _).alloc _).alloc _).alloc _) b10 (by simp only [e]; omega)
    · have c := bs ((((w.alloc (.cells (ov 0) 3)).alloc (.cells (ov 1) 3)).alloc (.cells (ov 2) 3)).alloc (.cells (ov 3) 3)) 4
      exact key _ _ 4 hr (by simp only [e]) ((((((c.alloc _).alloc _).alloc _).alloc _).alloc _).alloc _) b10 (by simp only [e]; omega)
    · have c := bs (((((w.alloc (.cells (ov 0) 3)).alloc (.cells (ov 1) 3)).alloc (.cells (ov 2) 3)).alloc (.cells (ov 3) 3)).alloc (.cells (ov 4) 3)) 5
      exact key _ _ 5 hr (by simp only [e]) (((((c.alloc _).alloc _).alloc _).alloc _).alloc _) b10 (by simp only [e]; omega)
    · have c := bs ((((((w.alloc (.cells (ov 0) 3)).alloc (.cells (ov 1) 3)).alloc (.cells (ov 2) 3)).alloc (.cells (ov 3) 3)).alloc (.cells (ov 4) 3)).alloc (.cells (ov 5) 3)) 6
      exact key _ _ 6 hr (by simp only [e]) ((((c.alloc _).alloc _).alloc _).alloc _) b10 (by simp only [e]; omega)
    · have c := bs (((((((w.alloc (.cells (ov 0) 3)).alloc (.cells (ov 1) 3)).alloc (.cells (ov 2) 3)).alloc (.cells (ov 3) 3)).alloc (.cells (ov 4) 3)).alloc (.cells (ov 5) 3)).alloc (.cells (ov 6) 3)) 7
      exact key _ _ 7 hr (by simp only [e]) (((c.alloc _).alloc _).alloc _) b10 (by simp only [e]; omega)
    · have c := bs ((((((((w.alloc (.cells (ov 0) 3)).alloc (.cells (ov 1) 3)).alloc (.cells (ov 2) 3)).alloc (.cells (ov 3) 3)).alloc (.cells (ov 4) 3)).alloc (.cells (ov 5) 3)).alloc (.cells (ov 6) 3)).alloc (.cells (ov 7) 3)) 8
      exact key _ _ 8 hr (by simp only [e]) ((c.alloc _).alloc _) b10 (by simp only [e]; omega)
    · have c := bs (((((((((w.alloc (.cells (ov 0) 3)).alloc (.cells (ov 1) 3)).alloc (.cells (ov 2) 3)).alloc (.cells (ov 3) 3)).alloc (.cells (ov 4) 3)).alloc (.cells (ov 5) 3)).alloc (.cells (ov 6) 3)).alloc (.cells (ov 7) 3)).alloc (.cells (ov 8) 3)) 9
      exact key _ _ 9 hr (by simp only [e]) (c.alloc _) b10 (by simp only [e]; omega)
  · exact (((((((((((Fr.refl (fun _ => False) w).alloc _).alloc _).alloc _).alloc _).alloc _).alloc _).alloc _).alloc _).alloc _).alloc _).alloc _

set_option maxRecDepth 100000 in
set_option maxHeartbeats 1000000 in
theorem rorders_c (w : World) : Calls Tryz.prog 94 #[] w fun e w' => e = .returned (.slice (some ⟨w.heap.size + 10, 0, none⟩) 10 10) ∧ Ords w' (w.heap.size + 10) w.heap.size ∧ Fr (fun _ => False) w w' := by
  obtain ⟨W, h1, h2, h3⟩ := ords_new w
  have H1 := Lib.hid h1
  clear h1
  go_enter Tryz.func94, Tryz.ntmps94
  go_wp2_with fail
  go_ret
  exact ⟨rfl, by rw [H1.out] at h2; exact h2, by rw [H1.out] at h3; exact h3⟩
end Go.Proofs.YtjaocgmicdnghaaGreatDoor
