/-
  CONTRACTS of code.unit at its five types: made by program out of one text.
-/
import Derived.Test.YtokhebplmldfkaaRd3
import Derived.Defers
namespace Go.Proofs.Ytokhebplmldfkaa
set_option linter.unusedSimpArgs false
set_option linter.unusedVariables false
open Go Go.RowKit

theorem mkf (fn : Fn) (first cap : Array Value) (w : World) : (Instr.makeFunc fn first cap).run Try.prog w = .ok (.func fn first cap) w := rfl

set_option maxHeartbeats 400000 in
theorem unit64d_ok (w : World) (u : FrameMode) (b g1 g2 g3 : Nat) (v : Value) (a : Int) (h : Blk w b 49 #[v, .int .i64 a, .bool false]) (h1 : w.cell? ⟨g1, 0, none⟩ = some (.pointer (some ⟨b, 0, none⟩))) :
    CallsD Try.prog 65 #[.pointer (some ⟨g1, 0, none⟩), .pointer (some ⟨g2, 0, none⟩), .pointer (some ⟨g3, 0, none⟩)] u w fun e u' w' => u' = u ∧ e = .returned (.tuple #[]) ∧ w = w' := by
  have c2 := h.cell 2
  clear h
  go_enter_d Try.func65, Try.ntmps65
  go_wp2_with fail
  go_end0
  exact ⟨rfl, rfl⟩

set_option maxHeartbeats 400000 in
theorem unit64d_no (w : World) (u : FrameMode) (b g1 g2 g3 : Nat) (v : Value) (a s : Int) (x : Int) (h : Blk w b 49 #[v, .int .i64 a, .bool true]) (h1 : w.cell? ⟨g1, 0, none⟩ = some (.pointer (some ⟨b, 0, none⟩)))
    (h2 : w.cell? ⟨g2, 0, none⟩ = some (.int .i64 s)) (h3 : Blk w g3 29 #[.int .u64 x]) (hne : g3 ≠ b) :
    CallsD Try.prog 65 #[.pointer (some ⟨g1, 0, none⟩), .pointer (some ⟨g2, 0, none⟩), .pointer (some ⟨g3, 0, none⟩)] u w fun e u' w' => u' = u ∧ e = .returned (.tuple #[]) ∧
      w' = (w.setCell ⟨g3, 0, none⟩ (.int .u64 0)).setCell ⟨b, 1, none⟩ (.int .i64 s) := by
  have c2 := h.cell 2
  have c1 := h.cell 1
  have k1 := h.frozen 1
  have c3 := h3.cell 0
  have k3 := h3.frozen 0
  have d1 : (w.setCell ⟨g3, 0, none⟩ (.int .u64 0)).cell? ⟨b, 1, none⟩ = some (.int .i64 a) := by
    rw [World.cell?_setCell_other _ _ _ _ (by intro e; injection e with e; exact hne e)]
    simpa using c1
  clear h h3
  go_enter_d Try.func65, Try.ntmps65
  go_wp2_with fail
  go_end0
  exact ⟨rfl, rfl⟩

/-- What the unit's reading leaves, and what becomes of it. -/
def Unit64  (Res : Int → Nat → Bool → Prop) (w : World) (b : Nat) (v : Value) (l : List UInt8) (p : Nat) (e : Ending) (w' : World) : Prop :=
  ∃ x q f, Res x q f ∧ Fr (fun k => k = b) w w' ∧ ((f = false ∧ e = .returned (.int .u64 x) ∧ Rr w' b v l q false) ∨ (f = true ∧ e = .returned ((.int .u64 0)) ∧ Rr w' b v l p true))

set_option maxHeartbeats 800000 in
theorem unit64_c (w : World) (b : Nat) (v : Value) (l : List UInt8) (p K : Nat)  (caps : Array Value) (Res : Int → Nat → Bool → Prop) (h : Rr w b v l p false)
    (hcf : ∀ W, (callFunc K caps).run Try.prog W = .ok (.enter K caps) W)
    (hc : ∀ w1, Fr (fun _ => False) w w1 → Calls Try.prog K caps w1 fun e w' => ∃ x q f, Res x q f ∧ e = .returned (.int .u64 x) ∧ Rr w' b v l q f ∧ Fr (fun k => k = b) w1 w') :
    Calls Try.prog 50 #[.pointer (some ⟨b, 0, none⟩), .func (.func K) #[] caps] w (Unit64  Res w b v l p) := by
  have HC := Lib.hid hc
  have hmk := mkf
  have c1 := h.1.cell 1
  have hb : b < w.heap.size := h.1.lt
  have H := Lib.hid h
  clear h hc
  go_enter_defers Try.func50, Try.ntmps50
  go_wp2_with fail
  refine (err_c b _ v p false ?_).mono ?_
  · exact ((H.out.1.alloc _).alloc _)
  rintro e w1 ⟨rfl, rfl⟩
  go_wp2_with fail
  refine (HC.out _ ((((Fr.refl _ w).alloc _).alloc _).alloc _)).mono ?_
  rintro e w1 ⟨x, q, f, hres, rfl, h1, f1⟩
  have g1 := (((Blk.new w 36 #[.pointer (some ⟨b, 0, none⟩)]).alloc (.cells #[(.int .u64 0)] 29)).alloc (.cells #[.int .i64 (p : Int)] 3)).fr f1 (by omega)
  have g3 := ((Blk.new (w.alloc (.cells #[.pointer (some ⟨b, 0, none⟩)] 36)) 29 #[(.int .u64 0)]).alloc (.cells #[.int .i64 (p : Int)] 3)).fr f1 (by simp; omega)
  have g2 := (Blk.new ((w.alloc (.cells #[.pointer (some ⟨b, 0, none⟩)] 36)).alloc (.cells #[(.int .u64 0)] 29)) 3 #[.int .i64 (p : Int)]).fr f1 (by simp; omega)
  simp only [World.size_alloc] at g1 g2 g3
  have f0 : Fr (fun k => k = b) w w1 := ((((Fr.refl _ w).alloc _).alloc _).alloc _).trans f1 (fun _ _ h => h)
  have d1 := g1.cell 0
  have d3 := g3.cell 0
  have k3 := g3.frozen 0
  have HR := Lib.hid hres
  have G1 := Lib.hid g1
  have G2 := Lib.hid g2
  have G3 := Lib.hid g3
  have H1 := Lib.hid h1
  have F0 := Lib.hid f0
  clear g1 g2 g3 h1 f0 f1 hres
  go_wp2_with fail
  have hne1 : w.heap.size + 1 ≠ b := by omega
  have g1s := G1.out.far (p := ⟨w.heap.size + 1, 0, none⟩) (by simp) (.int .u64 x)
  have g2s := G2.out.far (p := ⟨w.heap.size + 1, 0, none⟩) (by simp) (.int .u64 x)
  have g3s := G3.out.set_ 0 (.int .u64 x)
  have r1s := H1.out.1.far (p := ⟨w.heap.size + 1, 0, none⟩) (Ne.symm hne1) (.int .u64 x)
  have f1s : Fr (fun k => k = b) w (w1.setCell ⟨w.heap.size + 1, 0, none⟩ (.int .u64 x)) := F0.out.setCell (fun h => by have : w.heap.size + 1 < w.heap.size := h; omega) _
  have o1s : (w1.setCell ⟨w.heap.size + 1, 0, none⟩ (.int .u64 x)).ownsRow 0 5 1 v l.length (bv l) :=
    own_fr H1.out.2.1 ((Fr.refl (fun k => k = w.heap.size + 1) w1).setCell (fun _ => rfl) _) (fun k hk e => by
      subst e
      exact absurd (H.out.2.1.lt _ hk).2 (by omega))
  generalize w1.setCell ⟨w.heap.size + 1, 0, none⟩ (.int .u64 x) = w2 at *
  refine leaves_cons (f := 65) (args := #[.pointer (some ⟨w.heap.size, 0, none⟩), .pointer (some ⟨w.heap.size + 1 + 1, 0, none⟩), .pointer (some ⟨w.heap.size + 1, 0, none⟩)]) (by simp) (by simp [go_sem]) ?_
  cases f with
  | false =>
    refine (unit64d_ok w2 .returning b _ _ _ v q r1s (by rw [g1s.cell]; rfl)).mono ?_
    rintro e u' w3 ⟨rfl, rfl, rfl⟩
    have e3 := g3s.cell 0
    simp at e3
    simp [Leaves, settle, results, Try.results50, go_sem, e3]
    exact ⟨x, q, false, HR.out, f1s, .inl ⟨rfl, rfl, ⟨r1s, o1s, H1.out.2.2⟩⟩⟩
  | true =>
    refine (unit64d_no w2 .returning b _ _ _ v q p x r1s (by rw [g1s.cell]; rfl) (by rw [g2s.cell]; rfl) (by simpa using g3s) hne1).mono ?_
    rintro e u' w3 ⟨rfl, rfl, rfl⟩
    have g4 := ((g3s.set_ 0 (.int .u64 0)).far (p := ⟨b, 1, none⟩) hne1 (.int .i64 (p : Int)))
    have e3 := g4.cell 0
    simp at e3
    simp [Leaves, settle, results, Try.results50, go_sem, e3]
    have r2 := (r1s.far (p := ⟨w.heap.size + 1, 0, none⟩) (Ne.symm hne1) (.int .u64 0)).set_ 1 (.int .i64 (p : Int))
    have hp := H.out.2.2.1
    refine ⟨x, q, true, HR.out, ?_, .inr ⟨rfl, rfl, by simpa using r2, ?_, hp, H.out.2.2.2⟩⟩
    · exact (f1s.setCell (fun h => by have : w.heap.size + 1 < w.heap.size := h; omega) _).setCell (fun _ => rfl) _
    · exact own_fr o1s (((Fr.refl (fun k => k = b ∨ k = w.heap.size + 1) w2).setCell (fun _ => .inr rfl) _).setCell (fun _ => .inl rfl) _) (fun k hk e => by
        rcases e with rfl | rfl
        · exact own_blk_ne o1s r1s (by decide) hk
        · exact absurd (H.out.2.1.lt _ hk).2 (by omega))

set_option maxHeartbeats 400000 in
theorem unit32d_ok (w : World) (u : FrameMode) (b g1 g2 g3 : Nat) (v : Value) (a : Int) (h : Blk w b 49 #[v, .int .i64 a, .bool false]) (h1 : w.cell? ⟨g1, 0, none⟩ = some (.pointer (some ⟨b, 0, none⟩))) :
    CallsD Try.prog 68 #[.pointer (some ⟨g1, 0, none⟩), .pointer (some ⟨g2, 0, none⟩), .pointer (some ⟨g3, 0, none⟩)] u w fun e u' w' => u' = u ∧ e = .returned (.tuple #[]) ∧ w = w' := by
  have c2 := h.cell 2
  clear h
  go_enter_d Try.func68, Try.ntmps68
  go_wp2_with fail
  go_end0
  exact ⟨rfl, rfl⟩

set_option maxHeartbeats 400000 in
theorem unit32d_no (w : World) (u : FrameMode) (b g1 g2 g3 : Nat) (v : Value) (a s : Int) (x : Int) (h : Blk w b 49 #[v, .int .i64 a, .bool true]) (h1 : w.cell? ⟨g1, 0, none⟩ = some (.pointer (some ⟨b, 0, none⟩)))
    (h2 : w.cell? ⟨g2, 0, none⟩ = some (.int .i64 s)) (h3 : Blk w g3 51 #[.int .u32 x]) (hne : g3 ≠ b) :
    CallsD Try.prog 68 #[.pointer (some ⟨g1, 0, none⟩), .pointer (some ⟨g2, 0, none⟩), .pointer (some ⟨g3, 0, none⟩)] u w fun e u' w' => u' = u ∧ e = .returned (.tuple #[]) ∧
      w' = (w.setCell ⟨g3, 0, none⟩ (.int .u32 0)).setCell ⟨b, 1, none⟩ (.int .i64 s) := by
  have c2 := h.cell 2
  have c1 := h.cell 1
  have k1 := h.frozen 1
  have c3 := h3.cell 0
  have k3 := h3.frozen 0
  have d1 : (w.setCell ⟨g3, 0, none⟩ (.int .u32 0)).cell? ⟨b, 1, none⟩ = some (.int .i64 a) := by
    rw [World.cell?_setCell_other _ _ _ _ (by intro e; injection e with e; exact hne e)]
    simpa using c1
  clear h h3
  go_enter_d Try.func68, Try.ntmps68
  go_wp2_with fail
  go_end0
  exact ⟨rfl, rfl⟩

/-- What the unit's reading leaves, and what becomes of it. -/
def Unit32  (Res : Int → Nat → Bool → Prop) (w : World) (b : Nat) (v : Value) (l : List UInt8) (p : Nat) (e : Ending) (w' : World) : Prop :=
  ∃ x q f, Res x q f ∧ Fr (fun k => k = b) w w' ∧ ((f = false ∧ e = .returned (.int .u32 x) ∧ Rr w' b v l q false) ∨ (f = true ∧ e = .returned ((.int .u32 0)) ∧ Rr w' b v l p true))

set_option maxHeartbeats 800000 in
theorem unit32_c (w : World) (b : Nat) (v : Value) (l : List UInt8) (p K : Nat)  (caps : Array Value) (Res : Int → Nat → Bool → Prop) (h : Rr w b v l p false)
    (hcf : ∀ W, (callFunc K caps).run Try.prog W = .ok (.enter K caps) W)
    (hc : ∀ w1, Fr (fun _ => False) w w1 → Calls Try.prog K caps w1 fun e w' => ∃ x q f, Res x q f ∧ e = .returned (.int .u32 x) ∧ Rr w' b v l q f ∧ Fr (fun k => k = b) w1 w') :
    Calls Try.prog 59 #[.pointer (some ⟨b, 0, none⟩), .func (.func K) #[] caps] w (Unit32  Res w b v l p) := by
  have HC := Lib.hid hc
  have hmk := mkf
  have c1 := h.1.cell 1
  have hb : b < w.heap.size := h.1.lt
  have H := Lib.hid h
  clear h hc
  go_enter_defers Try.func59, Try.ntmps59
  go_wp2_with fail
  refine (err_c b _ v p false ?_).mono ?_
  · exact ((H.out.1.alloc _).alloc _)
  rintro e w1 ⟨rfl, rfl⟩
  go_wp2_with fail
  refine (HC.out _ ((((Fr.refl _ w).alloc _).alloc _).alloc _)).mono ?_
  rintro e w1 ⟨x, q, f, hres, rfl, h1, f1⟩
  have g1 := (((Blk.new w 36 #[.pointer (some ⟨b, 0, none⟩)]).alloc (.cells #[(.int .u32 0)] 51)).alloc (.cells #[.int .i64 (p : Int)] 3)).fr f1 (by omega)
  have g3 := ((Blk.new (w.alloc (.cells #[.pointer (some ⟨b, 0, none⟩)] 36)) 51 #[(.int .u32 0)]).alloc (.cells #[.int .i64 (p : Int)] 3)).fr f1 (by simp; omega)
  have g2 := (Blk.new ((w.alloc (.cells #[.pointer (some ⟨b, 0, none⟩)] 36)).alloc (.cells #[(.int .u32 0)] 51)) 3 #[.int .i64 (p : Int)]).fr f1 (by simp; omega)
  simp only [World.size_alloc] at g1 g2 g3
  have f0 : Fr (fun k => k = b) w w1 := ((((Fr.refl _ w).alloc _).alloc _).alloc _).trans f1 (fun _ _ h => h)
  have d1 := g1.cell 0
  have d3 := g3.cell 0
  have k3 := g3.frozen 0
  have HR := Lib.hid hres
  have G1 := Lib.hid g1
  have G2 := Lib.hid g2
  have G3 := Lib.hid g3
  have H1 := Lib.hid h1
  have F0 := Lib.hid f0
  clear g1 g2 g3 h1 f0 f1 hres
  go_wp2_with fail
  have hne1 : w.heap.size + 1 ≠ b := by omega
  have g1s := G1.out.far (p := ⟨w.heap.size + 1, 0, none⟩) (by simp) (.int .u32 x)
  have g2s := G2.out.far (p := ⟨w.heap.size + 1, 0, none⟩) (by simp) (.int .u32 x)
  have g3s := G3.out.set_ 0 (.int .u32 x)
  have r1s := H1.out.1.far (p := ⟨w.heap.size + 1, 0, none⟩) (Ne.symm hne1) (.int .u32 x)
  have f1s : Fr (fun k => k = b) w (w1.setCell ⟨w.heap.size + 1, 0, none⟩ (.int .u32 x)) := F0.out.setCell (fun h => by have : w.heap.size + 1 < w.heap.size := h; omega) _
  have o1s : (w1.setCell ⟨w.heap.size + 1, 0, none⟩ (.int .u32 x)).ownsRow 0 5 1 v l.length (bv l) :=
    own_fr H1.out.2.1 ((Fr.refl (fun k => k = w.heap.size + 1) w1).setCell (fun _ => rfl) _) (fun k hk e => by
      subst e
      exact absurd (H.out.2.1.lt _ hk).2 (by omega))
  generalize w1.setCell ⟨w.heap.size + 1, 0, none⟩ (.int .u32 x) = w2 at *
  refine leaves_cons (f := 68) (args := #[.pointer (some ⟨w.heap.size, 0, none⟩), .pointer (some ⟨w.heap.size + 1 + 1, 0, none⟩), .pointer (some ⟨w.heap.size + 1, 0, none⟩)]) (by simp) (by simp [go_sem]) ?_
  cases f with
  | false =>
    refine (unit32d_ok w2 .returning b _ _ _ v q r1s (by rw [g1s.cell]; rfl)).mono ?_
    rintro e u' w3 ⟨rfl, rfl, rfl⟩
    have e3 := g3s.cell 0
    simp at e3
    simp [Leaves, settle, results, Try.results59, go_sem, e3]
    exact ⟨x, q, false, HR.out, f1s, .inl ⟨rfl, rfl, ⟨r1s, o1s, H1.out.2.2⟩⟩⟩
  | true =>
    refine (unit32d_no w2 .returning b _ _ _ v q p x r1s (by rw [g1s.cell]; rfl) (by rw [g2s.cell]; rfl) (by simpa using g3s) hne1).mono ?_
    rintro e u' w3 ⟨rfl, rfl, rfl⟩
    have g4 := ((g3s.set_ 0 (.int .u32 0)).far (p := ⟨b, 1, none⟩) hne1 (.int .i64 (p : Int)))
    have e3 := g4.cell 0
    simp at e3
    simp [Leaves, settle, results, Try.results59, go_sem, e3]
    have r2 := (r1s.far (p := ⟨w.heap.size + 1, 0, none⟩) (Ne.symm hne1) (.int .u32 0)).set_ 1 (.int .i64 (p : Int))
    have hp := H.out.2.2.1
    refine ⟨x, q, true, HR.out, ?_, .inr ⟨rfl, rfl, by simpa using r2, ?_, hp, H.out.2.2.2⟩⟩
    · exact (f1s.setCell (fun h => by have : w.heap.size + 1 < w.heap.size := h; omega) _).setCell (fun _ => rfl) _
    · exact own_fr o1s (((Fr.refl (fun k => k = b ∨ k = w.heap.size + 1) w2).setCell (fun _ => .inr rfl) _).setCell (fun _ => .inl rfl) _) (fun k hk e => by
        rcases e with rfl | rfl
        · exact own_blk_ne o1s r1s (by decide) hk
        · exact absurd (H.out.2.1.lt _ hk).2 (by omega))

set_option maxHeartbeats 400000 in
theorem unit8d_ok (w : World) (u : FrameMode) (b g1 g2 g3 : Nat) (v : Value) (a : Int) (h : Blk w b 49 #[v, .int .i64 a, .bool false]) (h1 : w.cell? ⟨g1, 0, none⟩ = some (.pointer (some ⟨b, 0, none⟩))) :
    CallsD Try.prog 67 #[.pointer (some ⟨g1, 0, none⟩), .pointer (some ⟨g2, 0, none⟩), .pointer (some ⟨g3, 0, none⟩)] u w fun e u' w' => u' = u ∧ e = .returned (.tuple #[]) ∧ w = w' := by
  have c2 := h.cell 2
  clear h
  go_enter_d Try.func67, Try.ntmps67
  go_wp2_with fail
  go_end0
  exact ⟨rfl, rfl⟩

set_option maxHeartbeats 400000 in
theorem unit8d_no (w : World) (u : FrameMode) (b g1 g2 g3 : Nat) (v : Value) (a s : Int) (x : Int) (h : Blk w b 49 #[v, .int .i64 a, .bool true]) (h1 : w.cell? ⟨g1, 0, none⟩ = some (.pointer (some ⟨b, 0, none⟩)))
    (h2 : w.cell? ⟨g2, 0, none⟩ = some (.int .i64 s)) (h3 : Blk w g3 5 #[.int .u8 x]) (hne : g3 ≠ b) :
    CallsD Try.prog 67 #[.pointer (some ⟨g1, 0, none⟩), .pointer (some ⟨g2, 0, none⟩), .pointer (some ⟨g3, 0, none⟩)] u w fun e u' w' => u' = u ∧ e = .returned (.tuple #[]) ∧
      w' = (w.setCell ⟨g3, 0, none⟩ (.int .u8 0)).setCell ⟨b, 1, none⟩ (.int .i64 s) := by
  have c2 := h.cell 2
  have c1 := h.cell 1
  have k1 := h.frozen 1
  have c3 := h3.cell 0
  have k3 := h3.frozen 0
  have d1 : (w.setCell ⟨g3, 0, none⟩ (.int .u8 0)).cell? ⟨b, 1, none⟩ = some (.int .i64 a) := by
    rw [World.cell?_setCell_other _ _ _ _ (by intro e; injection e with e; exact hne e)]
    simpa using c1
  clear h h3
  go_enter_d Try.func67, Try.ntmps67
  go_wp2_with fail
  go_end0
  exact ⟨rfl, rfl⟩

/-- What the unit's reading leaves, and what becomes of it. -/
def Unit8  (Res : Int → Nat → Bool → Prop) (w : World) (b : Nat) (v : Value) (l : List UInt8) (p : Nat) (e : Ending) (w' : World) : Prop :=
  ∃ x q f, Res x q f ∧ Fr (fun k => k = b) w w' ∧ ((f = false ∧ e = .returned (.int .u8 x) ∧ Rr w' b v l q false) ∨ (f = true ∧ e = .returned ((.int .u8 0)) ∧ Rr w' b v l p true))

set_option maxHeartbeats 800000 in
theorem unit8_c (w : World) (b : Nat) (v : Value) (l : List UInt8) (p K : Nat)  (caps : Array Value) (Res : Int → Nat → Bool → Prop) (h : Rr w b v l p false)
    (hcf : ∀ W, (callFunc K caps).run Try.prog W = .ok (.enter K caps) W)
    (hc : ∀ w1, Fr (fun _ => False) w w1 → Calls Try.prog K caps w1 fun e w' => ∃ x q f, Res x q f ∧ e = .returned (.int .u8 x) ∧ Rr w' b v l q f ∧ Fr (fun k => k = b) w1 w') :
    Calls Try.prog 56 #[.pointer (some ⟨b, 0, none⟩), .func (.func K) #[] caps] w (Unit8  Res w b v l p) := by
  have HC := Lib.hid hc
  have hmk := mkf
  have c1 := h.1.cell 1
  have hb : b < w.heap.size := h.1.lt
  have H := Lib.hid h
  clear h hc
  go_enter_defers Try.func56, Try.ntmps56
  go_wp2_with fail
  refine (err_c b _ v p false ?_).mono ?_
  · exact ((H.out.1.alloc _).alloc _)
  rintro e w1 ⟨rfl, rfl⟩
  go_wp2_with fail
  refine (HC.out _ ((((Fr.refl _ w).alloc _).alloc _).alloc _)).mono ?_
  rintro e w1 ⟨x, q, f, hres, rfl, h1, f1⟩
  have g1 := (((Blk.new w 36 #[.pointer (some ⟨b, 0, none⟩)]).alloc (.cells #[(.int .u8 0)] 5)).alloc (.cells #[.int .i64 (p : Int)] 3)).fr f1 (by omega)
  have g3 := ((Blk.new (w.alloc (.cells #[.pointer (some ⟨b, 0, none⟩)] 36)) 5 #[(.int .u8 0)]).alloc (.cells #[.int .i64 (p : Int)] 3)).fr f1 (by simp; omega)
  have g2 := (Blk.new ((w.alloc (.cells #[.pointer (some ⟨b, 0, none⟩)] 36)).alloc (.cells #[(.int .u8 0)] 5)) 3 #[.int .i64 (p : Int)]).fr f1 (by simp; omega)
  simp only [World.size_alloc] at g1 g2 g3
  have f0 : Fr (fun k => k = b) w w1 := ((((Fr.refl _ w).alloc _).alloc _).alloc _).trans f1 (fun _ _ h => h)
  have d1 := g1.cell 0
  have d3 := g3.cell 0
  have k3 := g3.frozen 0
  have HR := Lib.hid hres
  have G1 := Lib.hid g1
  have G2 := Lib.hid g2
  have G3 := Lib.hid g3
  have H1 := Lib.hid h1
  have F0 := Lib.hid f0
  clear g1 g2 g3 h1 f0 f1 hres
  go_wp2_with fail
  have hne1 : w.heap.size + 1 ≠ b := by omega
  have g1s := G1.out.far (p := ⟨w.heap.size + 1, 0, none⟩) (by simp) (.int .u8 x)
  have g2s := G2.out.far (p := ⟨w.heap.size + 1, 0, none⟩) (by simp) (.int .u8 x)
  have g3s := G3.out.set_ 0 (.int .u8 x)
  have r1s := H1.out.1.far (p := ⟨w.heap.size + 1, 0, none⟩) (Ne.symm hne1) (.int .u8 x)
  have f1s : Fr (fun k => k = b) w (w1.setCell ⟨w.heap.size + 1, 0, none⟩ (.int .u8 x)) := F0.out.setCell (fun h => by have : w.heap.size + 1 < w.heap.size := h; omega) _
  have o1s : (w1.setCell ⟨w.heap.size + 1, 0, none⟩ (.int .u8 x)).ownsRow 0 5 1 v l.length (bv l) :=
    own_fr H1.out.2.1 ((Fr.refl (fun k => k = w.heap.size + 1) w1).setCell (fun _ => rfl) _) (fun k hk e => by
      subst e
      exact absurd (H.out.2.1.lt _ hk).2 (by omega))
  generalize w1.setCell ⟨w.heap.size + 1, 0, none⟩ (.int .u8 x) = w2 at *
  refine leaves_cons (f := 67) (args := #[.pointer (some ⟨w.heap.size, 0, none⟩), .pointer (some ⟨w.heap.size + 1 + 1, 0, none⟩), .pointer (some ⟨w.heap.size + 1, 0, none⟩)]) (by simp) (by simp [go_sem]) ?_
  cases f with
  | false =>
    refine (unit8d_ok w2 .returning b _ _ _ v q r1s (by rw [g1s.cell]; rfl)).mono ?_
    rintro e u' w3 ⟨rfl, rfl, rfl⟩
    have e3 := g3s.cell 0
    simp at e3
    simp [Leaves, settle, results, Try.results56, go_sem, e3]
    exact ⟨x, q, false, HR.out, f1s, .inl ⟨rfl, rfl, ⟨r1s, o1s, H1.out.2.2⟩⟩⟩
  | true =>
    refine (unit8d_no w2 .returning b _ _ _ v q p x r1s (by rw [g1s.cell]; rfl) (by rw [g2s.cell]; rfl) (by simpa using g3s) hne1).mono ?_
    rintro e u' w3 ⟨rfl, rfl, rfl⟩
    have g4 := ((g3s.set_ 0 (.int .u8 0)).far (p := ⟨b, 1, none⟩) hne1 (.int .i64 (p : Int)))
    have e3 := g4.cell 0
    simp at e3
    simp [Leaves, settle, results, Try.results56, go_sem, e3]
    have r2 := (r1s.far (p := ⟨w.heap.size + 1, 0, none⟩) (Ne.symm hne1) (.int .u8 0)).set_ 1 (.int .i64 (p : Int))
    have hp := H.out.2.2.1
    refine ⟨x, q, true, HR.out, ?_, .inr ⟨rfl, rfl, by simpa using r2, ?_, hp, H.out.2.2.2⟩⟩
    · exact (f1s.setCell (fun h => by have : w.heap.size + 1 < w.heap.size := h; omega) _).setCell (fun _ => rfl) _
    · exact own_fr o1s (((Fr.refl (fun k => k = b ∨ k = w.heap.size + 1) w2).setCell (fun _ => .inr rfl) _).setCell (fun _ => .inl rfl) _) (fun k hk e => by
        rcases e with rfl | rfl
        · exact own_blk_ne o1s r1s (by decide) hk
        · exact absurd (H.out.2.1.lt _ hk).2 (by omega))

set_option maxHeartbeats 400000 in
theorem unitSd_ok (w : World) (u : FrameMode) (b g1 g2 g3 : Nat) (v : Value) (a : Int) (h : Blk w b 49 #[v, .int .i64 a, .bool false]) (h1 : w.cell? ⟨g1, 0, none⟩ = some (.pointer (some ⟨b, 0, none⟩))) :
    CallsD Try.prog 66 #[.pointer (some ⟨g1, 0, none⟩), .pointer (some ⟨g2, 0, none⟩), .pointer (some ⟨g3, 0, none⟩)] u w fun e u' w' => u' = u ∧ e = .returned (.tuple #[]) ∧ w = w' := by
  have c2 := h.cell 2
  clear h
  go_enter_d Try.func66, Try.ntmps66
  go_wp2_with fail
  go_end0
  exact ⟨rfl, rfl⟩

set_option maxHeartbeats 400000 in
theorem unitSd_no (w : World) (u : FrameMode) (b g1 g2 g3 : Nat) (v : Value) (a s : Int) (x : ByteArray) (h : Blk w b 49 #[v, .int .i64 a, .bool true]) (h1 : w.cell? ⟨g1, 0, none⟩ = some (.pointer (some ⟨b, 0, none⟩)))
    (h2 : w.cell? ⟨g2, 0, none⟩ = some (.int .i64 s)) (h3 : Blk w g3 9 #[.string x]) (hne : g3 ≠ b) :
    CallsD Try.prog 66 #[.pointer (some ⟨g1, 0, none⟩), .pointer (some ⟨g2, 0, none⟩), .pointer (some ⟨g3, 0, none⟩)] u w fun e u' w' => u' = u ∧ e = .returned (.tuple #[]) ∧
      w' = (w.setCell ⟨g3, 0, none⟩ (.string ⟨#[]⟩)).setCell ⟨b, 1, none⟩ (.int .i64 s) := by
  have c2 := h.cell 2
  have c1 := h.cell 1
  have k1 := h.frozen 1
  have c3 := h3.cell 0
  have k3 := h3.frozen 0
  have d1 : (w.setCell ⟨g3, 0, none⟩ (.string ⟨#[]⟩)).cell? ⟨b, 1, none⟩ = some (.int .i64 a) := by
    rw [World.cell?_setCell_other _ _ _ _ (by intro e; injection e with e; exact hne e)]
    simpa using c1
  clear h h3
  go_enter_d Try.func66, Try.ntmps66
  go_wp2_with fail
  go_end0
  exact ⟨rfl, rfl⟩

/-- What the unit's reading leaves, and what becomes of it. -/
def UnitS  (Res : ByteArray → Nat → Bool → Prop) (w : World) (b : Nat) (v : Value) (l : List UInt8) (p : Nat) (e : Ending) (w' : World) : Prop :=
  ∃ x q f, Res x q f ∧ Fr (fun k => k = b) w w' ∧ ((f = false ∧ e = .returned (.string x) ∧ Rr w' b v l q false) ∨ (f = true ∧ e = .returned ((.string ⟨#[]⟩)) ∧ Rr w' b v l p true))

set_option maxHeartbeats 800000 in
theorem unitS_c (w : World) (b : Nat) (v : Value) (l : List UInt8) (p K : Nat)  (caps : Array Value) (Res : ByteArray → Nat → Bool → Prop) (h : Rr w b v l p false)
    (hcf : ∀ W, (callFunc K caps).run Try.prog W = .ok (.enter K caps) W)
    (hc : ∀ w1, Fr (fun _ => False) w w1 → Calls Try.prog K caps w1 fun e w' => ∃ x q f, Res x q f ∧ e = .returned (.string x) ∧ Rr w' b v l q f ∧ Fr (fun k => k = b) w1 w') :
    Calls Try.prog 53 #[.pointer (some ⟨b, 0, none⟩), .func (.func K) #[] caps] w (UnitS  Res w b v l p) := by
  have HC := Lib.hid hc
  have hmk := mkf
  have c1 := h.1.cell 1
  have hb : b < w.heap.size := h.1.lt
  have H := Lib.hid h
  clear h hc
  go_enter_defers Try.func53, Try.ntmps53
  go_wp2_with fail
  refine (err_c b _ v p false ?_).mono ?_
  · exact ((H.out.1.alloc _).alloc _)
  rintro e w1 ⟨rfl, rfl⟩
  go_wp2_with fail
  refine (HC.out _ ((((Fr.refl _ w).alloc _).alloc _).alloc _)).mono ?_
  rintro e w1 ⟨x, q, f, hres, rfl, h1, f1⟩
  have g1 := (((Blk.new w 36 #[.pointer (some ⟨b, 0, none⟩)]).alloc (.cells #[(.string ⟨#[]⟩)] 9)).alloc (.cells #[.int .i64 (p : Int)] 3)).fr f1 (by omega)
  have g3 := ((Blk.new (w.alloc (.cells #[.pointer (some ⟨b, 0, none⟩)] 36)) 9 #[(.string ⟨#[]⟩)]).alloc (.cells #[.int .i64 (p : Int)] 3)).fr f1 (by simp; omega)
  have g2 := (Blk.new ((w.alloc (.cells #[.pointer (some ⟨b, 0, none⟩)] 36)).alloc (.cells #[(.string ⟨#[]⟩)] 9)) 3 #[.int .i64 (p : Int)]).fr f1 (by simp; omega)
  simp only [World.size_alloc] at g1 g2 g3
  have f0 : Fr (fun k => k = b) w w1 := ((((Fr.refl _ w).alloc _).alloc _).alloc _).trans f1 (fun _ _ h => h)
  have d1 := g1.cell 0
  have d3 := g3.cell 0
  have k3 := g3.frozen 0
  have HR := Lib.hid hres
  have G1 := Lib.hid g1
  have G2 := Lib.hid g2
  have G3 := Lib.hid g3
  have H1 := Lib.hid h1
  have F0 := Lib.hid f0
  clear g1 g2 g3 h1 f0 f1 hres
  go_wp2_with fail
  have hne1 : w.heap.size + 1 ≠ b := by omega
  have g1s := G1.out.far (p := ⟨w.heap.size + 1, 0, none⟩) (by simp) (.string x)
  have g2s := G2.out.far (p := ⟨w.heap.size + 1, 0, none⟩) (by simp) (.string x)
  have g3s := G3.out.set_ 0 (.string x)
  have r1s := H1.out.1.far (p := ⟨w.heap.size + 1, 0, none⟩) (Ne.symm hne1) (.string x)
  have f1s : Fr (fun k => k = b) w (w1.setCell ⟨w.heap.size + 1, 0, none⟩ (.string x)) := F0.out.setCell (fun h => by have : w.heap.size + 1 < w.heap.size := h; omega) _
  have o1s : (w1.setCell ⟨w.heap.size + 1, 0, none⟩ (.string x)).ownsRow 0 5 1 v l.length (bv l) :=
    own_fr H1.out.2.1 ((Fr.refl (fun k => k = w.heap.size + 1) w1).setCell (fun _ => rfl) _) (fun k hk e => by
      subst e
      exact absurd (H.out.2.1.lt _ hk).2 (by omega))
  generalize w1.setCell ⟨w.heap.size + 1, 0, none⟩ (.string x) = w2 at *
  refine leaves_cons (f := 66) (args := #[.pointer (some ⟨w.heap.size, 0, none⟩), .pointer (some ⟨w.heap.size + 1 + 1, 0, none⟩), .pointer (some ⟨w.heap.size + 1, 0, none⟩)]) (by simp) (by simp [go_sem]) ?_
  cases f with
  | false =>
    refine (unitSd_ok w2 .returning b _ _ _ v q r1s (by rw [g1s.cell]; rfl)).mono ?_
    rintro e u' w3 ⟨rfl, rfl, rfl⟩
    have e3 := g3s.cell 0
    simp at e3
    simp [Leaves, settle, results, Try.results53, go_sem, e3]
    exact ⟨x, q, false, HR.out, f1s, .inl ⟨rfl, rfl, ⟨r1s, o1s, H1.out.2.2⟩⟩⟩
  | true =>
    refine (unitSd_no w2 .returning b _ _ _ v q p x r1s (by rw [g1s.cell]; rfl) (by rw [g2s.cell]; rfl) (by simpa using g3s) hne1).mono ?_
    rintro e u' w3 ⟨rfl, rfl, rfl⟩
    have g4 := ((g3s.set_ 0 (.string ⟨#[]⟩)).far (p := ⟨b, 1, none⟩) hne1 (.int .i64 (p : Int)))
    have e3 := g4.cell 0
    simp at e3
    simp [Leaves, settle, results, Try.results53, go_sem, e3]
    have r2 := (r1s.far (p := ⟨w.heap.size + 1, 0, none⟩) (Ne.symm hne1) (.string ⟨#[]⟩)).set_ 1 (.int .i64 (p : Int))
    have hp := H.out.2.2.1
    refine ⟨x, q, true, HR.out, ?_, .inr ⟨rfl, rfl, by simpa using r2, ?_, hp, H.out.2.2.2⟩⟩
    · exact (f1s.setCell (fun h => by have : w.heap.size + 1 < w.heap.size := h; omega) _).setCell (fun _ => rfl) _
    · exact own_fr o1s (((Fr.refl (fun k => k = b ∨ k = w.heap.size + 1) w2).setCell (fun _ => .inr rfl) _).setCell (fun _ => .inl rfl) _) (fun k hk e => by
        rcases e with rfl | rfl
        · exact own_blk_ne o1s r1s (by decide) hk
        · exact absurd (H.out.2.1.lt _ hk).2 (by omega))

set_option maxHeartbeats 400000 in
theorem unitBd_ok (w : World) (u : FrameMode) (b g1 g2 g3 : Nat) (v : Value) (a : Int) (h : Blk w b 49 #[v, .int .i64 a, .bool false]) (h1 : w.cell? ⟨g1, 0, none⟩ = some (.pointer (some ⟨b, 0, none⟩))) :
    CallsD Try.prog 69 #[.pointer (some ⟨g1, 0, none⟩), .pointer (some ⟨g2, 0, none⟩), .pointer (some ⟨g3, 0, none⟩)] u w fun e u' w' => u' = u ∧ e = .returned (.tuple #[]) ∧ w = w' := by
  have c2 := h.cell 2
  clear h
  go_enter_d Try.func69, Try.ntmps69
  go_wp2_with fail
  go_end0
  exact ⟨rfl, rfl⟩

set_option maxHeartbeats 400000 in
theorem unitBd_no (w : World) (u : FrameMode) (b g1 g2 g3 : Nat) (v : Value) (a s : Int) (A : Option Addr) (n c : Nat) (h : Blk w b 49 #[v, .int .i64 a, .bool true]) (h1 : w.cell? ⟨g1, 0, none⟩ = some (.pointer (some ⟨b, 0, none⟩)))
    (h2 : w.cell? ⟨g2, 0, none⟩ = some (.int .i64 s)) (h3 : Blk w g3 27 #[.slice A n c]) (hne : g3 ≠ b) :
    CallsD Try.prog 69 #[.pointer (some ⟨g1, 0, none⟩), .pointer (some ⟨g2, 0, none⟩), .pointer (some ⟨g3, 0, none⟩)] u w fun e u' w' => u' = u ∧ e = .returned (.tuple #[]) ∧
      w' = (w.setCell ⟨g3, 0, none⟩ (.slice none 0 0)).setCell ⟨b, 1, none⟩ (.int .i64 s) := by
  have c2 := h.cell 2
  have c1 := h.cell 1
  have k1 := h.frozen 1
  have c3 := h3.cell 0
  have k3 := h3.frozen 0
  have d1 : (w.setCell ⟨g3, 0, none⟩ (.slice none 0 0)).cell? ⟨b, 1, none⟩ = some (.int .i64 a) := by
    rw [World.cell?_setCell_other _ _ _ _ (by intro e; injection e with e; exact hne e)]
    simpa using c1
  clear h h3
  go_enter_d Try.func69, Try.ntmps69
  go_wp2_with fail
  go_end0
  exact ⟨rfl, rfl⟩

/-- What the unit's reading leaves, and what becomes of it. -/
def UnitB (M : List UInt8) (Res : Option Addr → Nat → Nat → Nat → Bool → Prop) (w : World) (b : Nat) (v : Value) (l : List UInt8) (p : Nat) (e : Ending) (w' : World) : Prop :=
  ∃ A n c q f, Res A n c q f ∧ Fr (fun k => k = b) w w' ∧ ((f = false ∧ e = .returned (.slice A n c) ∧ Rr w' b v l q false ∧ w'.ownsRow w.heap.size 5 1 (.slice A n c) M.length (bv M) ∧ n = M.length) ∨ (f = true ∧ e = .returned ((.slice none 0 0)) ∧ Rr w' b v l p true))

set_option maxHeartbeats 800000 in
theorem unitB_c (w : World) (b : Nat) (v : Value) (l : List UInt8) (p K : Nat) (M : List UInt8) (caps : Array Value) (Res : Option Addr → Nat → Nat → Nat → Bool → Prop) (h : Rr w b v l p false)
    (hcf : ∀ W, (callFunc K caps).run Try.prog W = .ok (.enter K caps) W)
    (hc : ∀ w1, Fr (fun _ => False) w w1 → Calls Try.prog K caps w1 fun e w' => ∃ A n c q f, Res A n c q f ∧ e = .returned (.slice A n c) ∧ Rr w' b v l q f ∧ Fr (fun k => k = b) w1 w' ∧ (f = false → w'.ownsRow w1.heap.size 5 1 (.slice A n c) M.length (bv M) ∧ n = M.length)) :
    Calls Try.prog 61 #[.pointer (some ⟨b, 0, none⟩), .func (.func K) #[] caps] w (UnitB M Res w b v l p) := by
  have HC := Lib.hid hc
  have hmk := mkf
  have c1 := h.1.cell 1
  have hb : b < w.heap.size := h.1.lt
  have H := Lib.hid h
  clear h hc
  go_enter_defers Try.func61, Try.ntmps61
  go_wp2_with fail
  refine (err_c b _ v p false ?_).mono ?_
  · exact ((H.out.1.alloc _).alloc _)
  rintro e w1 ⟨rfl, rfl⟩
  go_wp2_with fail
  refine (HC.out _ ((((Fr.refl _ w).alloc _).alloc _).alloc _)).mono ?_
  rintro e w1 ⟨A, n, c, q, f, hres, rfl, h1, f1, om⟩
  have g1 := (((Blk.new w 36 #[.pointer (some ⟨b, 0, none⟩)]).alloc (.cells #[(.slice none 0 0)] 27)).alloc (.cells #[.int .i64 (p : Int)] 3)).fr f1 (by omega)
  have g3 := ((Blk.new (w.alloc (.cells #[.pointer (some ⟨b, 0, none⟩)] 36)) 27 #[(.slice none 0 0)]).alloc (.cells #[.int .i64 (p : Int)] 3)).fr f1 (by simp; omega)
  have g2 := (Blk.new ((w.alloc (.cells #[.pointer (some ⟨b, 0, none⟩)] 36)).alloc (.cells #[(.slice none 0 0)] 27)) 3 #[.int .i64 (p : Int)]).fr f1 (by simp; omega)
  simp only [World.size_alloc] at g1 g2 g3
  have f0 : Fr (fun k => k = b) w w1 := ((((Fr.refl _ w).alloc _).alloc _).alloc _).trans f1 (fun _ _ h => h)
  have d1 := g1.cell 0
  have d3 := g3.cell 0
  have k3 := g3.frozen 0
  have HR := Lib.hid hres
  have G1 := Lib.hid g1
  have G2 := Lib.hid g2
  have G3 := Lib.hid g3
  have H1 := Lib.hid h1
  have F0 := Lib.hid f0
  clear g1 g2 g3 h1 f0 f1 hres
  have OM := Lib.hid om
  clear om
  go_wp2_with fail
  have hne1 : w.heap.size + 1 ≠ b := by omega
  have g1s := G1.out.far (p := ⟨w.heap.size + 1, 0, none⟩) (by simp) (.slice A n c)
  have g2s := G2.out.far (p := ⟨w.heap.size + 1, 0, none⟩) (by simp) (.slice A n c)
  have g3s := G3.out.set_ 0 (.slice A n c)
  have r1s := H1.out.1.far (p := ⟨w.heap.size + 1, 0, none⟩) (Ne.symm hne1) (.slice A n c)
  have f1s : Fr (fun k => k = b) w (w1.setCell ⟨w.heap.size + 1, 0, none⟩ (.slice A n c)) := F0.out.setCell (fun h => by have : w.heap.size + 1 < w.heap.size := h; omega) _
  have o1s : (w1.setCell ⟨w.heap.size + 1, 0, none⟩ (.slice A n c)).ownsRow 0 5 1 v l.length (bv l) :=
    own_fr H1.out.2.1 ((Fr.refl (fun k => k = w.heap.size + 1) w1).setCell (fun _ => rfl) _) (fun k hk e => by
      subst e
      exact absurd (H.out.2.1.lt _ hk).2 (by omega))
  have om := OM.out
  have os : f = false → (w1.setCell ⟨w.heap.size + 1, 0, none⟩ (.slice A n c)).ownsRow w.heap.size 5 1 (.slice A n c) M.length (bv M) ∧ n = M.length := fun hf =>
    ⟨own_fr (own_base (om hf).1 (fun k hk => by have := ((om hf).1.lt k hk).1; simp at this; omega)) ((Fr.refl (fun k => k = w.heap.size + 1) w1).setCell (fun _ => rfl) _) (fun k hk e => by
      subst e
      exact own_blk_ne (om hf).1 G3.out (by decide) hk), (om hf).2⟩
  generalize w1.setCell ⟨w.heap.size + 1, 0, none⟩ (.slice A n c) = w2 at *
  refine leaves_cons (f := 69) (args := #[.pointer (some ⟨w.heap.size, 0, none⟩), .pointer (some ⟨w.heap.size + 1 + 1, 0, none⟩), .pointer (some ⟨w.heap.size + 1, 0, none⟩)]) (by simp) (by simp [go_sem]) ?_
  cases f with
  | false =>
    refine (unitBd_ok w2 .returning b _ _ _ v q r1s (by rw [g1s.cell]; rfl)).mono ?_
    rintro e u' w3 ⟨rfl, rfl, rfl⟩
    have e3 := g3s.cell 0
    simp at e3
    simp [Leaves, settle, results, Try.results61, go_sem, e3]
    exact ⟨A, n, c, q, false, HR.out, f1s, .inl ⟨rfl, rfl, ⟨r1s, o1s, H1.out.2.2⟩, (os rfl).1, (os rfl).2⟩⟩
  | true =>
    refine (unitBd_no w2 .returning b _ _ _ v q p A n c r1s (by rw [g1s.cell]; rfl) (by rw [g2s.cell]; rfl) (by simpa using g3s) hne1).mono ?_
    rintro e u' w3 ⟨rfl, rfl, rfl⟩
    have g4 := ((g3s.set_ 0 (.slice none 0 0)).far (p := ⟨b, 1, none⟩) hne1 (.int .i64 (p : Int)))
    have e3 := g4.cell 0
    simp at e3
    simp [Leaves, settle, results, Try.results61, go_sem, e3]
    have r2 := (r1s.far (p := ⟨w.heap.size + 1, 0, none⟩) (Ne.symm hne1) (.slice none 0 0)).set_ 1 (.int .i64 (p : Int))
    have hp := H.out.2.2.1
    refine ⟨A, n, c, q, true, HR.out, ?_, .inr ⟨rfl, rfl, by simpa using r2, ?_, hp, H.out.2.2.2⟩⟩
    · exact (f1s.setCell (fun h => by have : w.heap.size + 1 < w.heap.size := h; omega) _).setCell (fun _ => rfl) _
    · exact own_fr o1s (((Fr.refl (fun k => k = b ∨ k = w.heap.size + 1) w2).setCell (fun _ => .inr rfl) _).setCell (fun _ => .inl rfl) _) (fun k hk e => by
        rcases e with rfl | rfl
        · exact own_blk_ne o1s r1s (by decide) hk
        · exact absurd (H.out.2.1.lt _ hk).2 (by omega))
end Go.Proofs.Ytokhebplmldfkaa
