/-
  CONTRACT of digest's stir.
-/
import Derived.Test.YtjaocgmicdnghaaGreatDoorRot
import Derived.Deep.DeepCutAuto
namespace Go.Proofs.YtjaocgmicdnghaaGreatDoor
set_option linter.unusedSimpArgs false
set_option linter.unusedVariables false
open Go Go.RowKit

theorem blk4 (w : World) (t : TypeId) (v0 v1 v2 v3 : Value) :
    Blk ((((w.alloc (.cells #[v0] t)).alloc (.cells #[v1] t)).alloc (.cells #[v2] t)).alloc (.cells #[v3] t)) w.heap.size t #[v0] ∧
    Blk ((((w.alloc (.cells #[v0] t)).alloc (.cells #[v1] t)).alloc (.cells #[v2] t)).alloc (.cells #[v3] t)) (w.heap.size + 1) t #[v1] ∧
    Blk ((((w.alloc (.cells #[v0] t)).alloc (.cells #[v1] t)).alloc (.cells #[v2] t)).alloc (.cells #[v3] t)) (w.heap.size + 1 + 1) t #[v2] ∧
    Blk ((((w.alloc (.cells #[v0] t)).alloc (.cells #[v1] t)).alloc (.cells #[v2] t)).alloc (.cells #[v3] t)) (w.heap.size + 1 + 1 + 1) t #[v3] := by
  have h0 := Blk.new w t #[v0]
  have h1 := Blk.new (w.alloc (.cells #[v0] t)) t #[v1]
  have h2 := Blk.new ((w.alloc (.cells #[v0] t)).alloc (.cells #[v1] t)) t #[v2]
  have h3 := Blk.new (((w.alloc (.cells #[v0] t)).alloc (.cells #[v1] t)).alloc (.cells #[v2] t)) t #[v3]
  simp only [World.size_alloc] at h1 h2 h3
  exact ⟨((h0.alloc _).alloc _).alloc _, (h1.alloc _).alloc _, h2.alloc _, h3⟩
theorem heldS {W W' : World} {g : Nat} {v0 v1 v2 v3 : Value} (h : Blk W g 115 #[v0, v1, v2, v3]) (f : Fr (fun _ => False) W W') : W'.cell? ⟨g, 0, none⟩ = some v0 ∧ W'.cell? ⟨g, 1, none⟩ = some v1 ∧ W'.cell? ⟨g, 2, none⟩ = some v2 ∧ W'.cell? ⟨g, 3, none⟩ = some v3 :=
  have h' := h.fr f (fun h => h)
  ⟨h'.cell 0, h'.cell 1, h'.cell 2, h'.cell 3⟩

set_option maxRecDepth 100000 in
set_option maxHeartbeats 8000000 in
theorem stir_c (w : World) (gv a b c d : Nat) (V : List Nat) (hv : Blk w gv 111 (uv V)) (hV : Ws 16 V) (ha : a < 16) (hb : b < 16) (hcc : c < 16) (hd : d < 16) (x y : Nat) (hx : x < 4294967296) (hy : y < 4294967296) :
    Calls Tryz.prog 93 #[.pointer (some ⟨gv, 0, none⟩), .agg #[.int .i64 a, .int .i64 b, .int .i64 c, .int .i64 d], .int .u32 x, .int .u32 y] w fun e w' => e = .returned (.tuple #[]) ∧ Blk w' gv 111 (uv (st V a b c d x y)) ∧ Fr (fun k => k = gv) w w' := by
  have HV := Lib.hid hV
  have HB := Lib.hid hv
  have P0 := Lib.hid ((Blk.new w 117 #[.pointer (some ⟨gv, 0, none⟩)]).alloc (.cells #[.int .i64 (a : Int), .int .i64 (b : Int), .int .i64 (c : Int), .int .i64 (d : Int)] 115))
  have Q0 := Blk.new (w.alloc (.cells #[.pointer (some ⟨gv, 0, none⟩)] 117)) 115 #[.int .i64 (a : Int), .int .i64 (b : Int), .int .i64 (c : Int), .int .i64 (d : Int)]
  rw [World.size_alloc] at Q0
  have Q0 := Lib.hid Q0
  have F0 := Lib.hid (((Fr.refl (fun _ => False) w).alloc (.cells #[.pointer (some ⟨gv, 0, none⟩)] 117)).alloc (.cells #[.int .i64 (a : Int), .int .i64 (b : Int), .int .i64 (c : Int), .int .i64 (d : Int)] 115))
  clear hv hV
  go_enter Tryz.func93, Tryz.ntmps93
  go_wp2_with fail
  generalize (w.alloc (.cells #[.pointer (some ⟨gv, 0, none⟩)] 117)).alloc (.cells #[.int .i64 (a : Int), .int .i64 (b : Int), .int .i64 (c : Int), .int .i64 (d : Int)] 115) = w0 at *
  go_cut [8, 9, 10, 11] (fun p8 p9 p10 p11 wx => ∃ k1 k2 k3 k4 : Nat, p8 = .pointer (some ⟨k1, 0, none⟩) ∧ p9 = .pointer (some ⟨k2, 0, none⟩) ∧ p10 = .pointer (some ⟨k3, 0, none⟩) ∧ p11 = .pointer (some ⟨k4, 0, none⟩) ∧ Hid (Blk wx k1 3 #[.int .i64 (a : Int)]) ∧ Hid (Blk wx k2 3 #[.int .i64 (b : Int)]) ∧ Hid (Blk wx k3 3 #[.int .i64 (c : Int)]) ∧ Hid (Blk wx k4 3 #[.int .i64 (d : Int)]) ∧ Hid (Fr (fun _ => False) w0 wx))
  case first =>
    as_aux_lemma =>
    go_region_held3 (fun w' => w'.cell? ⟨w.heap.size + 1, 0, none⟩ = some (.int .i64 (a : Int)) ∧ w'.cell? ⟨w.heap.size + 1, 1, none⟩ = some (.int .i64 (b : Int)) ∧ w'.cell? ⟨w.heap.size + 1, 2, none⟩ = some (.int .i64 (c : Int)) ∧ w'.cell? ⟨w.heap.size + 1, 3, none⟩ = some (.int .i64 (d : Int)))
      (exact heldS Q0.out (by with_reducible repeat (first | exact Fr.refl _ _ | refine Fr.drew ?_ | refine Fr.alloc ?_ _)))
      (fail)
    all_goals
      go_wp2_with fail
      go_meet
      refine ⟨_, _, _, _, rfl, rfl, rfl, rfl, ?_, ?_, ?_, ?_, ?_⟩
      · show Blk _ _ _ _
        first | with_reducible exact (blk4 w0 _ _ _ _ _).1.drew | with_reducible exact (blk4 w0 _ _ _ _ _).2.1.drew | with_reducible exact (blk4 w0 _ _ _ _ _).2.2.1.drew | with_reducible exact (blk4 w0 _ _ _ _ _).2.2.2.drew
      · show Blk _ _ _ _
        first | with_reducible exact (blk4 w0 _ _ _ _ _).1.drew | with_reducible exact (blk4 w0 _ _ _ _ _).2.1.drew | with_reducible exact (blk4 w0 _ _ _ _ _).2.2.1.drew | with_reducible exact (blk4 w0 _ _ _ _ _).2.2.2.drew
      · show Blk _ _ _ _
        first | with_reducible exact (blk4 w0 _ _ _ _ _).1.drew | with_reducible exact (blk4 w0 _ _ _ _ _).2.1.drew | with_reducible exact (blk4 w0 _ _ _ _ _).2.2.1.drew | with_reducible exact (blk4 w0 _ _ _ _ _).2.2.2.drew
      · show Blk _ _ _ _
        first | with_reducible exact (blk4 w0 _ _ _ _ _).1.drew | with_reducible exact (blk4 w0 _ _ _ _ _).2.1.drew | with_reducible exact (blk4 w0 _ _ _ _ _).2.2.1.drew | with_reducible exact (blk4 w0 _ _ _ _ _).2.2.2.drew
      · show Fr _ _ _
        with_reducible repeat (first | exact Fr.refl _ _ | refine Fr.drew ?_ | refine Fr.alloc ?_ _)
  case rest =>
    as_aux_lemma =>
    obtain ⟨k1, k2, k3, k4, rfl, rfl, rfl, rfl, h1, h2, h3, h4, hf⟩ := hcut
    have hc0 : Caps wc w.heap.size k1 k2 k4 k3 gv a b c d V := ⟨P0.out.fr hf.out (fun h => h), h1.out, h2.out, h4.out, h3.out, (HB.out.fr F0.out (fun h => h)).fr hf.out (fun h => h)⟩
    have HC0 := Lib.hid hc0
    have FW := Lib.hid (F0.out.trans hf.out (fun _ _ h => h))
    clear hc0
    go_wp2_with fail
    have hh := half_c wc w.heap.size k1 k2 k4 k3 gv a b c d V HC0.out HV.out ha hb hcc hd x 16 12 hx (.inl rfl) (.inr (.inl rfl))
    refine hh.mono ?_
    rintro e w1 ⟨rfl, c1, f1⟩
    clear hh
    have HC1 := Lib.hid c1
    have F1 := Lib.hid f1
    clear c1 f1
    go_wp2_with fail
    have hh := half_c w1 w.heap.size k1 k2 k4 k3 gv a b c d _ HC1.out (HV.out.hf _ _ _ _ _ _ _) ha hb hcc hd y 8 7 hy (.inr (.inr (.inl rfl))) (.inr (.inr (.inr rfl)))
    refine hh.mono ?_
    rintro e w2 ⟨rfl, c2, f2⟩
    clear hh
    have HC2 := Lib.hid c2
    have F2 := Lib.hid f2
    clear c2 f2
    go_wp2_with fail
    go_end0
    exact ⟨rfl, HC2.out.v, (FW.out.mono (fun _ _ h => h.elim)).trans (F1.out.trans F2.out (fun _ _ h => h)) (fun _ _ h => h)⟩
end Go.Proofs.YtjaocgmicdnghaaGreatDoor
