/-
  THE LAW's call: both nets answer the same. An arm a theorem. Written by gen_call.py.
-/
import Derived.Test.YtpgklhbbjbdejaaGm1
namespace Go.Proofs.Ytpgklhbbjbdejaa
set_option linter.unusedSimpArgs false
set_option linter.unusedVariables false
open Go Go.RowKit Go.Maps

def Gh3 (g mb h q : Nat) : Prop := q = g ∨ q = mb ∨ q = h
/-- Both nets, in a world that came of w0. -/
structure Bo (w0 W : World) (g mb h r : Nat) (T : List Ms) (i : Nat) : Prop where
  net : NetV W g mb r T i
  rf : RefN W h r T
  fr : Fr (fun _ => False) w0 W
  lo : w0.heap.size ≤ g ∧ w0.heap.size ≤ mb ∧ w0.heap.size ≤ h
theorem Bo.far {w0 W W' : World} {g mb h r i : Nat} {T : List Ms} (b : Bo w0 W g mb h r T i) (f : Fr (fun _ => False) W W') : Bo w0 W' g mb h r T i := ⟨b.net.far f, b.rf.far f, b.fr.trans f (fun _ _ e => e), b.lo⟩
/-- After the one net's call, ahead of the other's. -/
structure Bp (w0 W : World) (g mb h r : Nat) (T T' : List Ms) (i : Nat) : Prop where
  net : NetV W g mb r T' i
  rf : RefN W h r T
  fr : Fr (fun _ => False) w0 W
  lo : w0.heap.size ≤ g ∧ w0.heap.size ≤ mb ∧ w0.heap.size ≤ h
theorem Bp.far {w0 W W' : World} {g mb h r i : Nat} {T T' : List Ms} (b : Bp w0 W g mb h r T T' i) (f : Fr (fun _ => False) W W') : Bp w0 W' g mb h r T T' i := ⟨b.net.far f, b.rf.far f, b.fr.trans f (fun _ _ e => e), b.lo⟩
theorem Bo.one {w0 W W' : World} {g mb h r i j : Nat} {T T' : List Ms} (b : Bo w0 W g mb h r T i) (n : NetV W' g mb r T' j) (f : Fr (Gm g mb) W W') : Bp w0 W' g mb h r T T' j :=
  ⟨n, b.rf.gm b.net f, b.fr.trans f (fun q hq e => by have := b.lo; rcases e with e | e <;> omega), b.lo⟩
theorem Bp.two {w0 W W' : World} {g mb h r i : Nat} {T T' : List Ms} (b : Bp w0 W g mb h r T T' i) (n : RefN W' h r T') (f : Fr (fun q => q = h) W W') : Bo w0 W' g mb h r T' i :=
  ⟨b.net.rf b.rf f, n, b.fr.trans f (fun q hq e => by have e' : q = h := e; have := b.lo; omega), b.lo⟩
theorem Bo.ref {w0 W W' : World} {g mb h r i : Nat} {T T' : List Ms} (b : Bo w0 W g mb h r T i) (n : RefN W' h r T') (f : Fr (fun q => q = h) W W') : Bp w0 W' g mb h r T' T i :=
  ⟨b.net.rf b.rf f, n, b.fr.trans f (fun q hq e => by have e' : q = h := e; have := b.lo; omega), b.lo⟩
theorem Bp.net2 {w0 W W' : World} {g mb h r i j : Nat} {T T' : List Ms} (b : Bp w0 W g mb h r T' T i) (n : NetV W' g mb r T' j) (f : Fr (Gm g mb) W W') : Bo w0 W' g mb h r T' j :=
  ⟨n, b.rf.gm b.net f, b.fr.trans f (fun q hq e => by have := b.lo; rcases e with e | e <;> omega), b.lo⟩
theorem RefN.off {W : World} {h r : Nat} {T : List Ms} (n : RefN W h r T) (e : TypeId) (he : e ≠ 40) : ∀ k, k = h → (∃ t cs, Blk W k t cs ∧ e ≠ t) ∨ ∃ n D, MapI W k n D := fun k hk => by
  obtain ⟨A, c, E, h1, _⟩ := n.ex
  subst hk
  exact .inl ⟨_, _, h1, he⟩
theorem keep_ref {W W' : World} {h r k : Nat} {T : List Ms} {t : TypeId} {C : Array Value} (n : RefN W h r T) (hB : Blk W k t C) (ht : t ≠ 40) (f : Fr (fun q => q = h) W W') : Blk W' k t C := by
  obtain ⟨A, c, E, h1, _⟩ := n.ex
  exact hB.fr f (fun e => by have e' : k = h := e; subst e'; exact Blk.ne_ hB h1 ht rfl)
theorem RefN.mix {W W' : World} {h r g mb r2 i : Nat} {T T2 : List Ms} (n : RefN W h r T) (o : NetV W g mb r2 T2 i) (f : Fr (fun q => Gm g mb q ∨ W.heap.size ≤ q) W W') : RefN W' h r T := by
  obtain ⟨lk, D, m, hB, hO, _⟩ := o.ex
  obtain ⟨A, c, E, h1, h2, h3, h4⟩ := n.ex
  have hk : ∀ {b : Nat} {e : TypeId} {s m : Nat} {v : Value} {xs : List Value}, e ≠ 46 → W.ownsRow b e s v m xs → W'.ownsRow b e s v m xs := fun he hv => own_fr hv f (fun q hq e => by
    rcases e with (e | e) | e
    · subst e; exact own_blk_ne hv hB he hq
    · subst e; exact own_map_ne hv hO hq
    · have := (World.ownsRow.lt hv q hq).2; omega)
  refine ⟨A, c, E, h1.fr f (fun e => ?_), h2, hk (by decide) h3, fun e he => ⟨(h4 e he).1, hk (by decide) (h4 e he).2⟩⟩
  rcases e with (e | e) | e
  · exact Blk.ne_ h1 hB (by decide) e
  · exact map_ne h1 hO e
  · have := h1.lt; omega
abbrev cagg (x : Cx) : Value := .agg #[.int .i64 x.d, .int .i64 x.a, .int .i64 x.b, .int .u64 (x.id : Nat), .slice x.A x.m x.c]
/-- What call leaves. -/
def CallQ (w0 W : World) (g mb h r i : Nat) (e : Ending) (w' : World) : Prop := e = .returned (.bool true) ∧ ∃ T2, Bo w0 w' g mb h r T2 (i + 1) ∧ Fr (Gh3 g mb h) W w'
theorem keep_gh {W W' : World} {g mb h k : Nat} {C : Array Value} {r i : Nat} {T : List Ms} {w0 : World} (b : Bo w0 W g mb h r T i) (hB : Blk W k 35 C) (f : Fr (Gh3 g mb h) W W') : Blk W' k 35 C := by
  obtain ⟨lk, D, n, h1, h2, _⟩ := b.net.ex
  obtain ⟨A, c, E, h3, _⟩ := b.rf.ex
  refine hB.fr f (fun e => ?_)
  rcases e with e | e | e
  · subst e; exact Blk.ne_ hB h1 (by decide) rfl
  · subst e; exact map_ne hB h2 rfl
  · subst e; exact Blk.ne_ hB h3 (by decide) rfl
set_option maxRecDepth 100000 in
set_option maxHeartbeats 8000000 in
theorem call_3 {w0 W : World} {g mb h r i : Nat} {T : List Ms} (b : Bo w0 W g mb h r T i) (hi : i ≤ 3000) (hr4 : r ≤ 4) (x : Cx) (ok : x.Ok w0) (hd : x.d = 3) : Calls Try.prog 12 #[.pointer (some ⟨g, 0, none⟩), .pointer (some ⟨h, 0, none⟩), cagg x] W (CallQ w0 W g mb h r i) := by
  have HB := Lib.hid b
  have HOK := Lib.hid ok
  have e0 : (x.d == 0) = false := beq_eq_false_iff_ne.2 (by omega)
  have e1 : (x.d == 1) = false := beq_eq_false_iff_ne.2 (by omega)
  have e2 : (x.d == 2) = false := beq_eq_false_iff_ne.2 (by omega)
  have e3 : (x.d == 3) = true := by rw [hd]; rfl
  clear hd
  clear b ok
  go_enter Try.func12, Try.ntmps12
  go_upto_region 1 with fail
  refine abs_wp (fun W1 => Hid (Bo w0 W1 g mb h r T i) ∧ Hid (Blk W1 W.heap.size 35 #[.int .i64 x.d, .int .i64 x.a, .int .i64 x.b, .int .u64 (x.id : Nat), .slice x.A x.m x.c]) ∧ Hid (Fr (fun _ => False) W W1)) ⟨HB.out.far ((Fr.refl _ _).alloc _), Blk.new _ _ _, (Fr.refl _ _).alloc _⟩ ?_
  rintro w1 ⟨B1, X1, F1⟩
  clear HB
  have q0 : w1.cell? ⟨W.heap.size, 0, none⟩ = some (.int .i64 x.d) := X1.out.cell 0
  have q3 : w1.cell? ⟨W.heap.size, 3, none⟩ = some (.int .u64 (x.id : Nat)) := X1.out.cell 3
  obtain ⟨ai, av, T2, h1, h2⟩ := gs_double B1.out.net hi HOK.out.i1
  have H1 := Lib.hid h1
  have H2 := Lib.hid h2
  clear h1 h2
  go_wp2_with fail
  refine H1.out.mono ?_
  rintro e w2 ⟨rfl, n2, f2⟩
  have B2 := Lib.hid (B1.out.one n2 f2)
  have X2 := Lib.hid (keep_gh B1.out X1.out (f2.mono (fun q _ e => by rcases e with e | e; exact .inl e; exact .inr (.inl e))))
  have F2 := Lib.hid f2
  clear q0 q3 n2 f2
  have q3 : w2.cell? ⟨W.heap.size, 3, none⟩ = some (.int .u64 (x.id : Nat)) := X2.out.cell 3
  go_wp2_with fail
  refine (H2.out w2 h B2.out.rf).mono ?_
  rintro e w3 ⟨rfl, n3, f3⟩
  have B3 := Lib.hid (B2.out.two n3 f3)
  have F3 : Hid (Fr (Gh3 g mb h) W w3) := ((F1.out.mono (fun _ _ e => e.elim)).trans (F2.out.mono (fun q _ e => by rcases e with e | e; exact .inl e; exact .inr (.inl e))) (fun _ _ e => e)).trans (f3.mono (fun q _ e => .inr (.inr e))) (fun _ _ e => e)
  clear n3 f3
  go_wp2_with fail
  go_ret
  exact ⟨rfl, _, B3.out, F3.out⟩
set_option maxRecDepth 100000 in
set_option maxHeartbeats 8000000 in
theorem call_2 {w0 W : World} {g mb h r i : Nat} {T : List Ms} (b : Bo w0 W g mb h r T i) (hi : i ≤ 3000) (hr4 : r ≤ 4) (x : Cx) (ok : x.Ok w0) (hd : x.d = 2) : Calls Try.prog 12 #[.pointer (some ⟨g, 0, none⟩), .pointer (some ⟨h, 0, none⟩), cagg x] W (CallQ w0 W g mb h r i) := by
  have HB := Lib.hid b
  have HOK := Lib.hid ok
  have e0 : (x.d == 0) = false := beq_eq_false_iff_ne.2 (by omega)
  have e1 : (x.d == 1) = false := beq_eq_false_iff_ne.2 (by omega)
  have e2 : (x.d == 2) = true := by rw [hd]; rfl
  clear hd
  clear b ok
  go_enter Try.func12, Try.ntmps12
  go_upto_region 1 with fail
  refine abs_wp (fun W1 => Hid (Bo w0 W1 g mb h r T i) ∧ Hid (Blk W1 W.heap.size 35 #[.int .i64 x.d, .int .i64 x.a, .int .i64 x.b, .int .u64 (x.id : Nat), .slice x.A x.m x.c]) ∧ Hid (Fr (fun _ => False) W W1)) ⟨HB.out.far ((Fr.refl _ _).alloc _), Blk.new _ _ _, (Fr.refl _ _).alloc _⟩ ?_
  rintro w1 ⟨B1, X1, F1⟩
  clear HB
  have q0 : w1.cell? ⟨W.heap.size, 0, none⟩ = some (.int .i64 x.d) := X1.out.cell 0
  have q3 : w1.cell? ⟨W.heap.size, 3, none⟩ = some (.int .u64 (x.id : Nat)) := X1.out.cell 3
  have HI := Lib.hid HOK.out.i1
  have hT : T.length ≤ 4000 := by have := B1.out.net.le; omega
  have H : ∃ (av : Int) (a b : Int) (A : Option Addr) (m c : Nat) (T2 : List Ms), Hid (Calls Try.prog 25 #[.pointer (some ⟨h, 0, none⟩), .int .u64 (x.id : Nat)] w1 fun e w' => ∃ A c, e = .returned (.tuple #[.agg #[.int .i64 a, .int .i64 b, .slice A m c], .int .i64 av]) ∧ RefN w' h r T2 ∧ Fr (fun q => q = h) w1 w') ∧
      Hid (∀ W2, NetV W2 g mb r T i → Calls Try.prog 19 #[.pointer (some ⟨g, 0, none⟩), .int .u64 (x.id : Nat)] W2 fun e w' => e = .returned (.int .i64 av) ∧ NetV w' g mb r T2 (i + 1) ∧ Fr (Gm g mb) W2 w') := by
    cases hx : lookT T x.id with
    | none =>
      refine ⟨4, 0, 0, none, 0, 0, T, ?_, fun W2 hn => ?_⟩
      · refine (rdeliver_no B1.out.rf hT HI.out hx).mono ?_
        rintro e w' ⟨rfl, k1⟩
        exact ⟨_, _, rfl, B1.out.rf.far k1, k1.mono (fun _ _ e => e.elim)⟩
      · refine (gv_drop_none hn HI.out hx).mono ?_
        rintro e w' ⟨rfl, k1⟩
        exact ⟨rfl, (hn.far k1).up (by omega), k1.mono (fun _ _ e => e.elim)⟩
    | some y =>
      obtain ⟨k, hk, _, _⟩ := lookT_some hx
      refine ⟨0, (y.f : Nat), (y.t : Nat), none, y.bs.length, 0, kill T k y, ?_, fun W2 hn => ?_⟩
      · refine (rdeliver_yes B1.out.rf hT hk hx).mono ?_
        rintro e w' ⟨A, c, rfl, _, k1, k2⟩
        exact ⟨_, _, rfl, k1, k2⟩
      · have hx2 := hx
        have hI := HI.out
        rw [hk] at hx2 hI ⊢
        exact gv_drop hn (by omega) hI hx2
  obtain ⟨av, va, vb, _, m9, _, T2, H1, H2⟩ := H
  go_wp2_with fail
  refine H1.out.mono ?_
  rintro e w2 ⟨A9, c9, rfl, n2, f2⟩
  have B2 := Lib.hid (B1.out.ref n2 f2)
  have X2 := Lib.hid (keep_gh B1.out X1.out (f2.mono (fun q _ e => .inr (.inr e))))
  have F2 := Lib.hid f2
  clear q0 q3 n2 f2 H1
  go_upto_region 17 with fail
  refine abs_wp (fun W1 => Hid (Bp w0 W1 g mb h r T2 T i) ∧ Hid (Blk W1 W.heap.size 35 #[.int .i64 x.d, .int .i64 x.a, .int .i64 x.b, .int .u64 (x.id : Nat), .slice x.A x.m x.c]) ∧ Hid (Fr (Gh3 g mb h) W W1)) ⟨B2.out.far ((Fr.refl _ _).alloc _), X2.out.alloc _, ((F1.out.mono (fun _ _ e => e.elim)).trans (F2.out.mono (fun q _ e => .inr (.inr e))) (fun _ _ e => e)).alloc _⟩ ?_
  rintro w3 ⟨B3, X3, F3⟩
  clear B2 X2 F2
  have q3 : w3.cell? ⟨W.heap.size, 3, none⟩ = some (.int .u64 (x.id : Nat)) := X3.out.cell 3
  go_wp2_with fail
  refine (H2.out w3 B3.out.net).mono ?_
  rintro e w4 ⟨rfl, n4, f4⟩
  have B4 := Lib.hid (B3.out.net2 n4 f4)
  have F4 : Hid (Fr (Gh3 g mb h) W w4) := F3.out.trans (f4.mono (fun q _ e => by rcases e with e | e; exact .inl e; exact .inr (.inl e))) (fun _ _ e => e)
  clear n4 f4
  go_wp2_with fail
  go_ret
  exact ⟨rfl, _, B4.out, F4.out⟩
set_option maxRecDepth 100000 in
set_option maxHeartbeats 8000000 in
theorem call_1 {w0 W : World} {g mb h r i : Nat} {T : List Ms} (b : Bo w0 W g mb h r T i) (hi : i ≤ 3000) (hr4 : r ≤ 4) (x : Cx) (ok : x.Ok w0) (hd : x.d = 1) : Calls Try.prog 12 #[.pointer (some ⟨g, 0, none⟩), .pointer (some ⟨h, 0, none⟩), cagg x] W (CallQ w0 W g mb h r i) := by
  have HB := Lib.hid b
  have HOK := Lib.hid ok
  have e0 : (x.d == 0) = false := beq_eq_false_iff_ne.2 (by omega)
  have e1 : (x.d == 1) = true := by rw [hd]; rfl
  clear hd
  clear b ok
  go_enter Try.func12, Try.ntmps12
  go_upto_region 1 with fail
  refine abs_wp (fun W1 => Hid (Bo w0 W1 g mb h r T i) ∧ Hid (Blk W1 W.heap.size 35 #[.int .i64 x.d, .int .i64 x.a, .int .i64 x.b, .int .u64 (x.id : Nat), .slice x.A x.m x.c]) ∧ Hid (Fr (fun _ => False) W W1)) ⟨HB.out.far ((Fr.refl _ _).alloc _), Blk.new _ _ _, (Fr.refl _ _).alloc _⟩ ?_
  rintro w1 ⟨B1, X1, F1⟩
  clear HB
  have q0 : w1.cell? ⟨W.heap.size, 0, none⟩ = some (.int .i64 x.d) := X1.out.cell 0
  have q3 : w1.cell? ⟨W.heap.size, 3, none⟩ = some (.int .u64 (x.id : Nat)) := X1.out.cell 3
  have HI := Lib.hid HOK.out.i1
  have hT : T.length ≤ 4000 := by have := B1.out.net.le; omega
  have H : ∃ (av a b : Int) (m : Nat) (bs : List UInt8) (T2 : List Ms), Hid (Calls Try.prog 16 #[.pointer (some ⟨g, 0, none⟩), .int .u64 (x.id : Nat)] w1 fun e w' => ∃ A c, e = .returned (.tuple #[.agg #[.int .i64 a, .int .i64 b, .slice A m c], .int .i64 av]) ∧ w'.ownsRow 0 5 1 (.slice A m c) m (bv bs) ∧ NetV w' g mb r T2 (i + 1) ∧ Fr (Gm g mb) w1 w') ∧
      Hid (∀ W2, RefN W2 h r T → Calls Try.prog 25 #[.pointer (some ⟨h, 0, none⟩), .int .u64 (x.id : Nat)] W2 fun e w' => ∃ A c, e = .returned (.tuple #[.agg #[.int .i64 a, .int .i64 b, .slice A m c], .int .i64 av]) ∧ w'.ownsRow 0 5 1 (.slice A m c) m (bv bs) ∧ RefN w' h r T2 ∧ Fr (fun q => q = h) W2 w') := by
    cases hx : lookT T x.id with
    | none =>
      refine ⟨4, 0, 0, 0, [], T, ?_, fun W2 hn => ?_⟩
      · refine (gv_deliver_none B1.out.net HI.out hx).mono ?_
        rintro e w' ⟨rfl, k1⟩
        exact ⟨none, 0, rfl, World.ownsRow_nil _ _ _ _, (B1.out.net.far k1).up (by omega), k1.mono (fun _ _ e => e.elim)⟩
      · refine (rdeliver_no hn hT HI.out hx).mono ?_
        rintro e w' ⟨rfl, k1⟩
        exact ⟨none, 0, rfl, World.ownsRow_nil _ _ _ _, hn.far k1, k1.mono (fun _ _ e => e.elim)⟩
    | some y =>
      obtain ⟨k, hk, _, _⟩ := lookT_some hx
      refine ⟨0, (y.f : Nat), (y.t : Nat), y.bs.length, y.bs, kill T k y, ?_, fun W2 hn => ?_⟩
      · have hx2 := hx
        have hI := HI.out
        rw [hk] at hx2 hI ⊢
        refine (gv_deliver B1.out.net (by omega) hI hx2).mono ?_
        rintro e w' ⟨A, c, rfl, o1, k1, k2⟩
        exact ⟨_, _, rfl, own_base (base' := 0) o1 (fun _ _ => Nat.zero_le _), k1, k2⟩
      · refine (rdeliver_yes hn hT hk hx).mono ?_
        rintro e w' ⟨A, c, rfl, o1, k1, k2⟩
        exact ⟨_, _, rfl, o1, k1, k2⟩
  obtain ⟨av, va, vb, m9, bs9, T2, H1, H2⟩ := H
  go_wp2_with fail
  refine H1.out.mono ?_
  rintro e w2 ⟨A9, c9, rfl, o2, n2, f2⟩
  have B2 := Lib.hid (B1.out.one n2 f2)
  have X2 := Lib.hid (keep_gh B1.out X1.out (f2.mono (fun q _ e => by rcases e with e | e; exact .inl e; exact .inr (.inl e))))
  have F2 := Lib.hid f2
  have O2 := Lib.hid o2
  clear q0 q3 n2 f2 o2 H1
  go_upto_region 13 with fail
  refine abs_wp (fun W1 => Hid (Bp w0 W1 g mb h r T T2 (i + 1)) ∧ Hid (Blk W1 W.heap.size 35 #[.int .i64 x.d, .int .i64 x.a, .int .i64 x.b, .int .u64 (x.id : Nat), .slice x.A x.m x.c]) ∧ Hid (Blk W1 w2.heap.size 51 #[.int .i64 va, .int .i64 vb, .slice A9 m9 c9]) ∧ Hid (W1.ownsRow 0 5 1 (.slice A9 m9 c9) m9 (bv bs9)) ∧ Hid (Fr (Gh3 g mb h) W W1)) ⟨B2.out.far ((Fr.refl _ _).alloc _), X2.out.alloc _, Blk.new _ _ _, own_fa O2.out ((Fr.refl _ _).alloc _), ((F1.out.mono (fun _ _ e => e.elim)).trans (F2.out.mono (fun q _ e => by rcases e with e | e; exact .inl e; exact .inr (.inl e))) (fun _ _ e => e)).alloc _⟩ ?_
  rintro w3 ⟨B3, X3, M3, O3, F3⟩
  clear B2 X2 F2 O2
  have q3 : w3.cell? ⟨W.heap.size, 3, none⟩ = some (.int .u64 (x.id : Nat)) := X3.out.cell 3
  go_wp2_with fail
  refine (H2.out w3 B3.out.rf).mono ?_
  rintro e w4 ⟨A8, c8, rfl, o4, n4, f4⟩
  have B4 := Lib.hid (B3.out.two n4 f4)
  have F4 : Hid (Fr (Gh3 g mb h) W w4) := F3.out.trans (f4.mono (fun q _ e => .inr (.inr e))) (fun _ _ e => e)
  have M4 := Lib.hid (keep_ref B3.out.rf M3.out (by decide) f4)
  have O4 := Lib.hid (own_off O3.out f4 (B3.out.rf.off _ (by decide)))
  have P4 := Lib.hid o4
  clear n4 f4 o4 q3
  go_upto_region 14 with fail
  refine abs_wp (fun W1 => Hid (Bo w0 W1 g mb h r T2 (i + 1)) ∧ Hid (Blk W1 w2.heap.size 51 #[.int .i64 va, .int .i64 vb, .slice A9 m9 c9]) ∧ Hid (Blk W1 w4.heap.size 51 #[.int .i64 va, .int .i64 vb, .slice A8 m9 c8]) ∧ Hid (Rd W1 A9 m9 (bv bs9)) ∧ Hid (Rd W1 A8 m9 (bv bs9)) ∧ Hid (Fr (Gh3 g mb h) W W1)) ⟨B4.out.far ((Fr.refl _ _).alloc _), M4.out.alloc _, Blk.new _ _ _, (Rd.of_own O4.out).alloc _, (Rd.of_own P4.out).alloc _, F4.out.alloc _⟩ ?_
  rintro w5 ⟨B5, M5, K5, R5, S5, F5⟩
  clear B4 M4 O4 P4 F4
  have m0 : w5.cell? ⟨w2.heap.size, 0, none⟩ = some (.int .i64 va) := M5.out.cell 0
  have m1 : w5.cell? ⟨w2.heap.size, 1, none⟩ = some (.int .i64 vb) := M5.out.cell 1
  have m2 : w5.cell? ⟨w2.heap.size, 2, none⟩ = some (.slice A9 m9 c9) := M5.out.cell 2
  have k0 : w5.cell? ⟨w4.heap.size, 0, none⟩ = some (.int .i64 va) := K5.out.cell 0
  have k1 : w5.cell? ⟨w4.heap.size, 1, none⟩ = some (.int .i64 vb) := K5.out.cell 1
  have k2 : w5.cell? ⟨w4.heap.size, 2, none⟩ = some (.slice A8 m9 c8) := K5.out.cell 2
  go_wp2_with fail
  refine (same_c w5 _ _ A9 A8 m9 c9 c8 bs9 R5.out S5.out).mono ?_
  rintro e w6 ⟨rfl, f6⟩
  have B6 := Lib.hid (B5.out.far f6)
  have F6 : Hid (Fr (Gh3 g mb h) W w6) := F5.out.trans (f6.mono (fun _ _ e => e.elim)) (fun _ _ e => e)
  clear f6
  go_wp2_with fail
  go_ret
  exact ⟨rfl, _, B6.out, F6.out⟩
set_option maxRecDepth 100000 in
set_option maxHeartbeats 8000000 in
theorem call_4 {w0 W : World} {g mb h r i : Nat} {T : List Ms} (b : Bo w0 W g mb h r T i) (hi : i ≤ 3000) (hr4 : r ≤ 4) (x : Cx) (ok : x.Ok w0) (hd : x.d ≠ 0 ∧ x.d ≠ 1 ∧ x.d ≠ 2 ∧ x.d ≠ 3) : Calls Try.prog 12 #[.pointer (some ⟨g, 0, none⟩), .pointer (some ⟨h, 0, none⟩), cagg x] W (CallQ w0 W g mb h r i) := by
  have HB := Lib.hid b
  have HOK := Lib.hid ok
  have e0 : (x.d == 0) = false := beq_eq_false_iff_ne.2 (by omega)
  have e1 : (x.d == 1) = false := beq_eq_false_iff_ne.2 (by omega)
  have e2 : (x.d == 2) = false := beq_eq_false_iff_ne.2 (by omega)
  have e3 : (x.d == 3) = false := beq_eq_false_iff_ne.2 (by omega)
  clear hd
  clear b ok
  go_enter Try.func12, Try.ntmps12
  go_upto_region 1 with fail
  refine abs_wp (fun W1 => Hid (Bo w0 W1 g mb h r T i) ∧ Hid (Blk W1 W.heap.size 35 #[.int .i64 x.d, .int .i64 x.a, .int .i64 x.b, .int .u64 (x.id : Nat), .slice x.A x.m x.c]) ∧ Hid (Fr (fun _ => False) W W1)) ⟨HB.out.far ((Fr.refl _ _).alloc _), Blk.new _ _ _, (Fr.refl _ _).alloc _⟩ ?_
  rintro w1 ⟨B1, X1, F1⟩
  clear HB
  have q0 : w1.cell? ⟨W.heap.size, 0, none⟩ = some (.int .i64 x.d) := X1.out.cell 0
  have q3 : w1.cell? ⟨W.heap.size, 3, none⟩ = some (.int .u64 (x.id : Nat)) := X1.out.cell 3
  have HI := Lib.hid HOK.out.i1
  have hT : T.length ≤ 4000 := by have := B1.out.net.le; omega
  have H : ∃ (av a b : Int) (m : Nat) (bs : List UInt8), Hid (Calls Try.prog 18 #[.pointer (some ⟨g, 0, none⟩), .int .u64 (x.id : Nat)] w1 fun e w' => ∃ A c, e = .returned (.tuple #[.agg #[.int .i64 a, .int .i64 b, .slice A m c], .int .i64 av]) ∧ w'.ownsRow w1.heap.size 5 1 (.slice A m c) m (bv bs) ∧ Fr (fun _ => False) w1 w') ∧
      Hid (∀ W2, RefN W2 h r T → Calls Try.prog 27 #[.pointer (some ⟨h, 0, none⟩), .int .u64 (x.id : Nat)] W2 fun e w' => ∃ A c, e = .returned (.tuple #[.agg #[.int .i64 a, .int .i64 b, .slice A m c], .int .i64 av]) ∧ w'.ownsRow 0 5 1 (.slice A m c) m (bv bs) ∧ Fr (fun _ => False) W2 w') := by
    cases hx : lookT T x.id with
    | none =>
      refine ⟨4, 0, 0, 0, [], ?_, fun W2 hn => ?_⟩
      · refine (at_of w1 _ _ 0 0 4 none 0 0 [] (Rd.none_ _ _) (by decide) (fun W' hW => gv_lost (B1.out.net.far hW) HI.out hx)).mono ?_
        rintro e w' ⟨v, k0, k1, k2⟩
        obtain ⟨A9, c9, rfl, _, _⟩ := own_slice k1
        exact ⟨A9, c9, k0, k1, k2⟩
      · refine (rat_no hn hT HI.out hx).mono ?_
        rintro e w' ⟨rfl, k1⟩
        exact ⟨none, 0, rfl, World.ownsRow_nil _ _ _ _, k1⟩
    | some y =>
      refine ⟨0, (y.f : Nat), (y.t : Nat), y.bs.length, y.bs, ?_, fun W2 hn => ?_⟩
      · exact gv_at B1.out.net HI.out hx
      · exact rat_yes hn hT hx
  obtain ⟨av, va, vb, m9, bs9, H1, H2⟩ := H
  go_wp2_with fail
  refine H1.out.mono ?_
  rintro e w2 ⟨A9, c9, rfl, o2, f2⟩
  have F2 := Lib.hid f2
  have O2 := Lib.hid o2
  clear q0 q3 f2 o2 H1
  go_upto_region 23 with fail
  refine abs_wp (fun W1 => Hid (Blk W1 W.heap.size 35 #[.int .i64 x.d, .int .i64 x.a, .int .i64 x.b, .int .u64 (x.id : Nat), .slice x.A x.m x.c]) ∧ Hid (Blk W1 w2.heap.size 51 #[.int .i64 va, .int .i64 vb, .slice A9 m9 c9]) ∧ Hid (W1.ownsRow w1.heap.size 5 1 (.slice A9 m9 c9) m9 (bv bs9)) ∧ Hid (Fr (fun _ => False) w1 W1)) ⟨(keepB X1.out F2.out).alloc _, Blk.new _ _ _, own_fa O2.out ((Fr.refl _ _).alloc _), F2.out.alloc _⟩ ?_
  rintro w3 ⟨X3, M3, O3, F3⟩
  clear F2 O2
  have q3 : w3.cell? ⟨W.heap.size, 3, none⟩ = some (.int .u64 (x.id : Nat)) := X3.out.cell 3
  go_wp2_with fail
  refine (H2.out w3 (B1.out.rf.far F3.out)).mono ?_
  rintro e w4 ⟨A8, c8, rfl, o4, f4⟩
  have F4 := Lib.hid (F3.out.trans f4 (fun _ _ e => e))
  have M4 := Lib.hid (keepB M3.out f4)
  have O4 := Lib.hid (own_fa O3.out f4)
  have P4 := Lib.hid o4
  clear f4 o4 q3 X3 M3 O3 F3
  go_upto_region 24 with fail
  refine abs_wp (fun W1 => Hid (Blk W1 w2.heap.size 51 #[.int .i64 va, .int .i64 vb, .slice A9 m9 c9]) ∧ Hid (Blk W1 w4.heap.size 51 #[.int .i64 va, .int .i64 vb, .slice A8 m9 c8]) ∧ Hid (W1.ownsRow w1.heap.size 5 1 (.slice A9 m9 c9) m9 (bv bs9)) ∧ Hid (Rd W1 A8 m9 (bv bs9)) ∧ Hid (Fr (fun _ => False) w1 W1)) ⟨M4.out.alloc _, Blk.new _ _ _, own_fa O4.out ((Fr.refl _ _).alloc _), (Rd.of_own P4.out).alloc _, F4.out.alloc _⟩ ?_
  rintro w5 ⟨M5, K5, O5, S5, F5⟩
  clear M4 O4 P4 F4
  have m0 : w5.cell? ⟨w2.heap.size, 0, none⟩ = some (.int .i64 va) := M5.out.cell 0
  have m1 : w5.cell? ⟨w2.heap.size, 1, none⟩ = some (.int .i64 vb) := M5.out.cell 1
  have m2 : w5.cell? ⟨w2.heap.size, 2, none⟩ = some (.slice A9 m9 c9) := M5.out.cell 2
  have k0 : w5.cell? ⟨w4.heap.size, 0, none⟩ = some (.int .i64 va) := K5.out.cell 0
  have k1 : w5.cell? ⟨w4.heap.size, 1, none⟩ = some (.int .i64 vb) := K5.out.cell 1
  have k2 : w5.cell? ⟨w4.heap.size, 2, none⟩ = some (.slice A8 m9 c8) := K5.out.cell 2
  go_wp2_with fail
  refine (same_c w5 _ _ A9 A8 m9 c9 c8 bs9 (Rd.of_own O5.out) S5.out).mono ?_
  rintro e w6 ⟨rfl, f6⟩
  have M6 := Lib.hid (keepB M5.out f6)
  have O6 := Lib.hid (own_fa O5.out f6)
  have F6 := Lib.hid (F5.out.trans f6 (fun _ _ e => e))
  clear f6 m0 m1 m2 k0 k1 k2 M5 K5 O5 S5 F5
  have HLT : Hid (m9 ≤ 9223372036854775807) := by
    have := O6.out
    obtain ⟨_, ⟨_, h2⟩ | ⟨_, _, _, h1, _, _, h4, h5, _⟩⟩ := this
    · show _ ≤ _; omega
    · unfold maxLen at h5; show _ ≤ _; omega
  have hlt9 := HLT.out
  go_wp2_with fail
  go_loopw [28] (fun iv wr => ∃ q : Nat, iv = .int .i64 q ∧ q ≤ m9 ∧ Hid (∃ zs : List Int, Fr (fun q => w1.heap.size ≤ q) w1 wr ∧ Blk wr w2.heap.size 51 #[.int .i64 va, .int .i64 vb, .slice A9 m9 c9] ∧ wr.ownsRow w1.heap.size 5 1 (.slice A9 m9 c9) m9 (zs.map (Value.int .u8)))) (fun iv _ => m9 - (intOf iv).toNat)
  case atStart => exact ⟨0, rfl, Nat.zero_le _, bs9.map (fun b => (b.toNat : Int)), F6.out.mono (fun _ _ e => e.elim), M6.out, by have := O6.out; rw [List.map_map]; exact this⟩
  case round =>
    obtain ⟨q, rfl, hq, hh⟩ := hrel
    obtain ⟨zs, fr, mb', own⟩ := hh.out
    have FR := Lib.hid fr
    have MB := Lib.hid mb'
    have OW := Lib.hid own
    have m2 : wr.cell? ⟨w2.heap.size, 2, none⟩ = some (.slice A9 m9 c9) := mb'.cell 2
    clear hh fr mb' own M6 O6 F6
    by_cases hlt : q < m9
    · obtain ⟨b9, cc, e', hb9, _, hc⟩ := own_cells OW.out (by omega)
      injection e' with e1 e2 e3
      subst e1 e3
      obtain ⟨y, hy⟩ : ∃ y, zs[q]? = some y := by
        have hl := OW.out.1
        rw [List.length_map] at hl
        exact ⟨_, List.getElem?_eq_getElem (by omega)⟩
      have c0 : wr.cell? ⟨b9, q, none⟩ = some (.int .u8 y) := hc _ _ (by rw [List.getElem?_map, hy]; rfl)
      have z0 : wr.frozen? ⟨b9, q, none⟩ = false := by
        obtain ⟨cs, hb⟩ := row_blk OW.out rfl
        exact hb.frozen _
      have HB9 := Lib.hid hb9
      clear hc hy hb9
      go_wp2_with fail
      go_roundw
      case rel =>
        refine ⟨q + 1, by go_num, hlt, zs.set q (IntKind.u8.wrap (y + 1)), FR.out.setCell (p := ⟨b9, q, none⟩) (fun _ => HB9.out) _, ?_, ?_⟩
        · obtain ⟨cs, hb⟩ := row_blk OW.out rfl
          exact MB.out.far (p := ⟨b9, q, none⟩) (Blk.ne_ MB.out hb (by decide)) _
        · rw [List.map_set]
          exact own_set OW.out _
      case measure => simp [intOf]; omega
    · go_wp2_with fail
      go_ret
      refine ⟨rfl, T, ⟨(B1.out.net.old FR.out).up (by omega), B1.out.rf.old FR.out, B1.out.fr.trans FR.out (fun q hq e => by have e' : w1.heap.size ≤ q := e; have := B1.out.fr.size; omega), B1.out.lo⟩, (F1.out.mono (fun _ _ e => e.elim)).trans FR.out (fun q hq e => by have e' : w1.heap.size ≤ q := e; have := F1.out.size; omega)⟩
set_option maxRecDepth 100000 in
set_option maxHeartbeats 8000000 in
theorem call_0 {w0 W : World} {g mb h r i : Nat} {T : List Ms} (b : Bo w0 W g mb h r T i) (hi : i ≤ 3000) (hr4 : r ≤ 4) (x : Cx) (ok : x.Ok w0) (hd : x.d = 0) : Calls Try.prog 12 #[.pointer (some ⟨g, 0, none⟩), .pointer (some ⟨h, 0, none⟩), cagg x] W (CallQ w0 W g mb h r i) := by
  have HB := Lib.hid b
  have HOK := Lib.hid ok
  have e0 : (x.d == 0) = true := by rw [hd]; rfl
  clear hd
  clear b ok
  go_enter Try.func12, Try.ntmps12
  go_upto_region 1 with fail
  refine abs_wp (fun W1 => Hid (Bo w0 W1 g mb h r T i) ∧ Hid (Blk W1 W.heap.size 35 #[.int .i64 x.d, .int .i64 x.a, .int .i64 x.b, .int .u64 (x.id : Nat), .slice x.A x.m x.c]) ∧ Hid (Fr (fun _ => False) W W1)) ⟨HB.out.far ((Fr.refl _ _).alloc _), Blk.new _ _ _, (Fr.refl _ _).alloc _⟩ ?_
  rintro w1 ⟨B1, X1, F1⟩
  clear HB
  have q0 : w1.cell? ⟨W.heap.size, 0, none⟩ = some (.int .i64 x.d) := X1.out.cell 0
  have q3 : w1.cell? ⟨W.heap.size, 3, none⟩ = some (.int .u64 (x.id : Nat)) := X1.out.cell 3
  have HRD := Lib.hid (HOK.out.rd.far B1.out.fr)
  have hm1 := HOK.out.m1
  have q4 : ∀ o, (w1.alloc o).cell? ⟨W.heap.size, 4, none⟩ = some (.slice x.A x.m x.c) := fun o => (X1.out.alloc o).cell 4
  obtain ⟨i8, ki, kz0, kz1, kz2⟩ := info_parts u8_info
  clear q3
  go_upto_region 4 with (first
    | (refine wpList_app rfl (.tmp 33) (.tmp 35) _ _ rfl w1.heap.size 5 i8 _ 1 1 Try.underlying33 ki kz0 kz1 kz2 rfl _ 0 [] rfl (World.ownsRow_lit w1 #[] 0 (Nat.le_refl _) (Nat.zero_le _) rfl) _ x.m (bv x.bs) rfl (Src.rd Try.underlying33 x.c (HRD.out.alloc _) (bv_one x.bs)) (by omega) (by unfold maxLen; omega) (by rw [World.size_alloc]; omega) ?_
       intro v1 w3 own1 hf1 hn1
       rw [Nat.zero_add, List.nil_append] at own1
       obtain ⟨A7, c7, rfl, _, _⟩ := own_slice own1
       have F3 : Hid (Fr (fun _ => False) w1 w3) := (((Fr.refl _ w1).alloc _).trans hf1 (fun i hi hq => by
         have hq' : Value.ownBlock (.slice (some ⟨w1.heap.size, 0, none⟩) 0 0) = some i := hq
         have hq2 : w1.heap.size = i := by simpa [Value.ownBlock] using hq'
         omega))
       have HS3 : Hid (w1.heap.size < w3.heap.size) := by have h1 := hf1.size; rw [World.size_alloc] at h1; exact h1
       have OW := Lib.hid own1
       clear own1 hf1 hn1 q4))
  obtain ⟨k9, hk0, hk1, hk9⟩ : ∃ k9, w1.heap.size ≤ k9 ∧ k9 < w3.heap.size ∧ ∀ q, (Value.slice A7 x.m c7).ownBlock = some q → q = k9 := by
    cases hob : (Value.slice A7 x.m c7).ownBlock with
    | none => exact ⟨w1.heap.size, Nat.le_refl _, HS3.out, fun q hq => by cases hq⟩
    | some q => exact ⟨q, (World.ownsRow.lt OW.out q hob).1, (World.ownsRow.lt OW.out q hob).2, fun q' hq => by injection hq with hq; exact hq.symm⟩
  have HK9 := Lib.hid hk9
  obtain ⟨ai, av, T2, h1, h2⟩ := gs_send B1.out.net F3.out hk0 hk1 hi hr4 x.a x.b A7 x.m c7 x.bs (Rd.of_own OW.out)
  have H1 := Lib.hid h1
  have H2 := Lib.hid h2
  have B3 := Lib.hid (B1.out.far F3.out)
  have X3 := Lib.hid (keepB X1.out F3.out)
  have q1 : w3.cell? ⟨W.heap.size, 1, none⟩ = some (.int .i64 x.a) := X3.out.cell 1
  have q2 : w3.cell? ⟨W.heap.size, 2, none⟩ = some (.int .i64 x.b) := X3.out.cell 2
  clear h1 h2 hk9 q0
  go_wp2_with fail
  refine H1.out.mono ?_
  rintro e w4 ⟨rfl, hav, f4⟩
  have HAV := Lib.hid hav
  have F4 := Lib.hid f4
  have O4 := Lib.hid (own_off OW.out f4 (B3.out.net.off _ (by decide)))
  have X4 := Lib.hid (keep_gh B3.out X3.out (f4.mono (fun q _ e => by rcases e with e | e; exact .inl e; exact .inr (.inl e))))
  clear hav f4 q1 q2 H1
  go_wp2_with fail
  go_loopw [10] (fun iv wr => ∃ q : Nat, iv = .int .i64 q ∧ q ≤ x.m ∧ Hid (∃ zs : List Int, Fr (fun q => q = k9) w4 wr ∧ wr.ownsRow w1.heap.size 5 1 (.slice A7 x.m c7) x.m (zs.map (Value.int .u8)))) (fun iv _ => x.m - (intOf iv).toNat)
  case atStart => exact ⟨0, rfl, Nat.zero_le _, x.bs.map (fun b => (b.toNat : Int)), Fr.refl _ _, by have := O4.out; rw [List.map_map]; exact this⟩
  case round =>
    obtain ⟨q, rfl, hq, hh⟩ := hrel
    obtain ⟨zs, fr, own⟩ := hh.out
    have FR := Lib.hid fr
    have OWR := Lib.hid own
    clear hh fr own O4
    by_cases hlt : q < x.m
    · obtain ⟨b9, cc, e', hb9, _, hc⟩ := own_cells OWR.out (by omega)
      injection e' with e1 e2 e3
      subst e1 e3
      obtain ⟨y, hy⟩ : ∃ y, zs[q]? = some y := by
        have hl := OWR.out.1
        rw [List.length_map] at hl
        exact ⟨_, List.getElem?_eq_getElem (by omega)⟩
      have c0 : wr.cell? ⟨b9, q, none⟩ = some (.int .u8 y) := hc _ _ (by rw [List.getElem?_map, hy]; rfl)
      have z0 : wr.frozen? ⟨b9, q, none⟩ = false := by
        obtain ⟨cs, hb⟩ := row_blk OWR.out rfl
        exact hb.frozen _
      have HB9 : Hid (b9 = k9) := HK9.out b9 rfl
      clear hc hy hb9
      go_wp2_with fail
      go_roundw
      case rel =>
        refine ⟨q + 1, by go_num, hlt, zs.set q (IntKind.u8.wrap (y + 1)), FR.out.setCell (p := ⟨b9, q, none⟩) (fun _ => HB9.out) _, ?_⟩
        rw [List.map_set]
        exact own_set OWR.out _
      case measure => simp [intOf]; omega
    · have FA : Hid (Fr (fun q => Gm g mb q ∨ w1.heap.size ≤ q) w1 wr) := ((F3.out.mono (fun _ _ e => e.elim)).trans (F4.out.mono (fun q _ e => .inl e)) (fun _ _ e => e)).trans (FR.out.mono (fun q _ e => by have e' : q = k9 := e; exact .inr (by omega))) (fun _ _ e => e)
      have R5 := Lib.hid (B1.out.rf.mix B1.out.net FA.out)
      have N5 := Lib.hid (HAV.out wr FR.out)
      have F5 : Hid (Fr (fun _ => False) w0 wr) := B1.out.fr.trans FA.out (fun q hq e => by
        have h1 := B1.out.lo
        have h2 := B1.out.fr.size
        rcases e with (e | e) | e <;> omega)
      have X5 := Lib.hid (X4.out.fr FR.out (fun e => by have e' : W.heap.size = k9 := e; have := X1.out.lt; omega))
      have q1 : wr.cell? ⟨W.heap.size, 1, none⟩ = some (.int .i64 x.a) := X5.out.cell 1
      have q2 : wr.cell? ⟨W.heap.size, 2, none⟩ = some (.int .i64 x.b) := X5.out.cell 2
      have q4 : wr.cell? ⟨W.heap.size, 4, none⟩ = some (.slice x.A x.m x.c) := X5.out.cell 4
      have H3 := Lib.hid (H2.out wr h x.A x.c R5.out (HOK.out.rd.far F5.out))
      go_wp2_with fail
      refine H3.out.mono ?_
      rintro e w6 ⟨rfl, n6, f6⟩
      have B6 : Hid (Bo w0 w6 g mb h r T2 (i + 1)) := ⟨N5.out.rf R5.out f6, n6, F5.out.trans f6 (fun q hq e => by have e' : q = h := e; have := B1.out.lo; omega), B1.out.lo⟩
      have F6 : Hid (Fr (Gh3 g mb h) W w6) := ((F1.out.mono (fun _ _ e => e.elim)).trans FA.out (fun q hq e => by
        rcases e with (e | e) | e
        · exact .inl e
        · exact .inr (.inl e)
        · have := F1.out.size; omega)).trans (f6.mono (fun q _ e => .inr (.inr e))) (fun _ _ e => e)
      clear n6 f6 q1 q2 q4
      go_wp2_with fail
      go_ret
      exact ⟨rfl, _, B6.out, F6.out⟩
theorem call_c {w0 W : World} {g mb h r i : Nat} {T : List Ms} (b : Bo w0 W g mb h r T i) (hi : i ≤ 3000) (hr4 : r ≤ 4) (x : Cx) (ok : x.Ok w0) : Calls Try.prog 12 #[.pointer (some ⟨g, 0, none⟩), .pointer (some ⟨h, 0, none⟩), cagg x] W (CallQ w0 W g mb h r i) := by
  by_cases h0 : x.d = 0
  · exact call_0 b hi hr4 x ok h0
  by_cases h1 : x.d = 1
  · exact call_1 b hi hr4 x ok h1
  by_cases h2 : x.d = 2
  · exact call_2 b hi hr4 x ok h2
  by_cases h3 : x.d = 3
  · exact call_3 b hi hr4 x ok h3
  exact call_4 b hi hr4 x ok ⟨h0, h1, h2, h3⟩
end Go.Proofs.Ytpgklhbbjbdejaa
