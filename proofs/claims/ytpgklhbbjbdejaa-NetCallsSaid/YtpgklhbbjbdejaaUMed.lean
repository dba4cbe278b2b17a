/-
  CONTRACTS of order2Ordered, medianOrdered, medianAdjacentOrdered and choosePivotOrdered at uint64: what they answer lies among what they were asked of.
-/
import Derived.Test.YtpgklhbbjbdejaaU
namespace Go.Proofs.Ytpgklhbbjbdejaa
set_option linter.unusedSimpArgs false
set_option linter.unusedVariables false
open Go Go.RowKit Go.Sort

theorem Now.of {w wr : World} {g n : Nat} {d : Array Nat} {rest : List Value} (h : RowU w g d rest) (hn : d.size = n) (f : Fr (fun _ => False) w wr) : RowU wr g d rest := h.fr f (fun h => h)
set_option maxRecDepth 100000 in
set_option maxHeartbeats 2000000 in
theorem ord2_c (w : World) (g c a b p : Nat) (s : Nat) (d : Array Nat) (rest : List Value) (hR : RowU w g d rest) (hp : Blk w p 3 #[.int .i64 (s : Nat)]) (ha : a < d.size) (hb : b < d.size) (hs : s ≤ 1000) (hsz : d.size ≤ 1000000) :
    Calls Try.prog 58 #[.slice (some ⟨g, 0, none⟩) d.size c, .int .i64 a, .int .i64 b, .pointer (some ⟨p, 0, none⟩)] w fun e w' => ∃ x y s' : Nat, e = .returned (.tuple #[.int .i64 x, .int .i64 y]) ∧ (x = a ∧ y = b ∨ x = b ∧ y = a) ∧ s' ≤ s + 1 ∧
      Blk w' p 3 #[.int .i64 (s' : Nat)] ∧ Fr (fun k => k = p) w w' := by
  obtain ⟨n, hn⟩ : ∃ n, d.size = n := ⟨_, rfl⟩
  have N1 : Hid (Now w g rest n w d) := hn ▸ Now.start hR
  rw [hn] at ha hb hsz ⊢
  obtain ⟨G, hG⟩ : ∃ G : Nat → Nat, ∀ t, d[t]! = G t := ⟨fun t => d[t]!, fun _ => rfl⟩
  have hcw := N1.out.cells
  simp only [hG] at hcw
  have k1 : (a : Int) < n := by omega
  have k2 : (b : Int) < n := by omega
  have HP := Lib.hid hp
  clear hG hR hn hp N1
  go_enter Try.func58, Try.ntmps58
  go_wp2_with fail
  go_quiet (first | (go_at_call 47; refine Calls.quiet_of_same (less_c _ _ _)))
  have P2 := Lib.hid (HP.out.drewN nq)
  have F2 := Lib.hid ((Fr.refl (fun k => k = p) w).drewN nq)
  generalize w.drewN nq = w2 at *
  have q0 := P2.out.cell 0
  have z0 := P2.out.frozen 0
  simp only [List.getElem?_toArray, List.getElem?_cons_zero] at q0
  go_wp2_with fail
  · go_ret2
    exact ⟨b, a, s + 1, rfl, .inr ⟨rfl, rfl⟩, Nat.le_refl _, P2.out.set_ 0 _, F2.out.setCell (p := ⟨p, 0, none⟩) (fun _ => rfl) _⟩
  · go_ret2
    exact ⟨a, b, s, rfl, .inl ⟨rfl, rfl⟩, by omega, P2.out, F2.out⟩
/-- The row and the count. -/
structure RC (w : World) (g : Nat) (d : Array Nat) (rest : List Value) (p s : Nat) (w' : World) : Prop where
  row : RowU w' g d rest
  cnt : Blk w' p 3 #[.int .i64 (s : Nat)]
  fr : Fr (fun k => k = p) w w'
theorem RC.go {w w' w2 : World} {g p s s2 : Nat} {d : Array Nat} {rest : List Value} (h : RC w g d rest p s w') (hne : g ≠ p) (b : Blk w2 p 3 #[.int .i64 (s2 : Nat)]) (f : Fr (fun k => k = p) w' w2) : RC w g d rest p s2 w2 :=
  ⟨h.row.fr f hne, b, h.fr.trans f (fun _ _ h => h)⟩
set_option maxRecDepth 100000 in
set_option maxHeartbeats 2000000 in
theorem med_c (w : World) (g c a b m p : Nat) (s : Nat) (d : Array Nat) (rest : List Value) (hR : RowU w g d rest) (hp : Blk w p 3 #[.int .i64 (s : Nat)]) (hne : g ≠ p) (ha : a < d.size) (hb : b < d.size) (hm : m < d.size) (hs : s ≤ 900) (hsz : d.size ≤ 1000000) :
    Calls Try.prog 56 #[.slice (some ⟨g, 0, none⟩) d.size c, .int .i64 a, .int .i64 b, .int .i64 m, .pointer (some ⟨p, 0, none⟩)] w fun e w' => ∃ x s' : Nat, e = .returned (.int .i64 x) ∧ (x = a ∨ x = b ∨ x = m) ∧ s' ≤ s + 3 ∧ RC w g d rest p s' w' := by
  have R0 : Hid (RC w g d rest p s w) := ⟨hR, hp, Fr.refl _ _⟩
  have HNE := Lib.hid hne
  clear hR hp hne
  go_enter Try.func56, Try.ntmps56
  go_wp2_with fail
  have h := ord2_c w g c a b p s d rest R0.out.row R0.out.cnt ha hb (by omega) hsz
  refine h.mono ?_
  clear h
  rintro e w1 ⟨x1, y1, s1, rfl, h1, hs1, b1, f1⟩
  have R1 := Lib.hid (R0.out.go HNE.out b1 f1)
  clear b1 f1 R0
  have hx1 : x1 < d.size := by omega
  have hy1 : y1 < d.size := by omega
  go_wp2_with fail
  have h := ord2_c w1 g c y1 m p s1 d rest R1.out.row R1.out.cnt hy1 hm (by omega) hsz
  refine h.mono ?_
  clear h
  rintro e w2 ⟨x2, y2, s2, rfl, h2, hs2, b2, f2⟩
  have R2 := Lib.hid (R1.out.go HNE.out b2 f2)
  clear b2 f2 R1
  have hx2 : x2 < d.size := by omega
  go_wp2_with fail
  have h := ord2_c w2 g c x1 x2 p s2 d rest R2.out.row R2.out.cnt hx1 hx2 (by omega) hsz
  refine h.mono ?_
  clear h
  rintro e w3 ⟨x3, y3, s3, rfl, h3, hs3, b3, f3⟩
  have R3 := Lib.hid (R2.out.go HNE.out b3 f3)
  clear b3 f3 R2
  go_wp2_with fail
  go_ret
  exact ⟨y3, s3, rfl, by omega, by omega, R3.out⟩
set_option maxRecDepth 100000 in
set_option maxHeartbeats 2000000 in
theorem medA_c (w : World) (g c a p : Nat) (s : Nat) (d : Array Nat) (rest : List Value) (hR : RowU w g d rest) (hp : Blk w p 3 #[.int .i64 (s : Nat)]) (hne : g ≠ p) (h1 : 1 ≤ a) (ha : a + 1 < d.size) (hs : s ≤ 900) (hsz : d.size ≤ 1000000) :
    Calls Try.prog 55 #[.slice (some ⟨g, 0, none⟩) d.size c, .int .i64 a, .pointer (some ⟨p, 0, none⟩)] w fun e w' => ∃ x s' : Nat, e = .returned (.int .i64 x) ∧ a ≤ x + 1 ∧ x ≤ a + 1 ∧ s' ≤ s + 3 ∧ RC w g d rest p s' w' := by
  obtain ⟨a1, e1⟩ : ∃ a1, a1 + 1 = a := ⟨a - 1, by omega⟩
  subst e1
  have i1 : ((a1 + 1 : Nat) : Int) - 1 = (a1 : Int) := by omega
  have i2 : ((a1 + 1 : Nat) : Int) + 1 = ((a1 + 2 : Nat) : Int) := by omega
  have hM := Lib.hid (med_c w g c a1 (a1 + 1) (a1 + 2) p s d rest hR hp hne (by omega) (by omega) (by omega) hs hsz)
  clear hR hp hne
  go_enter Try.func55, Try.ntmps55
  rw [show ((a1 + 1 : Nat) : Int) = (a1 : Int) + 1 from by omega] at *
  go_wp2_with fail
  first
    | refine (Calls.mono hM.out ?_)
    | skip
  rintro e w1 ⟨x, s', rfl, hx, hs', r⟩
  have R := Lib.hid r
  clear r
  go_wp2_with fail
  go_ret
  exact ⟨x, s', rfl, by omega, by omega, hs', R.out⟩
end Go.Proofs.Ytpgklhbbjbdejaa
