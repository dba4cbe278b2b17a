/-
  CONTRACTS of code.Reader's calls, outermost: made by program out of one text for the three that read numbers.
-/
import Derived.Test.YtokhebplmldfkaaRc
namespace Go.Proofs.Ytokhebplmldfkaa
set_option linter.unusedSimpArgs false
set_option linter.unusedVariables false
open Go Go.RowKit

/-- What the reading of a number leaves. -/
def NumOut (k : IntKind) (rd : Option (Nat × Nat)) (w : World) (b : Nat) (v : Value) (l : List UInt8) (p : Nat) (e : Ending) (w' : World) : Prop :=
  Fr (fun k => k = b) w w' ∧ ((∃ x n, rd = some (x, n) ∧ e = .returned (.int k (x : Int)) ∧ Rr w' b v l (p + n) false) ∨ (rd = none ∧ e = .returned (.int k 0) ∧ Rr w' b v l p true))
theorem numOut_of {k : IntKind} {rd : Option (Nat × Nat)} {w w' : World} {b : Nat} {v : Value} {l : List UInt8} {p : Nat} {e : Ending} {x : Int} {q : Nat} {f : Bool} (hx : 0 ≤ x ∧ RdIn rd p x.toNat q f) (hf : Fr (fun k => k = b) w w')
    (h : (f = false ∧ e = .returned (.int k x) ∧ Rr w' b v l q false) ∨ (f = true ∧ e = .returned (.int k 0) ∧ Rr w' b v l p true)) : NumOut k rd w b v l p e w' := by
  refine ⟨hf, ?_⟩
  obtain ⟨h0, hr⟩ := hx
  unfold RdIn at hr
  split at hr
  · obtain ⟨rfl, rfl, rfl⟩ := hr
    rcases h with ⟨_, he, h⟩ | ⟨h, _⟩
    · exact .inl ⟨_, _, rfl, by rw [he]; congr 2; omega, h⟩
    · cases h
  · subst hr
    rcases h with ⟨h, _⟩ | ⟨_, he, h⟩
    · cases h
    · exact .inr ⟨rfl, he, h⟩

set_option maxHeartbeats 400000 in
theorem ruint_c (w : World) (b : Nat) (v : Value) (l : List UInt8) (p : Nat) (h : Rr w b v l p false) :
    Calls Try.prog 29 #[.pointer (some ⟨b, 0, none⟩)] w (NumOut .u64 (rdNum (l.drop p)) w b v l p) := by
  have hmk := mkf
  have hb := h.1.lt
  have H := Lib.hid h
  clear h
  go_enter Try.func29, Try.ntmps29
  go_wp2_with fail
  have HA := H.out.fr ((Fr.refl (fun _ => False) w).alloc (.cells #[.pointer (some ⟨b, 0, none⟩)] 36)) (fun h => h) (fun _ _ h => h)
  refine (unit64_c _ b v l p 51 _ (fun x q f => 0 ≤ x ∧ RdIn (rdNum (l.drop p)) p x.toNat q f) HA (cf_Uint1 _) ?_).mono ?_
  · intro w1 f1
    exact uint1_c w1 b w.heap.size v l p ((Blk.new w 36 #[.pointer (some ⟨b, 0, none⟩)]).fr f1 (fun h => h)) (HA.fr f1 (fun h => h) (fun _ _ h => h))
  rintro e w2 ⟨x, q, f, hres, f2, h2⟩
  have H2 : NumOut .u64 (rdNum (l.drop p)) w b v l p e w2 := numOut_of hres (((Fr.refl _ w).alloc _).trans f2 (fun _ _ h => h)) h2
  have HH2 := Lib.hid H2
  rcases h2 with ⟨_, rfl, h9⟩ | ⟨_, rfl, h9⟩
  all_goals
    clear H2 h9
    go_wp2_with fail
    go_ret
    exact HH2.out
set_option maxHeartbeats 400000 in
theorem ruint_bad (w : World) (po : Option Addr) (herr : ∀ W, Fr (fun _ => False) w W → Calls Try.prog 22 #[.pointer po] W fun e w' => e = .returned (.int .i64 2) ∧ W = w') :
    Calls Try.prog 29 #[.pointer po] w fun e w' => e = .returned (.int .u64 0) ∧ Fr (fun _ => False) w w' := by
  have hmk := mkf
  have HE := Lib.hid herr
  clear herr
  go_enter Try.func29, Try.ntmps29
  go_wp2_with fail
  refine (unit64_bad _ po _ (fun W hW => HE.out W (((Fr.refl _ w).alloc _).trans hW (fun _ _ h => h)))).mono ?_
  rintro e w2 ⟨rfl, f2⟩
  have FF := Lib.hid (((Fr.refl (fun _ => False) w).alloc (.cells #[.pointer po] 36)).trans f2 (fun _ _ h => h))
  clear f2
  go_wp2_with fail
  go_ret
  exact ⟨rfl, FF.out⟩

set_option maxHeartbeats 400000 in
theorem ru8_c (w : World) (b : Nat) (v : Value) (l : List UInt8) (p : Nat) (h : Rr w b v l p false) :
    Calls Try.prog 33 #[.pointer (some ⟨b, 0, none⟩)] w (NumOut .u8 (rdFix 1 (l.drop p)) w b v l p) := by
  have hmk := mkf
  have hb := h.1.lt
  have H := Lib.hid h
  clear h
  go_enter Try.func33, Try.ntmps33
  go_wp2_with fail
  have HA := H.out.fr ((Fr.refl (fun _ => False) w).alloc (.cells #[.pointer (some ⟨b, 0, none⟩)] 36)) (fun h => h) (fun _ _ h => h)
  refine (unit8_c _ b v l p 57 _ (fun x q f => 0 ≤ x ∧ RdIn (rdFix 1 (l.drop p)) p x.toNat q f) HA (cf_U81 _) ?_).mono ?_
  · intro w1 f1
    exact u81_c w1 b w.heap.size v l p ((Blk.new w 36 #[.pointer (some ⟨b, 0, none⟩)]).fr f1 (fun h => h)) (HA.fr f1 (fun h => h) (fun _ _ h => h))
  rintro e w2 ⟨x, q, f, hres, f2, h2⟩
  have H2 : NumOut .u8 (rdFix 1 (l.drop p)) w b v l p e w2 := numOut_of hres (((Fr.refl _ w).alloc _).trans f2 (fun _ _ h => h)) h2
  have HH2 := Lib.hid H2
  rcases h2 with ⟨_, rfl, h9⟩ | ⟨_, rfl, h9⟩
  all_goals
    clear H2 h9
    go_wp2_with fail
    go_ret
    exact HH2.out
set_option maxHeartbeats 400000 in
theorem ru8_bad (w : World) (po : Option Addr) (herr : ∀ W, Fr (fun _ => False) w W → Calls Try.prog 22 #[.pointer po] W fun e w' => e = .returned (.int .i64 2) ∧ W = w') :
    Calls Try.prog 33 #[.pointer po] w fun e w' => e = .returned (.int .u8 0) ∧ Fr (fun _ => False) w w' := by
  have hmk := mkf
  have HE := Lib.hid herr
  clear herr
  go_enter Try.func33, Try.ntmps33
  go_wp2_with fail
  refine (unit8_bad _ po _ (fun W hW => HE.out W (((Fr.refl _ w).alloc _).trans hW (fun _ _ h => h)))).mono ?_
  rintro e w2 ⟨rfl, f2⟩
  have FF := Lib.hid (((Fr.refl (fun _ => False) w).alloc (.cells #[.pointer po] 36)).trans f2 (fun _ _ h => h))
  clear f2
  go_wp2_with fail
  go_ret
  exact ⟨rfl, FF.out⟩

set_option maxHeartbeats 400000 in
theorem ru32_c (w : World) (b : Nat) (v : Value) (l : List UInt8) (p : Nat) (h : Rr w b v l p false) :
    Calls Try.prog 42 #[.pointer (some ⟨b, 0, none⟩)] w (NumOut .u32 (rdFix 4 (l.drop p)) w b v l p) := by
  have hmk := mkf
  have hb := h.1.lt
  have H := Lib.hid h
  clear h
  go_enter Try.func42, Try.ntmps42
  go_wp2_with fail
  have HA := H.out.fr ((Fr.refl (fun _ => False) w).alloc (.cells #[.pointer (some ⟨b, 0, none⟩)] 36)) (fun h => h) (fun _ _ h => h)
  refine (unit32_c _ b v l p 60 _ (fun x q f => 0 ≤ x ∧ RdIn (rdFix 4 (l.drop p)) p x.toNat q f) HA (cf_U321 _) ?_).mono ?_
  · intro w1 f1
    exact u321_c w1 b w.heap.size v l p ((Blk.new w 36 #[.pointer (some ⟨b, 0, none⟩)]).fr f1 (fun h => h)) (HA.fr f1 (fun h => h) (fun _ _ h => h))
  rintro e w2 ⟨x, q, f, hres, f2, h2⟩
  have H2 : NumOut .u32 (rdFix 4 (l.drop p)) w b v l p e w2 := numOut_of hres (((Fr.refl _ w).alloc _).trans f2 (fun _ _ h => h)) h2
  have HH2 := Lib.hid H2
  rcases h2 with ⟨_, rfl, h9⟩ | ⟨_, rfl, h9⟩
  all_goals
    clear H2 h9
    go_wp2_with fail
    go_ret
    exact HH2.out
set_option maxHeartbeats 400000 in
theorem ru32_bad (w : World) (po : Option Addr) (herr : ∀ W, Fr (fun _ => False) w W → Calls Try.prog 22 #[.pointer po] W fun e w' => e = .returned (.int .i64 2) ∧ W = w') :
    Calls Try.prog 42 #[.pointer po] w fun e w' => e = .returned (.int .u32 0) ∧ Fr (fun _ => False) w w' := by
  have hmk := mkf
  have HE := Lib.hid herr
  clear herr
  go_enter Try.func42, Try.ntmps42
  go_wp2_with fail
  refine (unit32_bad _ po _ (fun W hW => HE.out W (((Fr.refl _ w).alloc _).trans hW (fun _ _ h => h)))).mono ?_
  rintro e w2 ⟨rfl, f2⟩
  have FF := Lib.hid (((Fr.refl (fun _ => False) w).alloc (.cells #[.pointer po] 36)).trans f2 (fun _ _ h => h))
  clear f2
  go_wp2_with fail
  go_ret
  exact ⟨rfl, FF.out⟩

theorem err_bad (w : World) (b : Nat) (v : Value) (l : List UInt8) (p : Nat) (h : Rr w b v l p true) : ∀ W, Fr (fun _ => False) w W → Calls Try.prog 22 #[.pointer (some ⟨b, 0, none⟩)] W fun e w' => e = .returned (.int .i64 2) ∧ W = w' := by
  intro W hW
  have := err_c b W v p true (h.fr hW (fun h => h) (fun _ _ h => h)).1
  simpa using this
theorem err_bad_nil (w : World) : ∀ W, Fr (fun _ => False) w W → Calls Try.prog 22 #[.pointer none] W fun e w' => e = .returned (.int .i64 2) ∧ W = w' := fun W _ => err_nil W

/-- What the reading of a text leaves. -/
def TextOut (rd : Option (List UInt8 × Nat)) (w : World) (b : Nat) (v : Value) (l : List UInt8) (p : Nat) (e : Ending) (w' : World) : Prop :=
  Fr (fun k => k = b) w w' ∧ ((∃ x n, rd = some (x, n) ∧ e = .returned (.string (strOf x)) ∧ Rr w' b v l (p + n) false) ∨ (rd = none ∧ e = .returned (.string ⟨#[]⟩) ∧ Rr w' b v l p true))

set_option maxHeartbeats 400000 in
theorem rtext_c (w : World) (b : Nat) (v : Value) (l : List UInt8) (p : Nat) (most : Int) (hm0 : -9223372036854775808 ≤ most) (hm1 : most ≤ 9223372036854775807) (h : Rr w b v l p false) :
    Calls Try.prog 32 #[.pointer (some ⟨b, 0, none⟩), .int .i64 most] w (TextOut (rdText most (l.drop p)) w b v l p) := by
  have hmk := mkf
  have hb := h.1.lt
  have H := Lib.hid h
  clear h
  go_enter Try.func32, Try.ntmps32
  go_wp2_with fail
  have HA := H.out.fr (((Fr.refl (fun _ => False) w).alloc (.cells #[.pointer (some ⟨b, 0, none⟩)] 36)).alloc (.cells #[.int .i64 most] 3)) (fun h => h) (fun _ _ h => h)
  have G1 := (Blk.new w 36 #[.pointer (some ⟨b, 0, none⟩)]).alloc (.cells #[.int .i64 most] 3)
  have G2 := Blk.new (w.alloc (.cells #[.pointer (some ⟨b, 0, none⟩)] 36)) 3 #[.int .i64 most]
  simp only [World.size_alloc] at G2
  refine (unitS_c _ b v l p 54 _ (fun x q f => RdIn (rdText most (l.drop p)) p (sb x) q f) HA (cf_Text1 _) ?_).mono ?_
  · intro w1 f1
    exact text1_c w1 b _ _ v l p most hm0 hm1 (G1.fr f1 (fun h => h)) (G2.fr f1 (fun h => h)) (HA.fr f1 (fun h => h) (fun _ _ h => h))
  rintro e w2 ⟨x, q, f, hres, f2, h2⟩
  have H2 : TextOut (rdText most (l.drop p)) w b v l p e w2 := by
    refine ⟨(((Fr.refl _ w).alloc _).alloc _).trans f2 (fun _ _ h => h), ?_⟩
    unfold RdIn at hres
    split at hres
    · rename_i y n hy
      obtain ⟨hy2, rfl, rfl⟩ := hres
      rcases h2 with ⟨_, he, h⟩ | ⟨h, _⟩
      · exact .inl ⟨y, n, hy, by rw [he, hy2, strOf_sb], h⟩
      · cases h
    · rename_i hy
      subst hres
      rcases h2 with ⟨h, _⟩ | ⟨_, he, h⟩
      · cases h
      · exact .inr ⟨hy, he, h⟩
  have HH2 := Lib.hid H2
  rcases h2 with ⟨_, rfl, h9⟩ | ⟨_, rfl, h9⟩
  all_goals
    clear H2 h9
    go_wp2_with fail
    go_ret
    exact HH2.out
set_option maxHeartbeats 400000 in
theorem rtext_bad (w : World) (po : Option Addr) (most : Int) (herr : ∀ W, Fr (fun _ => False) w W → Calls Try.prog 22 #[.pointer po] W fun e w' => e = .returned (.int .i64 2) ∧ W = w') :
    Calls Try.prog 32 #[.pointer po, .int .i64 most] w fun e w' => e = .returned (.string ⟨#[]⟩) ∧ Fr (fun _ => False) w w' := by
  have hmk := mkf
  have HE := Lib.hid herr
  clear herr
  go_enter Try.func32, Try.ntmps32
  go_wp2_with fail
  refine (unitS_bad _ po _ (fun W hW => HE.out W ((((Fr.refl _ w).alloc _).alloc _).trans hW (fun _ _ h => h)))).mono ?_
  rintro e w2 ⟨rfl, f2⟩
  have FF := Lib.hid ((((Fr.refl (fun _ => False) w).alloc (.cells #[.pointer po] 36)).alloc (.cells #[.int .i64 most] 3)).trans f2 (fun _ _ h => h))
  clear f2
  go_wp2_with fail
  go_ret
  exact ⟨rfl, FF.out⟩

/-- What the reading of bytes as they are leaves. -/
def RawOut (k : Int) (w : World) (b : Nat) (v : Value) (l : List UInt8) (p : Nat) (e : Ending) (w' : World) : Prop :=
  Fr (fun k => k = b) w w' ∧ ((∃ x n, rdRaw k (l.drop p) = some (x, n) ∧ Rr w' b v l (p + n) false ∧ ∃ A c, e = .returned (.slice A x.length c) ∧ w'.ownsRow w.heap.size 5 1 (.slice A x.length c) x.length (bv x)) ∨
    (rdRaw k (l.drop p) = none ∧ e = .returned (.slice none 0 0) ∧ Rr w' b v l p true))

set_option maxHeartbeats 400000 in
theorem rraw_c (w : World) (b : Nat) (v : Value) (l : List UInt8) (p : Nat) (k : Int) (hm0 : -9223372036854775808 ≤ k) (hm1 : k ≤ 9223372036854775807) (h : Rr w b v l p false) :
    Calls Try.prog 43 #[.pointer (some ⟨b, 0, none⟩), .int .i64 k] w (RawOut k w b v l p) := by
  have hmk := mkf
  have hb := h.1.lt
  have H := Lib.hid h
  clear h
  go_enter Try.func43, Try.ntmps43
  go_wp2_with fail
  have HA := H.out.fr (((Fr.refl (fun _ => False) w).alloc (.cells #[.pointer (some ⟨b, 0, none⟩)] 36)).alloc (.cells #[.int .i64 k] 3)) (fun h => h) (fun _ _ h => h)
  have G1 := (Blk.new w 36 #[.pointer (some ⟨b, 0, none⟩)]).alloc (.cells #[.int .i64 k] 3)
  have G2 := Blk.new (w.alloc (.cells #[.pointer (some ⟨b, 0, none⟩)] 36)) 3 #[.int .i64 k]
  simp only [World.size_alloc] at G2
  refine (unitB_c _ b v l p 62 ((l.drop p).take k.toNat) _ (fun _ _ _ q f => (rdRaw k (l.drop p)).isSome = !f ∧ (f = false → q = p + k.toNat)) HA (cf_Raw1 _) ?_).mono ?_
  · intro w1 f1
    refine (raw1_c w1 b _ _ v l p k hm0 hm1 (G1.fr f1 (fun h => h)) (G2.fr f1 (fun h => h)) (HA.fr f1 (fun h => h) (fun _ _ h => h))).mono ?_
    rintro e w' ⟨A, n, c, q, f, h1, h2, h3, h4, h5⟩
    exact ⟨A, n, c, q, f, h1, h2, h3, h4, h5⟩
  rintro e w2 ⟨A, n, c, q, f, hres, f2, h2⟩
  have H2 : RawOut k w b v l p e w2 := by
    refine ⟨(((Fr.refl _ w).alloc _).alloc _).trans f2 (fun _ _ h => h), ?_⟩
    obtain ⟨hr, hq⟩ := hres
    rcases h2 with ⟨rfl, he, h, how, hn⟩ | ⟨rfl, he, h⟩
    · obtain rfl := hq rfl
      have hrs : rdRaw k (l.drop p) = some ((l.drop p).take k.toNat, k.toNat) := by
        revert hr
        unfold rdRaw
        split
        · intro h; cases h
        · split
          · intro _; rfl
          · intro h; cases h
      refine .inl ⟨_, _, hrs, h, A, c, by rw [he, hn], ?_⟩
      rw [← hn] at how ⊢
      exact own_base how (fun kk hkk => by have := (how.lt kk hkk).1; simp at this; omega)
    · refine .inr ⟨?_, he, h⟩
      cases hh : rdRaw k (l.drop p) with
      | none => rfl
      | some _ => rw [hh] at hr; cases hr
  have HH2 := Lib.hid H2
  rcases h2 with ⟨_, rfl, h9⟩ | ⟨_, rfl, h9⟩
  all_goals
    clear H2 h9
    go_wp2_with fail
    go_ret
    exact HH2.out
set_option maxHeartbeats 400000 in
theorem rraw_bad (w : World) (po : Option Addr) (k : Int) (herr : ∀ W, Fr (fun _ => False) w W → Calls Try.prog 22 #[.pointer po] W fun e w' => e = .returned (.int .i64 2) ∧ W = w') :
    Calls Try.prog 43 #[.pointer po, .int .i64 k] w fun e w' => e = .returned (.slice none 0 0) ∧ Fr (fun _ => False) w w' := by
  have hmk := mkf
  have HE := Lib.hid herr
  clear herr
  go_enter Try.func43, Try.ntmps43
  go_wp2_with fail
  refine (unitB_bad _ po _ (fun W hW => HE.out W ((((Fr.refl _ w).alloc _).alloc _).trans hW (fun _ _ h => h)))).mono ?_
  rintro e w2 ⟨rfl, f2⟩
  have FF := Lib.hid ((((Fr.refl (fun _ => False) w).alloc (.cells #[.pointer po] 36)).alloc (.cells #[.int .i64 k] 3)).trans f2 (fun _ _ h => h))
  clear f2
  go_wp2_with fail
  go_ret
  exact ⟨rfl, FF.out⟩

set_option maxHeartbeats 400000 in
theorem at_c (w : World) (b : Nat) (v : Value) (l : List UInt8) (p : Nat) (f : Bool) (h : Rr w b v l p f) :
    Calls Try.prog 21 #[.pointer (some ⟨b, 0, none⟩)] w fun e w' => e = .returned (.int .i64 p) ∧ w = w' := by
  have c1 := h.1.cell 1
  clear h
  go_enter Try.func21, Try.ntmps21
  go_wp2_with fail
  go_ret
  exact ⟨rfl, rfl⟩
set_option maxHeartbeats 400000 in
theorem at_nil (w : World) : Calls Try.prog 21 #[.pointer none] w fun e w' => e = .returned (.int .i64 0) ∧ w = w' := by
  go_enter Try.func21, Try.ntmps21
  go_wp2_with fail
  go_ret
  exact ⟨rfl, rfl⟩
theorem rerr_c (w : World) (b : Nat) (v : Value) (l : List UInt8) (p : Nat) (f : Bool) (h : Rr w b v l p f) :
    Calls Try.prog 22 #[.pointer (some ⟨b, 0, none⟩)] w fun e w' => e = .returned (.int .i64 (if f then 2 else 0)) ∧ w = w' := err_c b w v p f h.1
set_option maxHeartbeats 400000 in
theorem fail_c (w : World) (b : Nat) (v : Value) (l : List UInt8) (p : Nat) (f : Bool) (h : Rr w b v l p f) :
    Calls Try.prog 18 #[.pointer (some ⟨b, 0, none⟩)] w fun e w' => e = .returned (.tuple #[]) ∧ Rr w' b v l p true ∧ Fr (fun k => k = b) w w' := by
  have c2 := h.1.cell 2
  have k2 := h.1.frozen 2
  have R := Lib.hid h.failed
  clear h
  go_enter Try.func18, Try.ntmps18
  go_wp2_with fail
  go_end0
  exact ⟨rfl, R.out, (Fr.refl (fun k => k = b) w).setCell (fun _ => rfl) _⟩
set_option maxHeartbeats 400000 in
theorem fail_nil (w : World) : Calls Try.prog 18 #[.pointer none] w fun e w' => e = .returned (.tuple #[]) ∧ w = w' := by
  go_enter Try.func18, Try.ntmps18
  go_wp2_with fail
  go_end0
  exact ⟨rfl, rfl⟩

/-- What End leaves: a fault unless the place is the end, and no fault was there. -/
def EndOut (w : World) (b : Nat) (v : Value) (l : List UInt8) (p : Nat) (f : Bool) (e : Ending) (w' : World) : Prop :=
  e = .returned (.int .i64 (if f = true ∨ p < l.length then 2 else 0)) ∧ Rr w' b v l p (f || decide (p < l.length)) ∧ Fr (fun k => k = b) w w'

set_option maxHeartbeats 400000 in
theorem end_c (w : World) (b : Nat) (v : Value) (l : List UInt8) (p : Nat) (f : Bool) (h : Rr w b v l p f) :
    Calls Try.prog 24 #[.pointer (some ⟨b, 0, none⟩)] w (EndOut w b v l p f) := by
  obtain ⟨A, c, rfl, hc1, hc2⟩ := own_slice h.2.1
  have c0 := h.1.cell 0
  have c1 := h.1.cell 1
  have c2 := h.1.cell 2
  have k2 := h.1.frozen 2
  have hp := h.2.2
  have H := Lib.hid h
  clear h
  by_cases hlt : p < l.length
  · have hd : decide ((p : Int) < (l.length : Int)) = true := by simp; omega
    go_enter Try.func24, Try.ntmps24
    go_wp2_with fail
    go_quiet (fail)
    go_wp2_with fail
    have R := (H.out.drewN nq).failed
    refine (rerr_c _ b _ l p true R).mono ?_
    rintro e w' ⟨rfl, rfl⟩
    have HR := Lib.hid R
    clear R
    go_wp2_with fail
    go_ret
    exact ⟨by simp [hlt], by simpa [hlt] using HR.out, ((Fr.refl (fun k => k = b) w).drewN nq).setCell (fun _ => rfl) _⟩
  · have hd : decide ((p : Int) < (l.length : Int)) = false := by simp; omega
    cases f
    all_goals
      go_enter Try.func24, Try.ntmps24
      go_wp2_with fail
      go_quiet (fail)
      go_wp2_with fail
      have R := (H.out.drewN nq)
      refine (rerr_c _ b _ l p _ R).mono ?_
      rintro e w' ⟨rfl, rfl⟩
      have HR := Lib.hid R
      clear R
      go_wp2_with fail
      go_ret
      exact ⟨by simp [hlt], by simpa [hlt] using HR.out, (Fr.refl (fun k => k = b) w).drewN nq⟩
set_option maxHeartbeats 400000 in
theorem end_nil (w : World) : Calls Try.prog 24 #[.pointer none] w fun e w' => e = .returned (.int .i64 2) ∧ Fr (fun _ => False) w w' := by
  go_enter Try.func24, Try.ntmps24
  go_wp2_with fail
  go_quiet (fail)
  go_wp2_with fail
  refine (err_nil _).mono ?_
  rintro e w' ⟨rfl, rfl⟩
  go_wp2_with fail
  go_ret
  exact ⟨rfl, (Fr.refl (fun _ => False) w).drewN nq⟩
end Go.Proofs.Ytokhebplmldfkaa
