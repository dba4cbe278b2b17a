/-
  THE WALK OF 'tidewracklaw02.CodeReads': what any bytes read, whatever is asked, is the document's.
-/
import Derived.Test.YtokhebplmldfkaaMeant
import Derived.Test.YtokhebplmldfkaaOpen
namespace Go.Proofs.Ytokhebplmldfkaa
set_option linter.unusedSimpArgs false
set_option linter.unusedVariables false
open Go Go.RowKit

/-- What is read of an item, and how far on: nothing behind a fault. -/
def stepRd (t : It) (m : List UInt8) (f : Bool) : (Nat × List UInt8) × Nat × Bool :=
  if f = true then ((0, []), 0, true) else match rdItem t m with
    | some (x, n) => (x, n, false)
    | none => ((0, []), 0, true)
theorem read_any (w : World) (b : Nat) (v : Value) (l : List UInt8) (p : Nat) (f : Bool) (t : It) (ht : t.Ok) (h : Rr w b v l p f) (r : (Nat × List UInt8) × Nat × Bool) (hr : stepRd t (l.drop p) f = r) :
    Calls Try.prog 19 #[.pointer (some ⟨b, 0, none⟩), t.val] w fun e w' => e = .returned (.tuple #[.int .u64 (r.1.1 : Int), .string (strOf r.1.2)]) ∧ Rr w' b v l (p + r.2.1) r.2.2 ∧ Fr (fun k => k = b) w w' := by
  subst hr
  cases f with
  | true =>
    refine (read_bad w _ t ht (err_bad w b v l p h)).mono ?_
    rintro e w' ⟨rfl, f1⟩
    exact ⟨rfl, h.fr f1 (fun h => h) (fun _ _ h => h), f1.mono (fun _ _ h => h.elim)⟩
  | false =>
    refine (read_c w b v l p t ht h).mono ?_
    rintro e w' ⟨f1, ⟨x, s, n, hr, rfl, h1⟩ | ⟨hr, rfl, h1⟩⟩
    · have : stepRd t (l.drop p) false = ((x, s), n, false) := by unfold stepRd; rw [if_neg (by decide), hr]
      rw [this]
      exact ⟨rfl, h1, f1⟩
    · have : stepRd t (l.drop p) false = ((0, []), 0, true) := by unfold stepRd; rw [if_neg (by decide), hr]
      rw [this]
      exact ⟨rfl, h1, f1⟩
theorem meant_any (w : World) (b : Nat) (A : Option Addr) (l : List UInt8) (f : Bool) (t : It) (ht : t.Ok) (h : Rm w b A l f) (hl : l.length ≤ 60000) (r : (Nat × List UInt8) × Nat × Bool) (hr : stepRd t l f = r) :
    Calls Try.prog 20 #[.pointer (some ⟨b, 0, none⟩), t.val] w fun e w' => e = .returned (.tuple #[.int .u64 (r.1.1 : Int), .string (strOf r.1.2)]) ∧ (∃ A'', Rm w' b A'' (l.drop r.2.1) r.2.2 ∧ ∀ k, inA A'' k → inA A k) ∧ Fr (fun k => k = b) w w' := by
  subst hr
  refine (meant_c w b A l f t ht h hl).mono ?_
  rintro e w' ⟨f1, ⟨hf, x, s, n, hr, _, rfl, h1⟩ | ⟨hr, rfl, h1⟩⟩
  · subst hf
    have : stepRd t l false = ((x, s), n, false) := by unfold stepRd; rw [if_neg (by decide), hr]
    rw [this]
    exact ⟨rfl, h1, f1⟩
  · have : stepRd t l f = ((0, []), 0, true) := by
      unfold stepRd
      rcases hr with rfl | hr
      · rfl
      · cases f
        · rw [if_neg (by decide), hr]
        · rfl
    rw [this]
    exact ⟨rfl, ⟨A, by rw [List.drop_zero]; exact h1, fun _ h => h⟩, f1⟩

/-- Both readers, of the bytes l, at p, with a fault or none. -/
structure Bo (w : World) (rb : Nat) (v : Value) (mb : Nat) (A0 : Option Addr) (l : List UInt8) (p : Nat) (f : Bool) (wr : World) : Prop where
  rr : Rr wr rb v l p f
  rm : ∃ A, Rm wr mb A (l.drop p) f ∧ ∀ k, inA A k → inA A0 k
  fr : Fr (fun _ => False) w wr
  r0 : w.heap.size ≤ rb
  m0 : w.heap.size ≤ mb
  ne : rb ≠ mb
  v0 : ∀ k, v.ownBlock = some k → k ≠ mb
  a0 : ∀ k, inA A0 k → k ≠ rb

theorem Bo.start (w : World) (rb : Nat) (v : Value) (l : List UInt8) (w1 : World) (h : RN w rb v l 0 false w1) (hl : l.length ≤ 60000) :
    Bo w rb v (Lib.bytesWorld w1 5 (strOf l)).heap.size (some ⟨w1.heap.size, 0, none⟩) l 0 false ((Lib.bytesWorld w1 5 (strOf l)).alloc (.cells #[.slice (some ⟨w1.heap.size, 0, none⟩) (strOf l).size (grownCap w1 (strOf l).size 0 5), .bool false] 40)) := by
  have f1 := conv_fr w1 (strOf l)
  have r1 := conv_rd w1 (strOf l)
  have hsz : (strOf l).size = l.length := rfl
  have f2 := f1.alloc (.cells #[.slice (some ⟨w1.heap.size, 0, none⟩) (strOf l).size (grownCap w1 (strOf l).size 0 5), .bool false] 40)
  have hlt := h.rr.1.lt
  have hs1 := f1.size
  have hsz2 : (Lib.bytesWorld w1 5 (strOf l)).heap.size = w1.heap.size + 1 := Lib.bytesWorld_size _ _ _
  rw [sb_strOf] at r1
  rw [hsz] at r1 f2 ⊢
  exact {
    rr := h.rr.fr f2 (fun h => h) (fun _ _ h => h)
    rm := ⟨_, ⟨_, by rw [List.drop_zero]; exact Blk.new _ _ _, by rw [List.drop_zero]; exact r1.alloc _, by rw [List.drop_zero]; exact grownCap_ge _ _ _ _, grownCap_le_maxLen _ _ _ _ (by unfold maxLen; omega), fun k hk => by obtain ⟨ad, he, rfl⟩ := hk; injection he with he; subst he; simp only; omega⟩, fun _ h => h⟩
    fr := h.fr.trans f2 (fun _ _ h => h)
    r0 := h.b0
    m0 := by have := h.fr.size; omega
    ne := by omega
    v0 := fun k hk => by have := (h.rr.2.1.lt k hk).2; omega
    a0 := fun k hk => by obtain ⟨ad, he, rfl⟩ := hk; injection he with he; subst he; simp only; omega }
theorem Bo.readr {w wr wj : World} {rb mb : Nat} {v : Value} {A0 : Option Addr} {l : List UInt8} {p q : Nat} {f g : Bool} (h : Bo w rb v mb A0 l p f wr) (hf : Fr (fun k => k = rb) wr wj) (hr : Rr wj rb v l q g) :
    Rr wj rb v l q g ∧ (∃ A, Rm wj mb A (l.drop p) f ∧ ∀ k, inA A k → inA A0 k) ∧ Fr (fun _ => False) w wj := by
  obtain ⟨A, h1, h2⟩ := h.rm
  refine ⟨hr, ⟨A, h1.fr hf (fun e => h.ne e.symm) (fun k hk e => h.a0 k (h2 k hk) e), h2⟩, h.fr.trans hf (fun i hi e => by have := h.r0; omega)⟩
theorem Bo.step {w wr wi wj : World} {rb mb : Nat} {v : Value} {A0 A : Option Addr} {l : List UInt8} {p q : Nat} {f g : Bool} (h : Bo w rb v mb A0 l p f wr) (f1 : Fr (fun k => k = rb) wr wi) (hr : Rr wi rb v l q g) (hA : ∀ k, inA A k → inA A0 k)
    (f2 : Fr (fun k => k = mb) wi wj) (hm : ∃ A'', Rm wj mb A'' (l.drop q) g ∧ ∀ k, inA A'' k → inA A k) : Bo w rb v mb A0 l q g wj := by
  obtain ⟨A'', k1, k2⟩ := hm
  exact {
    rr := hr.fr f2 h.ne (fun k hk e => h.v0 k hk e)
    rm := ⟨A'', k1, fun k hk => hA k (k2 k hk)⟩
    fr := (h.fr.trans f1 (fun i hi e => by have := h.r0; omega)).trans f2 (fun i hi e => by have := h.m0; omega)
    r0 := h.r0, m0 := h.m0, ne := h.ne, v0 := h.v0, a0 := h.a0 }
theorem Bo.drewN {w wr : World} {rb mb : Nat} {v : Value} {A0 : Option Addr} {l : List UInt8} {p : Nat} {f : Bool} (h : Bo w rb v mb A0 l p f wr) (n : Nat) : Bo w rb v mb A0 l p f (wr.drewN n) := by
  obtain ⟨A, h1, h2⟩ := h.rm
  exact { rr := h.rr.drewN n, rm := ⟨A, h1.drewN n, h2⟩, fr := h.fr.drewN n, r0 := h.r0, m0 := h.m0, ne := h.ne, v0 := h.v0, a0 := h.a0 }
theorem Bo.bad {w wr wi : World} {rb mb : Nat} {v : Value} {A0 : Option Addr} {l : List UInt8} {p : Nat} {f : Bool} (h : Bo w rb v mb A0 l p f wr) (f1 : Fr (fun k => k = rb) wr wi) (hr : Rr wi rb v l p true) :
    Bo w rb v mb A0 l p true (wi.setCell ⟨mb, 1, none⟩ (.bool true)) ∧ wi.cell? ⟨mb, 1, none⟩ = some (.bool f) ∧ wi.frozen? ⟨mb, 1, none⟩ = false := by
  obtain ⟨_, ⟨A, h1, h2⟩, h3⟩ := h.readr f1 hr
  have h4 := h1.bad_ true
  refine ⟨h.step f1 hr h2 ((Fr.refl (fun k => k = mb) wi).setCell (p := ⟨mb, 1, none⟩) (fun _ => rfl) _) ⟨A, h4, fun _ h => h⟩, ?_, ?_⟩
  · obtain ⟨c, g, _⟩ := h1
    exact g.cell 1
  · obtain ⟨c, g, _⟩ := h1
    exact g.frozen 1
/-- What the fields hold. -/
theorem Bo.fields {w wr : World} {rb mb : Nat} {v : Value} {A0 : Option Addr} {l : List UInt8} {p : Nat} {f : Bool} (h : Bo w rb v mb A0 l p f wr) : ∃ A L c, L + p = l.length ∧ wr.cell? ⟨mb, 0, none⟩ = some (.slice A L c) ∧ wr.cell? ⟨mb, 1, none⟩ = some (.bool f) := by
  obtain ⟨A, ⟨c, g, _⟩, _⟩ := h.rm
  have := h.rr.2.2.1
  refine ⟨A, _, c, ?_, g.cell 0, g.cell 1⟩
  rw [List.length_drop]
  omega
theorem bbeq (Y : ByteArray) : (Y == Y) = true := by
  cases Y with | mk d => show ByteArray.beq _ _ = true; simp [ByteArray.beq]
theorem bbne (Y : ByteArray) : (Y != Y) = false := by rw [bne, bbeq]; rfl
/-- An item's cells, in every world behind. -/
theorem RdI.cellsAt {w : World} {a off n : Nat} {ts : List It} (h : RdI w (some ⟨a, off, none⟩) n ts) (k : Nat) (hk : k < ts.length) : ∀ W, Fr (fun _ => False) w W →
    W.cell? ⟨a, off + k * 4, none⟩ = some (.int .i64 ts[k].kind) ∧ W.cell? ⟨a, off + k * 4 + 1, none⟩ = some (.int .i64 ts[k].most) ∧ W.cell? ⟨a, off + k * 4 + 2, none⟩ = some (.int .u64 (ts[k].x : Int)) ∧ W.cell? ⟨a, off + k * 4 + 3, none⟩ = some (.string ts[k].s) := by
  intro W hW
  have h1 := h.far hW
  obtain ⟨b, o, he, hc⟩ := h1.2 (by have := h.1; omega)
  injection he with he
  injection he with e1 e2
  subst e1 e2
  exact hc k hk
theorem at_q (w : World) (n b : Nat) (v : Value) (l : List UInt8) (p : Nat) (f : Bool) (h : Rr w b v l p f) :
    Calls Try.prog 21 #[.pointer (some ⟨b, 0, none⟩)] (w.drewN n) fun e w' => e = .returned (.int .i64 p) ∧ w' = w.drewN n := (at_c _ b v l p f (h.drewN n)).mono fun _ _ ⟨h, e⟩ => ⟨h, e.symm⟩
theorem err_q (w : World) (n b : Nat) (v : Value) (l : List UInt8) (p : Nat) (f : Bool) (h : Rr w b v l p f) :
    Calls Try.prog 22 #[.pointer (some ⟨b, 0, none⟩)] (w.drewN n) fun e w' => e = .returned (.int .i64 (if f then 2 else 0)) ∧ w' = w.drewN n := (rerr_c _ b v l p f (h.drewN n)).mono fun _ _ ⟨h, e⟩ => ⟨h, e.symm⟩

theorem len_u8s {H : Type} {enc : TypeId × Value → H} {P : Program} {W : World} {base : Nat} {spare : Nat → Bool} {held : Bool} {t e : TypeId} (ht : P.underlying t = some (.slice e)) (he : P.underlying e = some (.int .u8)) (hc : P.cellsOf e = 1) {a : Option Addr} {len cap : Nat} {d : DataW H} {p : List MemPlace}
    (h : DataW.Trod enc P W base spare held t (.slice a len cap) d p) : len ≤ 9223372036854775807 := by
  obtain ⟨fuel, hf⟩ := h
  rcases Go.ChangeShapes.open_ints ht he hc hf with ⟨hcs, _⟩ | ⟨x, l, c, zs, hcs, _, hl, hm, hz, _, hcell, hwz⟩
  · simp [Value.cells] at hcs
    obtain ⟨rfl, rfl, rfl⟩ := hcs
    omega
  · simp [Value.cells] at hcs
    obtain ⟨rfl, rfl, rfl⟩ := hcs
    unfold maxLen at hm
    omega

set_option maxRecDepth 100000 in
set_option maxHeartbeats 4000000 in
theorem codeReads_c (w : World) (B : Option Addr) (nb cb : Nat) (l : List UInt8) (hb : Rd w B nb (bv l)) (A : Option Addr) (n c : Nat) (ts : List It) (hr : RdI w A n ts) (hok : ∀ t ∈ ts, t.Ok) (hn : n ≤ 9223372036854775807) (hnb : nb ≤ 9223372036854775807) (en : Int) (he0 : -9223372036854775808 ≤ en) (he1 : en ≤ 9223372036854775807) :
    Calls Try.prog 4 #[.slice B nb cb, .slice A n c, .int .i64 en] w fun e w' => e = .returned (.bool true) ∧ Fr (fun _ => False) w w' := by
  have hlc := long_c w A n c ts hr hok hn
  have LC := Lib.hid hlc
  have HR := Lib.hid hr
  have HOK := Lib.hid hok
  have HB := Lib.hid hb
  clear hlc hr hok hb
  by_cases hearly : long ts = true ∨ 60000 < nb
  · rcases hearly with hlong | hlong
    · rw [hlong] at LC
      clear hlong
      go_enter Try.func4, Try.ntmps4
      go_wp2_with fail
      refine LC.out.mono ?_
      rintro e w1 ⟨rfl, rfl⟩
      go_wp2_with fail
      refine (awake_c _).mono ?_
      rintro e w1 ⟨rfl, f1⟩
      have F1 := Lib.hid f1
      clear f1
      go_wp2_with fail
      go_ret
      exact ⟨rfl, F1.out⟩
    · cases hl : long ts with
      | true =>
        rw [hl] at LC
        clear hl
        go_enter Try.func4, Try.ntmps4
        go_wp2_with fail
        refine LC.out.mono ?_
        rintro e w1 ⟨rfl, rfl⟩
        go_wp2_with fail
        refine (awake_c _).mono ?_
        rintro e w1 ⟨rfl, f1⟩
        have F1 := Lib.hid f1
        clear f1
        go_wp2_with fail
        go_ret
        exact ⟨rfl, F1.out⟩
      | false =>
        rw [hl] at LC
        clear hl
        have hd : decide ((60000 : Int) < (nb : Int)) = true := by simp; omega
        go_enter Try.func4, Try.ntmps4
        go_wp2_with fail
        refine LC.out.mono ?_
        rintro e w1 ⟨rfl, rfl⟩
        go_wp2_with fail
        refine (awake_c _).mono ?_
        rintro e w1 ⟨rfl, f1⟩
        have F1 := Lib.hid f1
        clear f1
        go_wp2_with fail
        go_ret
        exact ⟨rfl, F1.out⟩
  · have hlong : long ts = false := by cases h : long ts; rfl; exact absurd (.inl h) hearly
    have hnb2 : nb ≤ 60000 := by omega
    rw [hlong] at LC
    clear hlong hearly
    have cv := conv_str w B nb cb l HB.out
    have CV := Lib.hid cv
    clear cv
    have hcv := CV.out
    go_enter Try.func4, Try.ntmps4
    go_wp2_with fail
    refine LC.out.mono ?_
    rintro e w1 ⟨rfl, rfl⟩
    go_wp2_with fail
    refine (newReader_n _ B nb cb l HB.out (by omega)).mono ?_
    rintro e w1 ⟨rb, v, rfl, h1⟩
    have H1 := Lib.hid h1
    clear h1
    have hc2 := fun W => Lib.run_convert_string_bytes (P := Try.prog) W 9 27 5 (strOf l) Try.underlying9 Try.underlying27 Try.underlying5
    go_wp2_with fail
    have B1 := Lib.hid (Bo.start w rb v l w1 H1.out (by have := HB.out.1; rw [bv_length] at this; omega))
    have HSZ : Hid ((strOf l).size = nb) := by have := HB.out.1; rw [bv_length] at this; exact this
    obtain ⟨S, hS⟩ : ∃ S, strOf l = S := ⟨_, rfl⟩
    rw [hS] at B1 CV HSZ ⊢
    have HS := Lib.hid hS
    clear hcv hc2 hS
    generalize ((Lib.bytesWorld w1 5 S).alloc (.cells #[.slice (some ⟨w1.heap.size, 0, none⟩) S.size (grownCap w1 S.size 0 5), .bool false] 40)) = w2 at *
    generalize (Lib.bytesWorld w1 5 S).heap.size = mb at *
    generalize (some ⟨w1.heap.size, 0, none⟩ : Option Addr) = A0 at *
    go_loopw [10] (fun i wr => ∃ k : Nat, k ≤ n ∧ i = .int .i64 k ∧ Hid (∃ p f, Bo w rb v mb A0 l p f wr)) (fun i _ => n - (intOf i).toNat)
    case atStart => exact ⟨0, Nat.zero_le _, rfl, _, _, B1.out⟩
    case round =>
      obtain ⟨k, hk, rfl, hbo⟩ := hrel
      obtain ⟨p, f, hbo⟩ := hbo.out
      have BO := Lib.hid hbo
      clear hbo
      by_cases hlt : k < n
      · have ra := HR.out.far BO.out.fr
        obtain ⟨a, off, rfl, hc⟩ := ra.2 (by omega)
        have hkl : k < ts.length := by rw [HR.out.1]; exact hlt
        have CL := Lib.hid (RdI.cellsAt HR.out k hkl)
        have hOK := HOK.out ts[k] (List.getElem_mem _)
        generalize ts[k] = t at *
        have OK := Lib.hid hOK
        clear hc ra hOK
        by_cases hen : (k : Int) = en
        · obtain rfl : en = (k : Int) := hen.symm
          clear hen
          go_wp2_with fail
          refine (fail_c _ rb v l p f BO.out.rr).mono ?_
          rintro e w3 ⟨rfl, h3, f3⟩
          obtain ⟨b3, d0, d1⟩ := BO.out.bad f3 h3
          have BX := Lib.hid b3
          obtain ⟨c0, c1, c2, c3⟩ := CL.out _ b3.fr
          clear h3 f3 b3
          go_wp2_with fail
          refine (read_any _ rb v l p true t OK.out BX.out.rr _ rfl).mono ?_
          rintro e w4 ⟨rfl, r4, f4⟩
          obtain ⟨q, g, x, y, hst⟩ : ∃ q g x y, stepRd t (l.drop p) true = ((x, y), q, g) := ⟨_, _, _, _, rfl⟩
          rw [hst] at r4 ⊢
          obtain ⟨-, ⟨A4, m4, n4⟩, k4⟩ := BX.out.readr f4 r4
          have R4 := Lib.hid r4
          have F4 := Lib.hid f4
          have M4 := Lib.hid m4
          have N4 := Lib.hid n4
          have HST := Lib.hid hst
          have hll : Hid ((l.drop p).length ≤ 60000) := by have := HB.out.1; rw [bv_length] at this; show (l.drop p).length ≤ 60000; rw [List.length_drop]; omega
          obtain ⟨e0, e1, e2, e3⟩ := CL.out _ k4
          simp only
          clear c0 c1 c2 c3 r4 f4 m4 n4 k4 hst
          go_wp2_with fail
          refine (meant_any _ mb A4 (l.drop p) true t OK.out M4.out hll.out _ HST.out).mono ?_
          rintro e w5 ⟨rfl, h5, f5⟩
          have B5 : Hid (Bo w rb v mb A0 l (p + q) g w5) := BX.out.step F4.out R4.out N4.out f5 (by rw [← List.drop_drop]; exact h5)
          clear h5 f5 e0 e1 e2 e3
          obtain ⟨A5, L5, c5, hL5, g0, g1⟩ := B5.out.fields
          obtain ⟨pq, hpq⟩ : ∃ pq, p + q = pq := ⟨_, rfl⟩
          rw [hpq] at B5 hL5
          have hL : nb = L5 + pq := by have := HB.out.1; rw [bv_length] at this; omega
          generalize strOf y = Y at *
          have hsz : S.size = nb := HSZ.out
          have hw : IntKind.i64.wrap ((nb : Int) - (L5 : Int)) = (pq : Int) := by rw [IntWalk.i64_in _ (by omega)]; omega
          have hw2 : (nb : Int) - (L5 : Int) = (pq : Int) := by omega
          have hxx : ((x : Int) != (x : Int)) = false := by simp
          have hyy : (Y != Y) = false := bbne Y
          have hpp : ((pq : Int) != (pq : Int)) = false := by simp
          clear hL5 hL hpq
          simp only
          cases g with
          | true =>
            go_wp2_with fail

            go_quiet ((first | (go_at_call 21; exact Calls.quiet_of_same (at_q _ _ _ _ _ _ _ B5.out.rr)) | (go_at_call 22; exact Calls.quiet_of_same (err_q _ _ _ _ _ _ _ B5.out.rr))))
            go_wp2_with fail
            exact ⟨⟨k + 1, hlt, by go_num, _, _, B5.out.drewN _⟩, by simp [intOf]; omega⟩
          | false =>
            go_wp2_with fail
            go_quiet ((first | (go_at_call 21; exact Calls.quiet_of_same (at_q _ _ _ _ _ _ _ B5.out.rr)) | (go_at_call 22; exact Calls.quiet_of_same (err_q _ _ _ _ _ _ _ B5.out.rr))))
            go_wp2_with fail
            exact ⟨⟨k + 1, hlt, by go_num, _, _, B5.out.drewN _⟩, by simp [intOf]; omega⟩
        · have hke : ((k : Int) == en) = false := by simp [hen]
          have BX := BO
          obtain ⟨c0, c1, c2, c3⟩ := CL.out _ BO.out.fr
          clear hen
          go_wp2_with fail
          refine (read_any _ rb v l p f t OK.out BX.out.rr _ rfl).mono ?_
          rintro e w4 ⟨rfl, r4, f4⟩
          obtain ⟨q, g, x, y, hst⟩ : ∃ q g x y, stepRd t (l.drop p) f = ((x, y), q, g) := ⟨_, _, _, _, rfl⟩
          rw [hst] at r4 ⊢
          obtain ⟨-, ⟨A4, m4, n4⟩, k4⟩ := BX.out.readr f4 r4
          have R4 := Lib.hid r4
          have F4 := Lib.hid f4
          have M4 := Lib.hid m4
          have N4 := Lib.hid n4
          have HST := Lib.hid hst
          have hll : Hid ((l.drop p).length ≤ 60000) := by have := HB.out.1; rw [bv_length] at this; show (l.drop p).length ≤ 60000; rw [List.length_drop]; omega
          obtain ⟨e0, e1, e2, e3⟩ := CL.out _ k4
          simp only
          clear c0 c1 c2 c3 r4 f4 m4 n4 k4 hst
          go_wp2_with fail
          refine (meant_any _ mb A4 (l.drop p) f t OK.out M4.out hll.out _ HST.out).mono ?_
          rintro e w5 ⟨rfl, h5, f5⟩
          have B5 : Hid (Bo w rb v mb A0 l (p + q) g w5) := BX.out.step F4.out R4.out N4.out f5 (by rw [← List.drop_drop]; exact h5)
          clear h5 f5 e0 e1 e2 e3
          obtain ⟨A5, L5, c5, hL5, g0, g1⟩ := B5.out.fields
          obtain ⟨pq, hpq⟩ : ∃ pq, p + q = pq := ⟨_, rfl⟩
          rw [hpq] at B5 hL5
          have hL : nb = L5 + pq := by have := HB.out.1; rw [bv_length] at this; omega
          generalize strOf y = Y at *
          have hsz : S.size = nb := HSZ.out
          have hw : IntKind.i64.wrap ((nb : Int) - (L5 : Int)) = (pq : Int) := by rw [IntWalk.i64_in _ (by omega)]; omega
          have hw2 : (nb : Int) - (L5 : Int) = (pq : Int) := by omega
          have hxx : ((x : Int) != (x : Int)) = false := by simp
          have hyy : (Y != Y) = false := bbne Y
          have hpp : ((pq : Int) != (pq : Int)) = false := by simp
          clear hL5 hL hpq
          simp only
          cases g with
          | true =>
            go_wp2_with fail
            go_quiet ((first | (go_at_call 21; exact Calls.quiet_of_same (at_q _ _ _ _ _ _ _ B5.out.rr)) | (go_at_call 22; exact Calls.quiet_of_same (err_q _ _ _ _ _ _ _ B5.out.rr))))
            go_wp2_with fail
            exact ⟨⟨k + 1, hlt, by go_num, _, _, B5.out.drewN _⟩, by simp [intOf]; omega⟩
          | false =>
            go_wp2_with fail
            go_quiet ((first | (go_at_call 21; exact Calls.quiet_of_same (at_q _ _ _ _ _ _ _ B5.out.rr)) | (go_at_call 22; exact Calls.quiet_of_same (err_q _ _ _ _ _ _ _ B5.out.rr))))
            go_wp2_with fail
            exact ⟨⟨k + 1, hlt, by go_num, _, _, B5.out.drewN _⟩, by simp [intOf]; omega⟩
      · obtain rfl : k = n := by omega
        obtain ⟨A, m1, m2⟩ := BO.out.rm
        have M1 := Lib.hid m1
        have hll : Hid ((l.drop p).length ≤ 60000) := by have := HB.out.1; rw [bv_length] at this; show (l.drop p).length ≤ 60000; rw [List.length_drop]; omega
        have hpl : Hid (decide (0 < (l.drop p).length) = decide (p < l.length)) := by
          show decide (0 < (l.drop p).length) = decide (p < l.length)
          rw [List.length_drop]
          by_cases h : p < l.length
          · rw [decide_eq_true h, decide_eq_true (by omega)]
          · rw [decide_eq_false h, decide_eq_false (by omega)]
        have M2 := Lib.hid m2
        clear m1 m2
        go_wp2_with fail
        refine (rend_c _ mb A _ f M1.out hll.out).mono ?_
        rintro e w3 ⟨rfl, f3⟩
        rw [hpl.out]
        have r3 := BO.out.rr.fr f3 BO.out.ne (fun k hk e => BO.out.v0 k hk e)
        have R3 := Lib.hid r3
        have F3 : Hid (Fr (fun _ => False) w w3) := BO.out.fr.trans f3 (fun i hi e => by have := BO.out.m0; omega)
        have R0 := Lib.hid BO.out.r0
        clear r3 f3
        obtain ⟨bad, hbad⟩ : ∃ bad, (f || decide (p < l.length)) = bad := ⟨_, rfl⟩
        have hres : Hid ((if f = true ∨ p < l.length then (2 : Int) else 0) = if bad then 2 else 0) := by
          show (if f = true ∨ p < l.length then (2 : Int) else 0) = if bad then 2 else 0
          rw [← hbad]
          cases f <;> simp
        rw [hbad]
        have HBAD := Lib.hid hbad
        clear hbad
        go_wp2_with fail
        refine (end_c _ rb v l p f R3.out).mono ?_
        rintro e w4 ⟨rfl, r4, f4⟩
        rw [hres.out]
        rw [HBAD.out] at r4
        have R4 := Lib.hid r4
        have F4 : Hid (Fr (fun _ => False) w w4) := F3.out.trans f4 (fun i hi e => by have := R0.out; omega)
        clear r4 f4
        cases bad with
        | true =>
          simp only [if_true]
          go_wp2_with fail
          refine (rerr_c _ rb v l p _ R4.out).mono ?_
          rintro e w5 ⟨rfl, rfl⟩
          simp only [if_true, Bool.false_eq_true, if_false]
          have hcv2 : (convert 27 9 (.slice B nb cb)).run Try.prog w4 = .ok (.string S) w4 := by
            have := conv_str w4 B nb cb l (HB.out.fr F4.out (fun _ _ h => h))
            rw [HS.out] at this
            exact this
          have hss : (S == S) = true := bbeq S
          go_wp2_with fail
          refine (awake_c _).mono ?_
          rintro e w6 ⟨rfl, f6⟩
          have F6 := Lib.hid (F4.out.trans f6 (fun _ _ h => h))
          clear f6
          go_wp2_with fail
          go_ret
          exact ⟨rfl, F6.out⟩
        | false =>
          simp only [Bool.false_eq_true, if_false]
          go_wp2_with fail
          refine (rerr_c _ rb v l p _ R4.out).mono ?_
          rintro e w5 ⟨rfl, rfl⟩
          simp only [if_true, Bool.false_eq_true, if_false]
          have hcv2 : (convert 27 9 (.slice B nb cb)).run Try.prog w4 = .ok (.string S) w4 := by
            have := conv_str w4 B nb cb l (HB.out.fr F4.out (fun _ _ h => h))
            rw [HS.out] at this
            exact this
          have hss : (S == S) = true := bbeq S
          go_wp2_with fail
          refine (awake_c _).mono ?_
          rintro e w6 ⟨rfl, f6⟩
          have F6 := Lib.hid (F4.out.trans f6 (fun _ _ h => h))
          clear f6
          go_wp2_with fail
          go_ret
          exact ⟨rfl, F6.out⟩
end Go.Proofs.Ytokhebplmldfkaa
