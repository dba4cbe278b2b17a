/-
  Both nets (merged of Gs Gt).
-/
import Derived.Test.YtpgklhbbjbdejaaRm1
namespace Go.Proofs.Ytpgklhbbjbdejaa
set_option linter.unusedSimpArgs false
set_option linter.unusedVariables false
open Go Go.RowKit Go.Maps

theorem NetV.old {W W' : World} {g mb r i : Nat} {T : List Ms} (h : NetV W g mb r T i) (f : Fr (fun q => W.heap.size ≤ q) W W') : NetV W' g mb r T i := by
  have hl := h.lt
  obtain ⟨lk, D, n, hB, hO, h1, h2, h3, h4, h5, h6, h7⟩ := h.ex
  refine ⟨⟨lk, D, n, hB.fr f (fun e => by have e' : W.heap.size ≤ g := e; omega), MapI.fr hO f (fun e => by have e' : W.heap.size ≤ mb := e; omega), h1, h2, h3, fun k x hx => ?_, h5, h6, h7⟩, h.le⟩
  obtain ⟨e0, e1, e2⟩ := h4 k x hx
  refine ⟨e0, fun hl => ?_, e2⟩
  obtain ⟨g1, A, c, g2, g3⟩ := e1 hl
  exact ⟨g1, A, c, g2, own_fr g3 f (fun q hq e => by have e' : W.heap.size ≤ q := e; have := (World.ownsRow.lt g3 q hq).2; omega)⟩
theorem RefN.old {W W' : World} {h r : Nat} {T : List Ms} (n : RefN W h r T) (f : Fr (fun q => W.heap.size ≤ q) W W') : RefN W' h r T := by
  obtain ⟨A, c, E, h1, h2, h3, h4⟩ := n.ex
  have hk : ∀ {b : Nat} {e : TypeId} {s m : Nat} {v : Value} {xs : List Value}, W.ownsRow b e s v m xs → W'.ownsRow b e s v m xs := fun hv => own_fr hv f (fun q hq e => by have e2 : W.heap.size ≤ q := e; have := (World.ownsRow.lt hv q hq).2; omega)
  exact ⟨A, c, E, h1.fr f (fun e => by have e' : W.heap.size ≤ h := e; have := h1.lt; omega), h2, hk h3, fun e he => ⟨(h4 e he).1, hk (h4 e he).2⟩⟩
theorem RefN.gm {W W' : World} {h r g mb r2 i : Nat} {T T2 : List Ms} (n : RefN W h r T) (o : NetV W g mb r2 T2 i) (f : Fr (Gm g mb) W W') : RefN W' h r T := by
  obtain ⟨lk, D, m, hB, hO, _⟩ := o.ex
  obtain ⟨A, c, E, h1, _⟩ := n.ex
  refine n.fr f (fun k e => ?_)
  rcases e with rfl | rfl
  · exact .inl ⟨_, _, hB, by decide, by decide, fun e => Blk.ne_ h1 hB (by decide) e.symm⟩
  · exact .inr ⟨_, _, hO⟩
theorem NetV.rf {W W' : World} {h r g mb r2 i : Nat} {T T2 : List Ms} (o : NetV W g mb r2 T2 i) (n : RefN W h r T) (f : Fr (fun q => q = h) W W') : NetV W' g mb r2 T2 i := by
  obtain ⟨A, c, E, h1, _⟩ := n.ex
  exact o.sto h1 (by decide) (by decide) f
theorem gv_put_s {W0 W : World} {g mb r i k9 : Nat} {T : List Ms} (h0 : NetV W0 g mb r T i) (f0 : Fr (fun _ => False) W0 W) (hk0 : W0.heap.size ≤ k9) (hk1 : k9 < W.heap.size) (hi : i ≤ 4000) (f t : Nat) (hf : f < 5) (ht : t < 5) (A : Option Addr) (m c : Nat) (bs : List UInt8) (hr : Rd W A m (bv bs)) (hm : m ≤ 16384) (hw : wayN T f t < 32) :
    Calls Try.prog 32 #[.pointer (some ⟨g, 0, none⟩), .agg #[.int .i64 (f : Nat), .int .i64 (t : Nat), .slice A m c]] W fun e w' => ∃ id v : Int, e = .returned (.tuple #[.int .u64 id, .int .i64 v]) ∧ id = ((T.length + 1 : Nat) : Int) ∧ v = 0 ∧ (∀ W', Fr (fun q => q = k9) w' W' → NetV W' g mb r (T ++ [⟨f, t, bs, true⟩]) (i + 1)) ∧ Fr (Gm g mb) W w' := by
  have h := h0.far f0
  have hgm := h0.lt
  have hold : ∀ {W1 : World} {D : DataW Value}, Each W0 0 D T → Fr (Gm g mb) W W1 → (∀ q, Gm g mb q → (∃ t cs, Blk W q t cs ∧ 5 ≠ t) ∨ ∃ n D, MapI W q n D) → ∀ W', Fr (fun q => q = k9) W1 W' → Each W' 0 D T := fun hE f1 hof W' f2 => by
    have h1 := (hE.frv f0 (fun _ e => e.elim)).frv f1 hof
    intro k x hx
    obtain ⟨e0, e1, e2⟩ := h1 k x hx
    refine ⟨e0, fun hl => ?_, e2⟩
    obtain ⟨g1, A, c, g2, g3⟩ := e1 hl
    obtain ⟨_, A', c', g2', g3'⟩ := (hE k x hx).2.1 hl
    rw [g2] at g2'
    injection g2' with g2'
    have hAA : A = A' ∧ c = c' := by
      injection g2' with g2'
      have := congrArg Array.toList g2'
      simp at this
      exact this
    obtain ⟨rfl, rfl⟩ := hAA
    exact ⟨g1, A, c, g2, own_fr g3 f2 (fun q hq e => by have e' : q = k9 := e; have := (World.ownsRow.lt g3' q hq).2; omega)⟩
  obtain ⟨lk, D, n, hB0, hO0, h1, h2, h3, h40, h5, h6, h7⟩ := h0.ex
  have hB := keepB hB0 f0
  have hO := MapI.fr hO0 f0 (fun h => h)
  have hle := h.le
  have hl := (h7 f t hf ht).1
  have hb := h2 (f * 5 + t)
  refine (put_g W g mb n (r : Nat) T.length lk D f t A m c bs hB hO hr (by omega) hf ht (by rw [hl]; omega) (by omega) (by omega) (by unfold maxLen; omega)).mono ?_
  rintro e w' ⟨rfl, v, k1, k2, k3, k4⟩
  have hbl : bs.length = m := by rw [← hr.1, bv_length]
  obtain ⟨A9, c9, rfl, _, _⟩ := own_slice k1
  have ky1 : WideAt.IsKeyLit (ky (T.length + 1)) := ky_key (by omega)
  have g1 := h6 (T.length + 1) (by omega)
  refine ⟨_, _, rfl, rfl, rfl, fun W' f' => ⟨⟨_, _, n + 1, by rw [List.length_append]; exact k2.fr f' (fun e => by have e' : g = k9 := e; omega), MapI.fr k3 f' (fun e => by have e' : mb = k9 := e; omega), by omega, fun j => ?_, ?_, ?_, gone_put h5 (by omega), fun k hk => ?_, fun f' t' hf' ht' => ?_⟩, by rw [List.length_append]; simp; omega⟩, k4⟩
  · unfold upd
    have := h2 j
    split <;> omega
  · rw [Maps.size_put (World.ownsMap.tidy hO K64), g1.1, List.filter_append, List.length_append, h3]
    simp
  · have hE := hold h40 k4 (h.off _ (by decide)) W' f'
    intro k x hx
    rcases Nat.lt_or_ge k T.length with hk | hk
    · rw [List.getElem?_append_left hk] at hx
      obtain ⟨e0, e1, e2⟩ := hE k x hx
      exact ⟨e0, fun hl => held_put (e1 hl) (by omega), fun hl => gone_put (e2 hl) (by omega)⟩
    · rw [List.getElem?_append_right hk] at hx
      have hk0 : k = T.length := by
        have := (List.getElem?_eq_some_iff.1 hx).1
        simp at this
        omega
      subst hk0
      rw [Nat.sub_self] at hx
      injection hx with hx
      subst hx
      refine ⟨⟨hf, ht, by show bs.length ≤ _; omega⟩, fun _ => ⟨Maps.has_put_same (World.ownsMap.isMap hO) ky1 _, A9, c9, ?_, ?_⟩, fun hl => by cases hl⟩
      · show _ = DataW.held (Value.agg #[.int .i64 (f : Nat), .int .i64 (t : Nat), .slice A9 bs.length c9])
        rw [hbl]
        exact Maps.atKey_put_same (World.ownsMap.isMap hO) ky1 _ _
      · show W'.ownsRow 0 5 1 (.slice A9 bs.length c9) bs.length (bv bs)
        rw [hbl]
        exact own_fr (own_base k1 (fun q hq => Nat.zero_le _)) f' (fun q hq e => by have e' : q = k9 := e; have := (World.ownsRow.lt k1 q hq).1; omega)
  · rw [List.length_append] at hk
    simp at hk
    exact gone_put (h6 k (by omega)) (by omega)
  · obtain ⟨q1, q2⟩ := h7 f' t' hf' ht'
    have ew : isW f' t' ⟨f, t, bs, true⟩ = decide (f = f' ∧ t = t') := by
      unfold isW
      by_cases h1 : f = f' <;> by_cases h2 : t = t' <;> simp [h1, h2]
    rw [upd_way _ hf ht hf' ht', wayN_add, ew]
    by_cases hft : f = f' ∧ t = t'
    · obtain ⟨rfl, rfl⟩ := hft
      rw [if_pos ⟨rfl, rfl⟩, hl, if_pos (by simp)]
      constructor
      · push_cast; rfl
      · omega
    · rw [if_neg hft, if_neg (by simpa using hft)]
      exact ⟨q1, by omega⟩

theorem gs_send {W0 W : World} {g mb r i k9 : Nat} {T : List Ms} (h0 : NetV W0 g mb r T i) (f0 : Fr (fun _ => False) W0 W) (hk0 : W0.heap.size ≤ k9) (hk1 : k9 < W.heap.size) (hi : i ≤ 3000) (hr4 : r ≤ 4) (f t : Int) (A : Option Addr) (m c : Nat) (bs : List UInt8) (hr : Rd W A m (bv bs)) :
    ∃ (ai av : Int) (T' : List Ms),
      (Calls Try.prog 15 #[.pointer (some ⟨g, 0, none⟩), .int .i64 f, .int .i64 t, .slice A m c] W fun e w' => e = .returned (.tuple #[.int .u64 ai, .int .i64 av]) ∧ (∀ W', Fr (fun q => q = k9) w' W' → NetV W' g mb r T' (i + 1)) ∧ Fr (Gm g mb) W w') ∧
      (∀ W2 h A2 c2, RefN W2 h r T → Rd W2 A2 m (bv bs) → Calls Try.prog 24 #[.pointer (some ⟨h, 0, none⟩), .int .i64 f, .int .i64 t, .slice A2 m c2] W2 fun e w' => e = .returned (.tuple #[.int .u64 ai, .int .i64 av]) ∧ RefN w' h r T' ∧ Fr (fun q => q = h) W2 w') := by
  have h := h0.far f0
  have hle := h.le
  have keep : ∀ {w' W' : World}, Fr (fun _ => False) W w' → Fr (fun q => q = k9) w' W' → NetV W' g mb r T (i + 1) := fun f1 f2 => (h0.old ((f0.trans f1 (fun _ _ e => e) |>.mono (fun _ _ e => e.elim)).trans f2 (fun q hq e => by have e' : q = k9 := e; show W0.heap.size ≤ q; omega))).up (by omega)
  obtain ⟨lk, D, n, hB, _⟩ := h.ex
  by_cases hg : (1 ≤ f ∧ f ≤ (r : Nat)) ∧ (1 ≤ t ∧ t ≤ (r : Nat)) ∧ f ≠ t
  · obtain ⟨hf, ht, hne⟩ := hg
    obtain ⟨F, rfl⟩ := Int.eq_ofNat_of_zero_le (show 0 ≤ f by omega)
    obtain ⟨T', rfl⟩ := Int.eq_ofNat_of_zero_le (show 0 ≤ t by omega)
    by_cases hm : m ≤ 16384
    · rcases Nat.lt_or_ge (wayN T F T') 32 with hw | hw
      · refine ⟨((T.length + 1 : Nat) : Int), 0, T ++ [⟨F, T', bs, true⟩], ?_, fun W2 h2 A2 c2 hn hrd => ?_⟩
        · refine (send_of W g mb r (T.length : Nat) lk F T' A m c (fun id v w' => id = ((T.length + 1 : Nat) : Int) ∧ v = 0 ∧ (∀ W', Fr (fun q => q = k9) w' W' → NetV W' g mb r (T ++ [⟨F, T', bs, true⟩]) (i + 1)) ∧ Fr (Gm g mb) W w') hB hf ht hne hm (gv_put_s h0 f0 hk0 hk1 (by omega) F T' (by omega) (by omega) A m c bs hr hm hw)).mono ?_
          rintro e w' ⟨id, v, rfl, rfl, rfl, k1, k2⟩
          exact ⟨rfl, k1, k2⟩
        · refine (rsend_of hn F T' A2 m c2 (fun id v w' => id = ((T.length + 1 : Nat) : Int) ∧ v = 0 ∧ RefN w' h2 r (T ++ [⟨F, T', bs, true⟩]) ∧ Fr (fun q => q = h2) W2 w') hf ht hne hm ((rput_c hn (by omega) F T' (by omega) (by omega) A2 m c2 bs hrd hm hw).mono ?_)).mono ?_
          · rintro e w' ⟨rfl, k1, k2⟩
            exact ⟨_, _, rfl, rfl, rfl, k1, k2⟩
          · rintro e w' ⟨id, v, rfl, rfl, rfl, k1, k2⟩
            exact ⟨rfl, k1, k2⟩
      · refine ⟨0, 3, T, ?_, fun W2 h2 A2 c2 hn hrd => ?_⟩
        · refine (gv_send_full h hr4 F T' (by omega) (by omega) (by omega) A m c hm hw).mono ?_
          rintro e w' ⟨rfl, k1⟩
          exact ⟨rfl, fun W' f' => keep k1 f', k1.mono (fun _ _ e => e.elim)⟩
        · refine (rsend_of hn F T' A2 m c2 (fun id v w' => id = 0 ∧ v = 3 ∧ RefN w' h2 r T ∧ Fr (fun q => q = h2) W2 w') hf ht hne hm ((rput_full hn (by omega) F T' A2 m c2 hw).mono ?_)).mono ?_
          · rintro e w' ⟨rfl, k1⟩
            exact ⟨_, _, rfl, rfl, rfl, hn.far k1, k1.mono (fun _ _ e => e.elim)⟩
          · rintro e w' ⟨id, v, rfl, rfl, rfl, k1, k2⟩
            exact ⟨rfl, k1, k2⟩
    · refine ⟨0, 6, T, ?_, fun W2 h2 A2 c2 hn hrd => ?_⟩
      · refine (send_long W g mb r (T.length : Nat) lk F T' A m c hB hf ht hne (by omega)).mono ?_
        rintro e w' ⟨rfl, rfl⟩
        exact ⟨rfl, fun W' f' => keep (Fr.refl _ _) f', Fr.refl _ _⟩
      · refine (rsend_long hn F T' A2 m c2 hf ht hne (by omega)).mono ?_
        rintro e w' ⟨rfl, rfl⟩
        exact ⟨rfl, hn, Fr.refl _ _⟩
  · refine ⟨0, 1, T, ?_, fun W2 h2 A2 c2 hn hrd => ?_⟩
    · refine (send_bad W g mb r (T.length : Nat) lk f t A m c hB hg).mono ?_
      rintro e w' ⟨rfl, rfl⟩
      exact ⟨rfl, fun W' f' => keep (Fr.refl _ _) f', Fr.refl _ _⟩
    · refine (rsend_bad hn f t A2 m c2 hg).mono ?_
      rintro e w' ⟨rfl, rfl⟩
      exact ⟨rfl, hn, Fr.refl _ _⟩
/-- Double of both. -/
theorem gs_double {W : World} {g mb r i id : Nat} {T : List Ms} (h : NetV W g mb r T i) (hi : i ≤ 3000) (hid : id < 18446744073709551616) :
    ∃ (ai av : Int) (T' : List Ms),
      (Calls Try.prog 17 #[.pointer (some ⟨g, 0, none⟩), .int .u64 (id : Nat)] W fun e w' => e = .returned (.tuple #[.int .u64 ai, .int .i64 av]) ∧ NetV w' g mb r T' (i + 1) ∧ Fr (Gm g mb) W w') ∧
      (∀ W2 h, RefN W2 h r T → Calls Try.prog 26 #[.pointer (some ⟨h, 0, none⟩), .int .u64 (id : Nat)] W2 fun e w' => e = .returned (.tuple #[.int .u64 ai, .int .i64 av]) ∧ RefN w' h r T' ∧ Fr (fun q => q = h) W2 w') := by
  have hle := h.le
  cases hx : lookT T id with
  | none =>
    refine ⟨0, 4, T, ?_, fun W2 h2 hn => ?_⟩
    · refine (gv_double_none h hid hx).mono ?_
      rintro e w' ⟨rfl, k1⟩
      exact ⟨rfl, (h.far k1).up (by omega), k1.mono (fun _ _ e => e.elim)⟩
    · refine (rdouble_no hn (by omega) hid hx).mono ?_
      rintro e w' ⟨rfl, k1⟩
      exact ⟨rfl, hn.far k1, k1.mono (fun _ _ e => e.elim)⟩
  | some x =>
    rcases Nat.lt_or_ge (wayN T x.f x.t) 32 with hw | hw
    · refine ⟨((T.length + 1 : Nat) : Int), 0, T ++ [⟨x.f, x.t, x.bs, true⟩], ?_, fun W2 h2 hn => ?_⟩
      · obtain ⟨A, c, h1, h2, h3, h4, h5⟩ := gv_found h hid hx
        refine (double_of W _ _ _ _ A _ c (fun id v w' => id = ((T.length + 1 : Nat) : Int) ∧ v = 0 ∧ NetV w' g mb r (T ++ [⟨x.f, x.t, x.bs, true⟩]) (i + 1) ∧ Fr (Gm g mb) W w') (h5 W (Fr.refl _ _)) (fun W' hW => ?_)).mono ?_
        · refine (gv_put (h.far hW) (by omega) x.f x.t h2 h3 A _ c x.bs (h1.far hW) h4 hw).mono ?_
          rintro e w' ⟨id, v, rfl, rfl, rfl, k1, k2⟩
          exact ⟨_, _, rfl, rfl, rfl, k1, (hW.mono (fun _ _ h => h.elim)).trans k2 (fun _ _ h => h)⟩
        · rintro e w' ⟨id, v, rfl, rfl, rfl, k1, k2⟩
          exact ⟨rfl, k1, k2⟩
      · obtain ⟨A, c, h1, h22, h3, h4, h5⟩ := gv_found h hid hx
        refine (rdouble_of hn (by omega) hx (fun id v w' => id = ((T.length + 1 : Nat) : Int) ∧ v = 0 ∧ RefN w' h2 r (T ++ [⟨x.f, x.t, x.bs, true⟩]) ∧ Fr (fun q => q = h2) W2 w') (fun W3 A3 c3 hn3 hrd hfr => ?_)).mono ?_
        · refine (rput_c hn3 (by omega) x.f x.t h22 h3 A3 _ c3 x.bs hrd h4 hw).mono ?_
          rintro e w' ⟨rfl, k1, k2⟩
          exact ⟨_, _, rfl, rfl, rfl, k1, (hfr.mono (fun _ _ h => h.elim)).trans k2 (fun _ _ h => h)⟩
        · rintro e w' ⟨id, v, rfl, rfl, rfl, k1, k2⟩
          exact ⟨rfl, k1, k2⟩
    · refine ⟨0, 3, T, ?_, fun W2 h2 hn => ?_⟩
      · refine (gv_double_full h hid hx hw).mono ?_
        rintro e w' ⟨rfl, k1⟩
        exact ⟨rfl, (h.far k1).up (by omega), k1.mono (fun _ _ e => e.elim)⟩
      · refine (rdouble_of hn (by omega) hx (fun id v w' => id = 0 ∧ v = 3 ∧ RefN w' h2 r T ∧ Fr (fun q => q = h2) W2 w') (fun W3 A3 c3 hn3 hrd hfr => ?_)).mono ?_
        · refine (rput_full hn3 (by omega) x.f x.t A3 _ c3 hw).mono ?_
          rintro e w' ⟨rfl, k1⟩
          exact ⟨_, _, rfl, rfl, rfl, hn3.far k1, (hfr.trans k1 (fun _ _ h => h)).mono (fun _ _ e => e.elim)⟩
        · rintro e w' ⟨id, v, rfl, rfl, rfl, k1, k2⟩
          exact ⟨rfl, k1, k2⟩
end Go.Proofs.Ytpgklhbbjbdejaa
