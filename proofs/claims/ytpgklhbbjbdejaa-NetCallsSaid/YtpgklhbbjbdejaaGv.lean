/-
  A NET BY WHAT WAS SENT, with the links' counts, whatever lies where (a copy shares its rows with what it was copied from). Written by gen_gv.py.
-/
import Derived.Test.YtpgklhbbjbdejaaRmA
namespace Go.Proofs.Ytpgklhbbjbdejaa
set_option linter.unusedSimpArgs false
set_option linter.unusedVariables false
open Go Go.RowKit Go.Maps

theorem own_map_ne {w : World} {g n : Nat} {D : DataW Value} {base : Nat} {e : TypeId} {size m : Nat} {v : Value} {xs : List Value} (h : w.ownsRow base e size v m xs) (hO : MapI w g n D) : v.ownBlock ≠ some g := by
  rcases h.2 with ⟨rfl, _⟩ | ⟨g', cap, cur, rfl, _, hh, _⟩
  · simp [Value.ownBlock]
  · intro he
    have : g' = g := by simpa [Value.ownBlock] using he
    subst this
    obtain ⟨es, clock, hb, _⟩ := hO
    rw [hh] at hb
    cases hb
theorem Each.frv {W W' : World} {D : DataW Value} {T : List Ms} {fp : Nat → Prop} (h : Each W 0 D T) (f : Fr fp W W') (hfp : ∀ k, fp k → (∃ t cs, Blk W k t cs ∧ 5 ≠ t) ∨ ∃ n D, MapI W k n D) : Each W' 0 D T := by
  intro k x hx
  obtain ⟨h0, h1, h2⟩ := h k x hx
  refine ⟨h0, fun hl => ?_, h2⟩
  obtain ⟨g1, A, c, g2, g3⟩ := h1 hl
  refine ⟨g1, A, c, g2, own_fr g3 f (fun q hq e => ?_)⟩
  rcases hfp q e with ⟨t, cs, hb, hne⟩ | ⟨n, D, hO⟩
  · exact own_blk_ne g3 hb hne hq
  · exact own_map_ne g3 hO hq
structure NetV (W : World) (g mb r : Nat) (T : List Ms) (i : Nat) : Prop where
  ex : ∃ lk D n, Blk W g 46 (netC (r : Nat) (T.length : Nat) (some mb) lk) ∧ MapI W mb n D ∧ n ≤ i ∧ (∀ j, -(i : Int) ≤ lk j ∧ lk j ≤ i) ∧ Maps.size D = (T.filter (·.live)).length ∧ Each W 0 D T ∧ gone D 0 ∧ (∀ k, T.length < k → gone D k) ∧
    ∀ f t, f < 5 → t < 5 → lk (f * 5 + t) = (wayN T f t : Nat) ∧ wayN T f t ≤ 32
  le : T.length ≤ i
theorem NetV.fr {W W' : World} {g mb r i : Nat} {T : List Ms} {fp : Nat → Prop} (h : NetV W g mb r T i) (f : Fr fp W W') (hfp : ∀ k, fp k → (∃ t cs, Blk W k t cs ∧ 5 ≠ t ∧ k ≠ g) ∨ ∃ n D, MapI W k n D ∧ k ≠ mb) : NetV W' g mb r T i := by
  obtain ⟨lk, D, n, hB, hO, h1, h2, h3, h4, h5, h6, h7⟩ := h.ex
  refine ⟨⟨lk, D, n, hB.fr f (fun e => ?_), MapI.fr hO f (fun e => ?_), h1, h2, h3, h4.frv f (fun k e => ?_), h5, h6, h7⟩, h.le⟩
  · rcases hfp _ e with ⟨t, cs, hb, _, hne⟩ | ⟨n, D, hO, _⟩
    · exact hne rfl
    · exact map_ne hB hO rfl
  · rcases hfp _ e with ⟨t, cs, hb, _, _⟩ | ⟨n, D, _, hne⟩
    · exact map_ne hb hO rfl
    · exact hne rfl
  · rcases hfp _ e with ⟨t, cs, hb, hne, _⟩ | ⟨n, D, hO, _⟩
    · exact .inl ⟨t, cs, hb, hne⟩
    · exact .inr ⟨n, D, hO⟩
theorem NetV.far {W W' : World} {g mb r i : Nat} {T : List Ms} (h : NetV W g mb r T i) (f : Fr (fun _ => False) W W') : NetV W' g mb r T i := h.fr f (fun _ e => e.elim)
theorem NetV.up {W : World} {g mb r i j : Nat} {T : List Ms} (h : NetV W g mb r T i) (hij : i ≤ j) : NetV W g mb r T j := by
  obtain ⟨lk, D, n, hB, hO, h1, h2, h3⟩ := h.ex
  exact ⟨⟨lk, D, n, hB, hO, by omega, fun q => by have := h2 q; omega, h3⟩, by have := h.le; omega⟩
/-- Another net's calls leave this one. -/
theorem NetV.gm {W W' : World} {g mb r i : Nat} {T : List Ms} {g2 mb2 r2 i2 : Nat} {T2 : List Ms} (h : NetV W g mb r T i) (o : NetV W g2 mb2 r2 T2 i2) (f : Fr (Gm g2 mb2) W W') (h1 : g2 ≠ g) (h2 : mb2 ≠ mb) : NetV W' g mb r T i := by
  obtain ⟨lk, D, n, hB, hO, _⟩ := o.ex
  refine h.fr f (fun k e => ?_)
  rcases e with rfl | rfl
  · exact .inl ⟨_, _, hB, by decide, h1⟩
  · exact .inr ⟨_, _, hO, h2⟩
theorem gv_found {W : World} {g mb r i : Nat} {T : List Ms} (h : NetV W g mb r T i) {id : Nat} (hid : id < 18446744073709551616) {x : Ms} (hx : lookT T id = some x) :
    ∃ A c, Rd W A x.bs.length (bv x.bs) ∧ x.f < 5 ∧ x.t < 5 ∧ x.bs.length ≤ 16384 ∧
      ∀ W', Fr (fun _ => False) W W' → Calls Try.prog 33 #[.pointer (some ⟨g, 0, none⟩), .int .u64 (id : Nat)] W' fun e w' => e = .returned (.tuple #[.agg #[.int .i64 (x.f : Nat), .int .i64 (x.t : Nat), .slice A x.bs.length c], .int .i64 0]) ∧ Fr (fun _ => False) W' w' := by
  obtain ⟨lk, D, n, hB, hO, h1, h2, h3, h4, h5, h6, _⟩ := h.ex
  obtain ⟨k, rfl, hk, hl⟩ := lookT_some hx
  obtain ⟨⟨e0, e1, e2⟩, e3, _⟩ := h4 k x hk
  obtain ⟨k1, A, c, k2, k3⟩ := e3 hl
  exact ⟨A, c, Rd.of_own k3, e0, e1, e2, fun W' hW => find_yes W' g mb n (r : Nat) (T.length : Nat) lk D (k + 1) _ _ A _ c (keepB hB hW) (MapI.fr hO hW (fun h => h)) hid k2 k1⟩
theorem gv_lost {W : World} {g mb r i : Nat} {T : List Ms} (h : NetV W g mb r T i) {id : Nat} (hid : id < 18446744073709551616) (hx : lookT T id = none) :
    Calls Try.prog 33 #[.pointer (some ⟨g, 0, none⟩), .int .u64 (id : Nat)] W fun e w' => e = .returned (.tuple #[.agg #[.int .i64 0, .int .i64 0, .slice none 0 0], .int .i64 4]) ∧ Fr (fun _ => False) W w' := by
  obtain ⟨lk, D, n, hB, hO, h1, h2, h3, h4, h5, h6, _⟩ := h.ex
  have hg := gone_of h4 h5 h6 hx
  exact find_none W g mb n (r : Nat) (T.length : Nat) lk D id hB hO hid hg.2 hg.1
theorem gv_double_none {W : World} {g mb r i : Nat} {T : List Ms} (h : NetV W g mb r T i) {id : Nat} (hid : id < 18446744073709551616) (hx : lookT T id = none) :
    Calls Try.prog 17 #[.pointer (some ⟨g, 0, none⟩), .int .u64 (id : Nat)] W fun e w' => e = .returned (.tuple #[.int .u64 0, .int .i64 4]) ∧ Fr (fun _ => False) W w' :=
  double_none W _ _ (gv_lost h hid hx)
/-- At. -/
theorem gv_at {W : World} {g mb r i : Nat} {T : List Ms} (h : NetV W g mb r T i) {id : Nat} (hid : id < 18446744073709551616) {x : Ms} (hx : lookT T id = some x) :
    Calls Try.prog 18 #[.pointer (some ⟨g, 0, none⟩), .int .u64 (id : Nat)] W fun e w' => ∃ A c, e = .returned (.tuple #[.agg #[.int .i64 (x.f : Nat), .int .i64 (x.t : Nat), .slice A x.bs.length c], .int .i64 0]) ∧ w'.ownsRow W.heap.size 5 1 (.slice A x.bs.length c) x.bs.length (bv x.bs) ∧ Fr (fun _ => False) W w' := by
  obtain ⟨A, c, h1, h2, h3, h4, h5⟩ := gv_found h hid hx
  refine (at_of W _ _ _ _ 0 A _ c x.bs h1 (by omega) h5).mono ?_
  rintro e w' ⟨v, rfl, k1, k2⟩
  obtain ⟨A9, c9, rfl, _, _⟩ := own_slice k1
  exact ⟨A9, c9, rfl, k1, k2⟩
theorem gv_at_none {W : World} {g mb r i : Nat} {T : List Ms} (h : NetV W g mb r T i) {id : Nat} (hid : id < 18446744073709551616) (hx : lookT T id = none) :
    Calls Try.prog 18 #[.pointer (some ⟨g, 0, none⟩), .int .u64 (id : Nat)] W fun e w' => ∃ A n c, e = .returned (.tuple #[.agg #[.int .i64 0, .int .i64 0, .slice A n c], .int .i64 4]) ∧ Fr (fun _ => False) W w' := by
  refine (at_of W _ _ 0 0 4 none 0 0 [] (Rd.none_ _ _) (by decide) (fun W' hW => gv_lost (h.far hW) hid hx)).mono ?_
  rintro e w' ⟨v, h0, h1, h2⟩
  obtain ⟨A9, c9, rfl, _, _⟩ := own_slice h1
  exact ⟨A9, 0, c9, h0, h2⟩
theorem gv_deliver_none {W : World} {g mb r i : Nat} {T : List Ms} (h : NetV W g mb r T i) {id : Nat} (hid : id < 18446744073709551616) (hx : lookT T id = none) :
    Calls Try.prog 16 #[.pointer (some ⟨g, 0, none⟩), .int .u64 (id : Nat)] W fun e w' => e = .returned (.tuple #[.agg #[.int .i64 0, .int .i64 0, .slice none 0 0], .int .i64 4]) ∧ Fr (fun _ => False) W w' :=
  deliver_of W _ _ (fun _ hW => gv_at_none (h.far hW) hid hx)
theorem gv_drop_none {W : World} {g mb r i : Nat} {T : List Ms} (h : NetV W g mb r T i) {id : Nat} (hid : id < 18446744073709551616) (hx : lookT T id = none) :
    Calls Try.prog 19 #[.pointer (some ⟨g, 0, none⟩), .int .u64 (id : Nat)] W fun e w' => e = .returned (.int .i64 4) ∧ Fr (fun _ => False) W w' := by
  refine (drop_of W _ _ 4 (fun w' => Fr (fun _ => False) W w') (fun W' o hQ => hQ.alloc _) ((gv_deliver_none h hid hx).mono ?_)).mono ?_
  · rintro e w' ⟨rfl, h1⟩
    exact ⟨_, _, _, _, _, rfl, h1⟩
  · rintro e w' h1
    exact h1
theorem gv_count {W : World} {g mb r i : Nat} {T : List Ms} (h : NetV W g mb r T i) :
    Calls Try.prog 21 #[.pointer (some ⟨g, 0, none⟩)] W fun e w' => e = .returned (.int .i64 ((T.filter (·.live)).length : Nat)) ∧ w' = W := by
  obtain ⟨lk, D, n, hB, hO, h1, h2, h3, h4⟩ := h.ex
  rw [← h3]
  exact count_c W g mb n (r : Nat) (T.length : Nat) lk D hB hO
theorem gv_put {W : World} {g mb r i : Nat} {T : List Ms} (h : NetV W g mb r T i) (hi : i ≤ 4000) (f t : Nat) (hf : f < 5) (ht : t < 5) (A : Option Addr) (m c : Nat) (bs : List UInt8) (hr : Rd W A m (bv bs)) (hm : m ≤ 16384) (hw : wayN T f t < 32) :
    Calls Try.prog 32 #[.pointer (some ⟨g, 0, none⟩), .agg #[.int .i64 (f : Nat), .int .i64 (t : Nat), .slice A m c]] W fun e w' => ∃ id v : Int, e = .returned (.tuple #[.int .u64 id, .int .i64 v]) ∧ id = ((T.length + 1 : Nat) : Int) ∧ v = 0 ∧ NetV w' g mb r (T ++ [⟨f, t, bs, true⟩]) (i + 1) ∧ Fr (Gm g mb) W w' := by
  obtain ⟨lk, D, n, hB, hO, h1, h2, h3, h4, h5, h6, h7⟩ := h.ex
  have hle := h.le
  have hl := (h7 f t hf ht).1
  have hb := h2 (f * 5 + t)
  refine (put_g W g mb n (r : Nat) T.length lk D f t A m c bs hB hO hr (by omega) hf ht (by rw [hl]; omega) (by omega) (by omega) (by unfold maxLen; omega)).mono ?_
  rintro e w' ⟨rfl, v, k1, k2, k3, k4⟩
  have hbl : bs.length = m := by rw [← hr.1, bv_length]
  obtain ⟨A9, c9, rfl, _, _⟩ := own_slice k1
  have ky1 : WideAt.IsKeyLit (ky (T.length + 1)) := ky_key (by omega)
  have g1 := h6 (T.length + 1) (by omega)
  refine ⟨_, _, rfl, rfl, rfl, ⟨⟨_, _, n + 1, by rw [List.length_append]; exact k2, k3, by omega, fun j => ?_, ?_, ?_, gone_put h5 (by omega), fun k hk => ?_, fun f' t' hf' ht' => ?_⟩, by rw [List.length_append]; simp; omega⟩, k4⟩
  · unfold upd
    have := h2 j
    split <;> omega
  · rw [Maps.size_put (World.ownsMap.tidy hO K64), g1.1, List.filter_append, List.length_append, h3]
    simp
  · have hE := h4.frv k4 (fun k e => by rcases e with rfl | rfl; exact .inl ⟨_, _, hB, by decide⟩; exact .inr ⟨_, _, hO⟩)
    intro k x hx
    rcases Nat.lt_or_ge k T.length with hk | hk
    · rw [List.getElem?_append_left hk] at hx
      obtain ⟨e0, e1, e2⟩ := hE k x hx
      exact ⟨e0, fun hl => held_put (e1 hl) (by omega), fun hl => gone_put (e2 hl) (by omega)⟩
    · rw [List.getElem?_append_right hk] at hx
      have hk0 : k = T.length := by
        have := (List.getElem?_eq_some_iff.1 hx).1
        simp at this
        omega
      subst hk0
      rw [Nat.sub_self] at hx
      injection hx with hx
      subst hx
      refine ⟨⟨hf, ht, by show bs.length ≤ _; omega⟩, fun _ => ⟨Maps.has_put_same (World.ownsMap.isMap hO) ky1 _, A9, c9, ?_, ?_⟩, fun hl => by cases hl⟩
      · show _ = DataW.held (Value.agg #[.int .i64 (f : Nat), .int .i64 (t : Nat), .slice A9 bs.length c9])
        rw [hbl]
        exact Maps.atKey_put_same (World.ownsMap.isMap hO) ky1 _ _
      · show w'.ownsRow 0 5 1 (.slice A9 bs.length c9) bs.length (bv bs)
        rw [hbl]
        exact own_base k1 (fun q hq => Nat.zero_le _)
  · rw [List.length_append] at hk
    simp at hk
    exact gone_put (h6 k (by omega)) (by omega)
  · obtain ⟨q1, q2⟩ := h7 f' t' hf' ht'
    have ew : isW f' t' ⟨f, t, bs, true⟩ = decide (f = f' ∧ t = t') := by
      unfold isW
      by_cases h1 : f = f' <;> by_cases h2 : t = t' <;> simp [h1, h2]
    rw [upd_way _ hf ht hf' ht', wayN_add, ew]
    by_cases hft : f = f' ∧ t = t'
    · obtain ⟨rfl, rfl⟩ := hft
      rw [if_pos ⟨rfl, rfl⟩, hl, if_pos (by simp)]
      constructor
      · push_cast; rfl
      · omega
    · rw [if_neg hft, if_neg (by simpa using hft)]
      exact ⟨q1, by omega⟩
theorem gv_full {W : World} {g mb r i : Nat} {T : List Ms} (h : NetV W g mb r T i) (f t : Nat) (hf : f < 5) (ht : t < 5) (A : Option Addr) (m c : Nat) (hw : 32 ≤ wayN T f t) :
    Calls Try.prog 32 #[.pointer (some ⟨g, 0, none⟩), .agg #[.int .i64 (f : Nat), .int .i64 (t : Nat), .slice A m c]] W fun e w' => ∃ id v : Int, e = .returned (.tuple #[.int .u64 id, .int .i64 v]) ∧ id = 0 ∧ v = 3 ∧ Fr (fun _ => False) W w' := by
  obtain ⟨lk, D, n, hB, hO, h1, h2, h3, h4, h5, h6, h7⟩ := h.ex
  refine (put_full W g mb (r : Nat) (T.length : Nat) lk f t A m c hB hf ht (by rw [(h7 f t hf ht).1]; omega)).mono ?_
  rintro e w' ⟨rfl, k1⟩
  exact ⟨_, _, rfl, rfl, rfl, k1⟩
/-- Send between two of them. -/
theorem gv_send {W : World} {g mb r i : Nat} {T : List Ms} (h : NetV W g mb r T i) (hi : i ≤ 4000) (hr4 : r ≤ 4) (F T' : Nat) (hF : 1 ≤ F ∧ F ≤ r) (hT : 1 ≤ T' ∧ T' ≤ r) (hne : F ≠ T') (A : Option Addr) (m c : Nat) (bs : List UInt8) (hr : Rd W A m (bv bs)) (hm : m ≤ 16384) (hw : wayN T F T' < 32) :
    Calls Try.prog 15 #[.pointer (some ⟨g, 0, none⟩), .int .i64 F, .int .i64 T', .slice A m c] W fun e w' => e = .returned (.tuple #[.int .u64 ((T.length + 1 : Nat) : Int), .int .i64 0]) ∧ NetV w' g mb r (T ++ [⟨F, T', bs, true⟩]) (i + 1) ∧ Fr (Gm g mb) W w' := by
  obtain ⟨lk, D, n, hB, _⟩ := h.ex
  refine (send_of W g mb r (T.length : Nat) lk F T' A m c (fun id v w' => id = ((T.length + 1 : Nat) : Int) ∧ v = 0 ∧ NetV w' g mb r (T ++ [⟨F, T', bs, true⟩]) (i + 1) ∧ Fr (Gm g mb) W w') hB (by omega) (by omega) (by omega) hm (gv_put h hi F T' (by omega) (by omega) A m c bs hr hm hw)).mono ?_
  rintro e w' ⟨id, v, rfl, rfl, rfl, h1, h2⟩
  exact ⟨rfl, h1, h2⟩
theorem gv_send_full {W : World} {g mb r i : Nat} {T : List Ms} (h : NetV W g mb r T i) (hr4 : r ≤ 4) (F T' : Nat) (hF : 1 ≤ F ∧ F ≤ r) (hT : 1 ≤ T' ∧ T' ≤ r) (hne : F ≠ T') (A : Option Addr) (m c : Nat) (hm : m ≤ 16384) (hw : 32 ≤ wayN T F T') :
    Calls Try.prog 15 #[.pointer (some ⟨g, 0, none⟩), .int .i64 F, .int .i64 T', .slice A m c] W fun e w' => e = .returned (.tuple #[.int .u64 0, .int .i64 3]) ∧ Fr (fun _ => False) W w' := by
  obtain ⟨lk, D, n, hB, _⟩ := h.ex
  refine (send_of W g mb r (T.length : Nat) lk F T' A m c (fun id v w' => id = 0 ∧ v = 3 ∧ Fr (fun _ => False) W w') hB (by omega) (by omega) (by omega) hm (gv_full h F T' (by omega) (by omega) A m c hw)).mono ?_
  rintro e w' ⟨id, v, rfl, rfl, rfl, h1⟩
  exact ⟨rfl, h1⟩
/-- Send of anything: there is a net still. -/
theorem gv_send_any {W : World} {g mb r i : Nat} {T : List Ms} (h : NetV W g mb r T i) (hi : i ≤ 4000) (hr4 : r ≤ 4) (f t : Int) (A : Option Addr) (m c : Nat) (bs : List UInt8) (hr : Rd W A m (bv bs)) :
    Calls Try.prog 15 #[.pointer (some ⟨g, 0, none⟩), .int .i64 f, .int .i64 t, .slice A m c] W fun e w' => ∃ v T2, e = .returned v ∧ NetV w' g mb r T2 (i + 1) ∧ Fr (Gm g mb) W w' := by
  by_cases hg : (1 ≤ f ∧ f ≤ (r : Nat)) ∧ (1 ≤ t ∧ t ≤ (r : Nat)) ∧ f ≠ t
  · obtain ⟨hf, ht, hne⟩ := hg
    obtain ⟨F, rfl⟩ := Int.eq_ofNat_of_zero_le (show 0 ≤ f by omega)
    obtain ⟨T', rfl⟩ := Int.eq_ofNat_of_zero_le (show 0 ≤ t by omega)
    by_cases hm : m ≤ 16384
    · rcases Nat.lt_or_ge (wayN T F T') 32 with hw | hw
      · refine (gv_send h hi hr4 F T' (by omega) (by omega) (by omega) A m c bs hr hm hw).mono ?_
        rintro e w' ⟨rfl, h1, h2⟩
        exact ⟨_, _, rfl, h1, h2⟩
      · refine (gv_send_full h hr4 F T' (by omega) (by omega) (by omega) A m c hm hw).mono ?_
        rintro e w' ⟨rfl, h1⟩
        exact ⟨_, T, rfl, (h.far h1).up (by omega), h1.mono (fun _ _ e => e.elim)⟩
    · obtain ⟨lk, D, n, hB, _⟩ := h.ex
      refine (send_long W g mb r (T.length : Nat) lk F T' A m c hB hf ht hne (by omega)).mono ?_
      rintro e w' ⟨rfl, rfl⟩
      exact ⟨_, T, rfl, h.up (by omega), Fr.refl _ _⟩
  · obtain ⟨lk, D, n, hB, _⟩ := h.ex
    refine (send_bad W g mb r (T.length : Nat) lk f t A m c hB hg).mono ?_
    rintro e w' ⟨rfl, rfl⟩
    exact ⟨_, T, rfl, h.up (by omega), Fr.refl _ _⟩
theorem gv_double_full {W : World} {g mb r i : Nat} {T : List Ms} (h : NetV W g mb r T i) {id : Nat} (hid : id < 18446744073709551616) {x : Ms} (hx : lookT T id = some x) (hw : 32 ≤ wayN T x.f x.t) :
    Calls Try.prog 17 #[.pointer (some ⟨g, 0, none⟩), .int .u64 (id : Nat)] W fun e w' => e = .returned (.tuple #[.int .u64 0, .int .i64 3]) ∧ Fr (fun _ => False) W w' := by
  obtain ⟨A, c, h1, h2, h3, h4, h5⟩ := gv_found h hid hx
  refine (double_of W _ _ _ _ A _ c (fun id v w' => id = 0 ∧ v = 3 ∧ Fr (fun _ => False) W w') (h5 W (Fr.refl _ _)) (fun W' hW => ?_)).mono ?_
  · refine (gv_full (h.far hW) x.f x.t h2 h3 A _ c hw).mono ?_
    rintro e w' ⟨id, v, rfl, rfl, rfl, k1⟩
    exact ⟨_, _, rfl, rfl, rfl, hW.trans k1 (fun _ _ h => h)⟩
  · rintro e w' ⟨id, v, rfl, rfl, rfl, k1⟩
    exact ⟨rfl, k1⟩
theorem gv_double_any {W : World} {g mb r i : Nat} {T : List Ms} (h : NetV W g mb r T i) (hi : i ≤ 4000) {id : Nat} (hid : id < 18446744073709551616) :
    Calls Try.prog 17 #[.pointer (some ⟨g, 0, none⟩), .int .u64 (id : Nat)] W fun e w' => ∃ v T2, e = .returned v ∧ NetV w' g mb r T2 (i + 1) ∧ Fr (Gm g mb) W w' := by
  cases hx : lookT T id with
  | none =>
    refine (gv_double_none h hid hx).mono ?_
    rintro e w' ⟨rfl, h1⟩
    exact ⟨_, T, rfl, (h.far h1).up (by omega), h1.mono (fun _ _ e => e.elim)⟩
  | some x =>
    rcases Nat.lt_or_ge (wayN T x.f x.t) 32 with hw | hw
    · obtain ⟨A, c, h1, h2, h3, h4, h5⟩ := gv_found h hid hx
      refine (double_of W _ _ _ _ A _ c (fun id v w' => id = ((T.length + 1 : Nat) : Int) ∧ v = 0 ∧ NetV w' g mb r (T ++ [⟨x.f, x.t, x.bs, true⟩]) (i + 1) ∧ Fr (Gm g mb) W w') (h5 W (Fr.refl _ _)) (fun W' hW => ?_)).mono ?_
      · refine (gv_put (h.far hW) hi x.f x.t h2 h3 A _ c x.bs (h1.far hW) h4 hw).mono ?_
        rintro e w' ⟨id, v, rfl, rfl, rfl, k1, k2⟩
        exact ⟨_, _, rfl, rfl, rfl, k1, (hW.mono (fun _ _ h => h.elim)).trans k2 (fun _ _ h => h)⟩
      · rintro e w' ⟨id, v, rfl, rfl, rfl, k1, k2⟩
        exact ⟨_, _, rfl, k1, k2⟩
    · refine (gv_double_full h hid hx hw).mono ?_
      rintro e w' ⟨rfl, h1⟩
      exact ⟨_, T, rfl, (h.far h1).up (by omega), h1.mono (fun _ _ e => e.elim)⟩
theorem gv_deliver {W : World} {g mb r i : Nat} {T : List Ms} (h : NetV W g mb r T i) (hi : i ≤ 4000) {k : Nat} (hid : k + 1 < 18446744073709551616) {x : Ms} (hx : lookT T (k + 1) = some x) :
    Calls Try.prog 16 #[.pointer (some ⟨g, 0, none⟩), .int .u64 ((k + 1 : Nat) : Int)] W fun e w' => ∃ A c, e = .returned (.tuple #[.agg #[.int .i64 (x.f : Nat), .int .i64 (x.t : Nat), .slice A x.bs.length c], .int .i64 0]) ∧
      w'.ownsRow W.heap.size 5 1 (.slice A x.bs.length c) x.bs.length (bv x.bs) ∧ NetV w' g mb r (kill T k x) (i + 1) ∧ Fr (Gm g mb) W w' := by
  obtain ⟨lk, D, n, hB, hO, h1, h2, h3, h4, h5, h6, h7⟩ := h.ex
  have hle := h.le
  obtain ⟨k', e', hk, hl⟩ := lookT_some hx
  have ek : k = k' := by omega
  subst ek
  obtain ⟨⟨e0, e1, e2⟩, e3, _⟩ := h4 k x hk
  obtain ⟨k1, A, c, k2, k3⟩ := e3 hl
  have hb := h2 (x.f * 5 + x.t)
  refine (deliver_g W g mb n (r : Nat) (T.length : Nat) lk D (k + 1) x.f x.t A _ c x.bs hB hO hid k2 k1 (Rd.of_own k3) (by omega) e0 e1 (by omega) (by omega)).mono ?_
  rintro e w' ⟨v, rfl, q1, q2, q3, q4⟩
  obtain ⟨A9, c9, rfl, _, _⟩ := own_slice q1
  refine ⟨A9, c9, rfl, q1, ⟨⟨_, _, n, by unfold kill; rw [List.length_set]; exact q2, q3, by omega, fun j => ?_, ?_, ?_, gone_del h5, fun q hq => ?_, fun f' t' hf' ht' => ?_⟩, by unfold kill; rw [List.length_set]; omega⟩, q4⟩
  · unfold upd
    have := h2 j
    split <;> omega
  · have hs := Maps.size_del (World.ownsMap.tidy hO K64) (k := ky (k + 1))
    rw [k1, if_pos rfl] at hs
    have hf := filter_kill T k x ⟨x.f, x.t, x.bs, false⟩ hk hl rfl
    have hs' : Maps.size (D.del (ky (k + 1))) + 1 = Maps.size D := hs
    show Maps.size (D.del (ky (k + 1))) = ((T.set k ⟨x.f, x.t, x.bs, false⟩).filter (·.live)).length
    rw [h3] at hs'
    omega
  · have hE := h4.frv q4 (fun k e => by rcases e with rfl | rfl; exact .inl ⟨_, _, hB, by decide⟩; exact .inr ⟨_, _, hO⟩)
    intro q y hy
    unfold kill at hy
    by_cases hq : q = k
    · subst hq
      rw [List.getElem?_set_self (List.getElem?_eq_some_iff.1 hk).1] at hy
      injection hy with hy
      subst hy
      exact ⟨⟨e0, e1, e2⟩, (fun hl => by cases hl), fun _ => ⟨Maps.has_del_same, Maps.atKey_del_same _⟩⟩
    · rw [List.getElem?_set_ne (by omega)] at hy
      obtain ⟨p0, p1, p2⟩ := hE q y hy
      exact ⟨p0, fun hl => held_del (p1 hl) (by omega), fun hl => gone_del (p2 hl)⟩
  · unfold kill at hq
    rw [List.length_set] at hq
    exact gone_del (h6 q hq)
  · obtain ⟨p1, p2⟩ := h7 f' t' hf' ht'
    have hk2 := wayN_kill T k x hk hl f' t'
    rw [upd_way _ e0 e1 hf' ht']
    by_cases hft : x.f = f' ∧ x.t = t'
    · rw [if_pos hft] at hk2 ⊢
      obtain ⟨rfl, rfl⟩ := hft
      rw [p1]
      omega
    · rw [if_neg hft] at hk2 ⊢
      rw [p1]
      omega
theorem gv_deliver_any {W : World} {g mb r i : Nat} {T : List Ms} (h : NetV W g mb r T i) (hi : i ≤ 4000) {id : Nat} (hid : id < 18446744073709551616) :
    Calls Try.prog 16 #[.pointer (some ⟨g, 0, none⟩), .int .u64 (id : Nat)] W fun e w' => ∃ v T2, e = .returned v ∧ NetV w' g mb r T2 (i + 1) ∧ Fr (Gm g mb) W w' := by
  cases hx : lookT T id with
  | none =>
    refine (gv_deliver_none h hid hx).mono ?_
    rintro e w' ⟨rfl, h1⟩
    exact ⟨_, T, rfl, (h.far h1).up (by omega), h1.mono (fun _ _ e => e.elim)⟩
  | some x =>
    obtain ⟨k, rfl, _, _⟩ := lookT_some hx
    refine (gv_deliver h hi hid hx).mono ?_
    rintro e w' ⟨A, c, rfl, _, h1, h2⟩
    exact ⟨_, _, rfl, h1, h2⟩
theorem gv_drop {W : World} {g mb r i : Nat} {T : List Ms} (h : NetV W g mb r T i) (hi : i ≤ 4000) {k : Nat} (hid : k + 1 < 18446744073709551616) {x : Ms} (hx : lookT T (k + 1) = some x) :
    Calls Try.prog 19 #[.pointer (some ⟨g, 0, none⟩), .int .u64 ((k + 1 : Nat) : Int)] W fun e w' => e = .returned (.int .i64 0) ∧ NetV w' g mb r (kill T k x) (i + 1) ∧ Fr (Gm g mb) W w' := by
  refine (drop_of W _ _ 0 (fun w' => NetV w' g mb r (kill T k x) (i + 1) ∧ Fr (Gm g mb) W w') (fun W' o hQ => ⟨hQ.1.far ((Fr.refl _ _).alloc _), hQ.2.alloc _⟩) ((gv_deliver h hi hid hx).mono ?_)).mono ?_
  · rintro e w' ⟨A, c, rfl, _, h1, h2⟩
    exact ⟨_, _, _, _, _, rfl, h1, h2⟩
  · rintro e w' h1
    exact h1
theorem gv_drop_any {W : World} {g mb r i : Nat} {T : List Ms} (h : NetV W g mb r T i) (hi : i ≤ 4000) {id : Nat} (hid : id < 18446744073709551616) :
    Calls Try.prog 19 #[.pointer (some ⟨g, 0, none⟩), .int .u64 (id : Nat)] W fun e w' => ∃ v T2, e = .returned v ∧ NetV w' g mb r T2 (i + 1) ∧ Fr (Gm g mb) W w' := by
  cases hx : lookT T id with
  | none =>
    refine (gv_drop_none h hid hx).mono ?_
    rintro e w' ⟨rfl, h1⟩
    exact ⟨_, T, rfl, (h.far h1).up (by omega), h1.mono (fun _ _ e => e.elim)⟩
  | some x =>
    obtain ⟨k, rfl, _, _⟩ := lookT_some hx
    refine (gv_drop h hi hid hx).mono ?_
    rintro e w' ⟨rfl, h1, h2⟩
    exact ⟨_, _, rfl, h1, h2⟩
set_option maxRecDepth 100000 in
set_option maxHeartbeats 1000000 in
theorem new_v (w : World) (r : Nat) (h1 : 1 ≤ r) (h4 : r ≤ 4) : Calls Try.prog 8 #[.int .i64 (r : Nat)] w fun e w' => ∃ mb g, e = .returned (.tuple #[.pointer (some ⟨g, 0, none⟩), .int .i64 0]) ∧ NetV w' g mb r [] 0 ∧
    Fr (fun _ => False) w w' ∧ w.heap.size ≤ g ∧ w.heap.size ≤ mb := by
  have hm := run_make
  have d1 : decide ((r : Int) < 1) = false := decide_eq_false (by omega)
  have d4 : decide ((4 : Int) < (r : Int)) = false := decide_eq_false (by omega)
  go_enter Try.func8, Try.ntmps8
  go_wp2_with fail
  go_ret2
  refine ⟨w.heap.size, w.heap.size + 1, rfl, ⟨⟨fun _ => 0, .map [], 0, Blk.new1 w _ 46 (netC (r : Nat) (0 : Nat) (some w.heap.size) (fun _ => 0)), MapI.fr (fp := fun _ => False) (World.ownsMap_made w Try.prog 32 RH) ((Fr.refl _ _).alloc _) (fun h => h), Nat.le_refl _, fun j => by simp, rfl, fun k x h => by simp at h, ⟨rfl, rfl⟩, fun k _ => ⟨rfl, rfl⟩, fun f t _ _ => ⟨rfl, Nat.zero_le _⟩⟩, Nat.le_refl _⟩, ((Fr.refl _ w).alloc _).alloc _, by omega, Nat.le_refl _⟩
end Go.Proofs.Ytpgklhbbjbdejaa
