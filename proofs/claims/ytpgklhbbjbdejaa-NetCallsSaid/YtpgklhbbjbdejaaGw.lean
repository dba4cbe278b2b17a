/-
  A NET BY WHAT WAS SENT, WITH THE LINKS' COUNTS: how many live ones there are each way.
-/
import Derived.Test.YtpgklhbbjbdejaaOnA
namespace Go.Proofs.Ytpgklhbbjbdejaa
set_option linter.unusedSimpArgs false
set_option linter.unusedVariables false
open Go Go.RowKit Go.Maps

def isW (f t : Nat) (x : Ms) : Bool := x.live && (x.f == f && x.t == t)
def wayN (T : List Ms) (f t : Nat) : Nat := (T.filter (isW f t)).length
theorem wayN_add (T : List Ms) (x : Ms) (f t : Nat) : wayN (T ++ [x]) f t = wayN T f t + (if isW f t x then 1 else 0) := by
  unfold wayN
  rw [List.filter_append, List.length_append]
  congr 1
  rw [List.filter_cons]
  split <;> rfl
theorem filter_set {p : Ms → Bool} : ∀ (T : List Ms) (k : Nat) (x y : Ms), T[k]? = some x → p y = false → ((T.set k y).filter p).length + (if p x then 1 else 0) = (T.filter p).length
  | [], _, _, _, h, _ => by cases h
  | a :: T, 0, x, y, h, h2 => by
    have : a = x := by simpa using h
    subst this
    cases ha : p a <;> simp [List.filter_cons, h2, ha]
  | a :: T, k + 1, x, y, h, h2 => by
    have ih := filter_set T k x y (by simpa using h) h2
    cases ha : p a <;> simp [List.filter_cons, ha] <;> omega
theorem wayN_kill (T : List Ms) (k : Nat) (x : Ms) (hx : T[k]? = some x) (hl : x.live = true) (f t : Nat) : wayN (kill T k x) f t + (if x.f = f ∧ x.t = t then 1 else 0) = wayN T f t := by
  have h := filter_set (p := isW f t) T k x ⟨x.f, x.t, x.bs, false⟩ hx rfl
  unfold wayN kill
  have e : isW f t x = decide (x.f = f ∧ x.t = t) := by
    unfold isW
    rw [hl, Bool.true_and]
    by_cases h1 : x.f = f <;> by_cases h2 : x.t = t <;> simp [h1, h2]
  rw [e] at h
  simpa using h
structure NetW (W : World) (b0 g mb r : Nat) (T : List Ms) (i : Nat) : Prop where
  ex : ∃ lk D n, Blk W g 46 (netC (r : Nat) (T.length : Nat) (some mb) lk) ∧ MapI W mb n D ∧ n ≤ i ∧ (∀ j, -(i : Int) ≤ lk j ∧ lk j ≤ i) ∧ Maps.size D = (T.filter (·.live)).length ∧ Each W b0 D T ∧ gone D 0 ∧ (∀ k, T.length < k → gone D k) ∧
    ∀ f t, f < 5 → t < 5 → lk (f * 5 + t) = (wayN T f t : Nat) ∧ wayN T f t ≤ 32
  le : T.length ≤ i
  gb : g < b0
  mbb : mb < b0
  sz : b0 ≤ W.heap.size
theorem NetW.at_ {W : World} {b0 g mb r i : Nat} {T : List Ms} (h : NetW W b0 g mb r T i) : NetAt W b0 g mb r T i := by
  obtain ⟨lk, D, n, h0, h1, h2, h3, h4, h5, h6, h7, _⟩ := h.ex
  exact ⟨⟨lk, D, n, h0, h1, h2, h3, h4, h5, h6, h7⟩, h.le, h.gb, h.mbb, h.sz⟩
theorem NetW.fr {W W' : World} {b0 g mb r i : Nat} {T : List Ms} {fp : Nat → Prop} (h : NetW W b0 g mb r T i) (f : Fr fp W W') (hfp : ∀ k, fp k → ∃ t cs, Blk W k t cs ∧ 5 ≠ t ∧ 46 ≠ t) : NetW W' b0 g mb r T i := by
  obtain ⟨lk, D, n, hB, hO, h1, h2, h3, h4, h5, h6, h7⟩ := h.ex
  refine ⟨⟨lk, D, n, hB.fr f (fun e => ?_), MapI.fr hO f (fun e => ?_), h1, h2, h3, h4.fr f (fun k e => ?_), h5, h6, h7⟩, h.le, h.gb, h.mbb, Nat.le_trans h.sz f.size⟩
  · obtain ⟨t, cs, hb, _, hne⟩ := hfp _ e
    exact hB.ne_ hb hne rfl
  · obtain ⟨t, cs, hb, _, _⟩ := hfp _ e
    exact map_ne hb hO rfl
  · obtain ⟨t, cs, hb, hne, _⟩ := hfp _ e
    exact .inr ⟨t, cs, hb, hne⟩
theorem NetW.far {W W' : World} {b0 g mb r i : Nat} {T : List Ms} (h : NetW W b0 g mb r T i) (f : Fr (fun _ => False) W W') : NetW W' b0 g mb r T i := h.fr f (fun _ e => e.elim)
theorem NetW.up {W : World} {b0 g mb r i j : Nat} {T : List Ms} (h : NetW W b0 g mb r T i) (hij : i ≤ j) : NetW W b0 g mb r T j := by
  obtain ⟨lk, D, n, hB, hO, h1, h2, h3⟩ := h.ex
  exact ⟨⟨lk, D, n, hB, hO, by omega, fun q => by have := h2 q; omega, h3⟩, by have := h.le; omega, h.gb, h.mbb, h.sz⟩
theorem upd_way {lk : Nat → Int} {f t f' t' : Nat} (v : Int) (hf : f < 5) (ht : t < 5) (hf' : f' < 5) (ht' : t' < 5) : upd lk (f * 5 + t) v (f' * 5 + t') = if f = f' ∧ t = t' then v else lk (f' * 5 + t') := by
  unfold upd
  by_cases h : f = f' ∧ t = t'
  · rw [if_pos h, if_pos (by obtain ⟨rfl, rfl⟩ := h; rfl)]
  · rw [if_neg h, if_neg (by intro e; exact h (by omega))]
theorem gw_put {W : World} {b0 g mb r i : Nat} {T : List Ms} (h : NetW W b0 g mb r T i) (hi : i ≤ 4000) (f t : Nat) (hf : f < 5) (ht : t < 5) (A : Option Addr) (m c : Nat) (bs : List UInt8) (hr : Rd W A m (bv bs)) (hm : m ≤ 16384) (hw : wayN T f t < 32) :
    Calls Try.prog 32 #[.pointer (some ⟨g, 0, none⟩), .agg #[.int .i64 (f : Nat), .int .i64 (t : Nat), .slice A m c]] W fun e w' => ∃ id v : Int, e = .returned (.tuple #[.int .u64 id, .int .i64 v]) ∧ id = ((T.length + 1 : Nat) : Int) ∧ v = 0 ∧ NetW w' b0 g mb r (T ++ [⟨f, t, bs, true⟩]) (i + 1) ∧ Fr (Gm g mb) W w' := by
  obtain ⟨lk, D, n, hB, hO, h1, h2, h3, h4, h5, h6, h7⟩ := h.ex
  have hle := h.le
  have hl := (h7 f t hf ht).1
  have hb := h2 (f * 5 + t)
  refine (put_g W g mb n (r : Nat) T.length lk D f t A m c bs hB hO hr (by omega) hf ht (by rw [hl]; omega) (by omega) (by omega) (by unfold maxLen; omega)).mono ?_
  rintro e w' ⟨rfl, v, k1, k2, k3, k4⟩
  have hbl : bs.length = m := by rw [← hr.1, bv_length]
  obtain ⟨A9, c9, rfl, _, _⟩ := own_slice k1
  have ky1 : WideAt.IsKeyLit (ky (T.length + 1)) := ky_key (by omega)
  have g1 := h6 (T.length + 1) (by omega)
  refine ⟨_, _, rfl, rfl, rfl, ⟨⟨_, _, n + 1, by rw [List.length_append]; exact k2, k3, by omega, fun j => ?_, ?_, ?_, gone_put h5 (by omega), fun k hk => ?_, fun f' t' hf' ht' => ?_⟩, by rw [List.length_append]; simp; omega, h.gb, h.mbb, Nat.le_trans h.sz k4.size⟩, k4⟩
  · unfold upd
    have := h2 j
    split <;> omega
  · rw [Maps.size_put (World.ownsMap.tidy hO K64), g1.1, List.filter_append, List.length_append, h3]
    simp
  · have hE := h4.fr k4 (fun k e => .inl (by have := h.gb; have := h.mbb; rcases e with e | e <;> omega))
    intro k x hx
    rcases Nat.lt_or_ge k T.length with hk | hk
    · rw [List.getElem?_append_left hk] at hx
      obtain ⟨e0, e1, e2⟩ := hE k x hx
      exact ⟨e0, fun hl => held_put (e1 hl) (by omega), fun hl => gone_put (e2 hl) (by omega)⟩
    · rw [List.getElem?_append_right hk] at hx
      have hk0 : k = T.length := by
        have := (List.getElem?_eq_some_iff.1 hx).1
        simp at this
        omega
      subst hk0
      rw [Nat.sub_self] at hx
      injection hx with hx
      subst hx
      refine ⟨⟨hf, ht, by show bs.length ≤ _; omega⟩, fun _ => ⟨Maps.has_put_same (World.ownsMap.isMap hO) ky1 _, A9, c9, ?_, ?_⟩, fun hl => by cases hl⟩
      · show _ = DataW.held (Value.agg #[.int .i64 (f : Nat), .int .i64 (t : Nat), .slice A9 bs.length c9])
        rw [hbl]
        exact Maps.atKey_put_same (World.ownsMap.isMap hO) ky1 _ _
      · show w'.ownsRow b0 5 1 (.slice A9 bs.length c9) bs.length (bv bs)
        rw [hbl]
        exact own_base k1 (fun q hq => Nat.le_trans h.sz (World.ownsRow.lt k1 q hq).1)
  · rw [List.length_append] at hk
    simp at hk
    exact gone_put (h6 k (by omega)) (by omega)
  · obtain ⟨q1, q2⟩ := h7 f' t' hf' ht'
    have ew : isW f' t' ⟨f, t, bs, true⟩ = decide (f = f' ∧ t = t') := by
      unfold isW
      by_cases h1 : f = f' <;> by_cases h2 : t = t' <;> simp [h1, h2]
    rw [upd_way _ hf ht hf' ht', wayN_add, ew]
    by_cases hft : f = f' ∧ t = t'
    · obtain ⟨rfl, rfl⟩ := hft
      rw [if_pos ⟨rfl, rfl⟩, hl, if_pos (by simp)]
      constructor
      · push_cast; rfl
      · omega
    · rw [if_neg hft, if_neg (by simpa using hft)]
      exact ⟨q1, by omega⟩
theorem gw_full {W : World} {b0 g mb r i : Nat} {T : List Ms} (h : NetW W b0 g mb r T i) (f t : Nat) (hf : f < 5) (ht : t < 5) (A : Option Addr) (m c : Nat) (hw : 32 ≤ wayN T f t) :
    Calls Try.prog 32 #[.pointer (some ⟨g, 0, none⟩), .agg #[.int .i64 (f : Nat), .int .i64 (t : Nat), .slice A m c]] W fun e w' => ∃ id v : Int, e = .returned (.tuple #[.int .u64 id, .int .i64 v]) ∧ id = 0 ∧ v = 3 ∧ Fr (fun _ => False) W w' := by
  obtain ⟨lk, D, n, hB, hO, h1, h2, h3, h4, h5, h6, h7⟩ := h.ex
  refine (put_full W g mb (r : Nat) (T.length : Nat) lk f t A m c hB hf ht (by rw [(h7 f t hf ht).1]; omega)).mono ?_
  rintro e w' ⟨rfl, k1⟩
  exact ⟨_, _, rfl, rfl, rfl, k1⟩
/-- Send between two of them. -/
theorem gw_send {W : World} {b0 g mb r i : Nat} {T : List Ms} (h : NetW W b0 g mb r T i) (hi : i ≤ 4000) (hr4 : r ≤ 4) (F T' : Nat) (hF : 1 ≤ F ∧ F ≤ r) (hT : 1 ≤ T' ∧ T' ≤ r) (hne : F ≠ T') (A : Option Addr) (m c : Nat) (bs : List UInt8) (hr : Rd W A m (bv bs)) (hm : m ≤ 16384) (hw : wayN T F T' < 32) :
    Calls Try.prog 15 #[.pointer (some ⟨g, 0, none⟩), .int .i64 F, .int .i64 T', .slice A m c] W fun e w' => e = .returned (.tuple #[.int .u64 ((T.length + 1 : Nat) : Int), .int .i64 0]) ∧ NetW w' b0 g mb r (T ++ [⟨F, T', bs, true⟩]) (i + 1) ∧ Fr (Gm g mb) W w' := by
  obtain ⟨lk, D, n, hB, _⟩ := h.ex
  refine (send_of W g mb r (T.length : Nat) lk F T' A m c (fun id v w' => id = ((T.length + 1 : Nat) : Int) ∧ v = 0 ∧ NetW w' b0 g mb r (T ++ [⟨F, T', bs, true⟩]) (i + 1) ∧ Fr (Gm g mb) W w') hB (by omega) (by omega) (by omega) hm (gw_put h hi F T' (by omega) (by omega) A m c bs hr hm hw)).mono ?_
  rintro e w' ⟨id, v, rfl, rfl, rfl, h1, h2⟩
  exact ⟨rfl, h1, h2⟩
theorem gw_send_full {W : World} {b0 g mb r i : Nat} {T : List Ms} (h : NetW W b0 g mb r T i) (hr4 : r ≤ 4) (F T' : Nat) (hF : 1 ≤ F ∧ F ≤ r) (hT : 1 ≤ T' ∧ T' ≤ r) (hne : F ≠ T') (A : Option Addr) (m c : Nat) (hm : m ≤ 16384) (hw : 32 ≤ wayN T F T') :
    Calls Try.prog 15 #[.pointer (some ⟨g, 0, none⟩), .int .i64 F, .int .i64 T', .slice A m c] W fun e w' => e = .returned (.tuple #[.int .u64 0, .int .i64 3]) ∧ Fr (fun _ => False) W w' := by
  obtain ⟨lk, D, n, hB, _⟩ := h.ex
  refine (send_of W g mb r (T.length : Nat) lk F T' A m c (fun id v w' => id = 0 ∧ v = 3 ∧ Fr (fun _ => False) W w') hB (by omega) (by omega) (by omega) hm (gw_full h F T' (by omega) (by omega) A m c hw)).mono ?_
  rintro e w' ⟨id, v, rfl, rfl, rfl, h1⟩
  exact ⟨rfl, h1⟩
/-- Send of anything: there is a net still. -/
theorem gw_send_any {W : World} {b0 g mb r i : Nat} {T : List Ms} (h : NetW W b0 g mb r T i) (hi : i ≤ 4000) (hr4 : r ≤ 4) (f t : Int) (A : Option Addr) (m c : Nat) (bs : List UInt8) (hr : Rd W A m (bv bs)) :
    Calls Try.prog 15 #[.pointer (some ⟨g, 0, none⟩), .int .i64 f, .int .i64 t, .slice A m c] W fun e w' => ∃ v T2, e = .returned v ∧ NetW w' b0 g mb r T2 (i + 1) ∧ Fr (Gm g mb) W w' := by
  by_cases hg : (1 ≤ f ∧ f ≤ (r : Nat)) ∧ (1 ≤ t ∧ t ≤ (r : Nat)) ∧ f ≠ t
  · obtain ⟨hf, ht, hne⟩ := hg
    obtain ⟨F, rfl⟩ := Int.eq_ofNat_of_zero_le (show 0 ≤ f by omega)
    obtain ⟨T', rfl⟩ := Int.eq_ofNat_of_zero_le (show 0 ≤ t by omega)
    by_cases hm : m ≤ 16384
    · rcases Nat.lt_or_ge (wayN T F T') 32 with hw | hw
      · refine (gw_send h hi hr4 F T' (by omega) (by omega) (by omega) A m c bs hr hm hw).mono ?_
        rintro e w' ⟨rfl, h1, h2⟩
        exact ⟨_, _, rfl, h1, h2⟩
      · refine (gw_send_full h hr4 F T' (by omega) (by omega) (by omega) A m c hm hw).mono ?_
        rintro e w' ⟨rfl, h1⟩
        exact ⟨_, T, rfl, (h.far h1).up (by omega), h1.mono (fun _ _ e => e.elim)⟩
    · obtain ⟨lk, D, n, hB, _⟩ := h.ex
      refine (send_long W g mb r (T.length : Nat) lk F T' A m c hB hf ht hne (by omega)).mono ?_
      rintro e w' ⟨rfl, rfl⟩
      exact ⟨_, T, rfl, h.up (by omega), Fr.refl _ _⟩
  · obtain ⟨lk, D, n, hB, _⟩ := h.ex
    refine (send_bad W g mb r (T.length : Nat) lk f t A m c hB hg).mono ?_
    rintro e w' ⟨rfl, rfl⟩
    exact ⟨_, T, rfl, h.up (by omega), Fr.refl _ _⟩
theorem gw_double_full {W : World} {b0 g mb r i : Nat} {T : List Ms} (h : NetW W b0 g mb r T i) {id : Nat} (hid : id < 18446744073709551616) {x : Ms} (hx : lookT T id = some x) (hw : 32 ≤ wayN T x.f x.t) :
    Calls Try.prog 17 #[.pointer (some ⟨g, 0, none⟩), .int .u64 (id : Nat)] W fun e w' => e = .returned (.tuple #[.int .u64 0, .int .i64 3]) ∧ Fr (fun _ => False) W w' := by
  obtain ⟨A, c, h1, h2, h3, h4, h5⟩ := gh_found h.at_ hid hx
  refine (double_of W _ _ _ _ A _ c (fun id v w' => id = 0 ∧ v = 3 ∧ Fr (fun _ => False) W w') (h5 W (Fr.refl _ _)) (fun W' hW => ?_)).mono ?_
  · refine (gw_full (h.far hW) x.f x.t h2 h3 A _ c hw).mono ?_
    rintro e w' ⟨id, v, rfl, rfl, rfl, k1⟩
    exact ⟨_, _, rfl, rfl, rfl, hW.trans k1 (fun _ _ h => h)⟩
  · rintro e w' ⟨id, v, rfl, rfl, rfl, k1⟩
    exact ⟨rfl, k1⟩
theorem gw_double_any {W : World} {b0 g mb r i : Nat} {T : List Ms} (h : NetW W b0 g mb r T i) (hi : i ≤ 4000) {id : Nat} (hid : id < 18446744073709551616) :
    Calls Try.prog 17 #[.pointer (some ⟨g, 0, none⟩), .int .u64 (id : Nat)] W fun e w' => ∃ v T2, e = .returned v ∧ NetW w' b0 g mb r T2 (i + 1) ∧ Fr (Gm g mb) W w' := by
  cases hx : lookT T id with
  | none =>
    refine (gh_double_none h.at_ hid hx).mono ?_
    rintro e w' ⟨rfl, h1⟩
    exact ⟨_, T, rfl, (h.far h1).up (by omega), h1.mono (fun _ _ e => e.elim)⟩
  | some x =>
    rcases Nat.lt_or_ge (wayN T x.f x.t) 32 with hw | hw
    · obtain ⟨A, c, h1, h2, h3, h4, h5⟩ := gh_found h.at_ hid hx
      refine (double_of W _ _ _ _ A _ c (fun id v w' => id = ((T.length + 1 : Nat) : Int) ∧ v = 0 ∧ NetW w' b0 g mb r (T ++ [⟨x.f, x.t, x.bs, true⟩]) (i + 1) ∧ Fr (Gm g mb) W w') (h5 W (Fr.refl _ _)) (fun W' hW => ?_)).mono ?_
      · refine (gw_put (h.far hW) hi x.f x.t h2 h3 A _ c x.bs (h1.far hW) h4 hw).mono ?_
        rintro e w' ⟨id, v, rfl, rfl, rfl, k1, k2⟩
        exact ⟨_, _, rfl, rfl, rfl, k1, (hW.mono (fun _ _ h => h.elim)).trans k2 (fun _ _ h => h)⟩
      · rintro e w' ⟨id, v, rfl, rfl, rfl, k1, k2⟩
        exact ⟨_, _, rfl, k1, k2⟩
    · refine (gw_double_full h hid hx hw).mono ?_
      rintro e w' ⟨rfl, h1⟩
      exact ⟨_, T, rfl, (h.far h1).up (by omega), h1.mono (fun _ _ e => e.elim)⟩
theorem gw_deliver {W : World} {b0 g mb r i : Nat} {T : List Ms} (h : NetW W b0 g mb r T i) (hi : i ≤ 4000) {k : Nat} (hid : k + 1 < 18446744073709551616) {x : Ms} (hx : lookT T (k + 1) = some x) :
    Calls Try.prog 16 #[.pointer (some ⟨g, 0, none⟩), .int .u64 ((k + 1 : Nat) : Int)] W fun e w' => ∃ A c, e = .returned (.tuple #[.agg #[.int .i64 (x.f : Nat), .int .i64 (x.t : Nat), .slice A x.bs.length c], .int .i64 0]) ∧
      w'.ownsRow W.heap.size 5 1 (.slice A x.bs.length c) x.bs.length (bv x.bs) ∧ NetW w' b0 g mb r (kill T k x) (i + 1) ∧ Fr (Gm g mb) W w' := by
  obtain ⟨lk, D, n, hB, hO, h1, h2, h3, h4, h5, h6, h7⟩ := h.ex
  have hle := h.le
  obtain ⟨k', e', hk, hl⟩ := lookT_some hx
  have ek : k = k' := by omega
  subst ek
  obtain ⟨⟨e0, e1, e2⟩, e3, _⟩ := h4 k x hk
  obtain ⟨k1, A, c, k2, k3⟩ := e3 hl
  have hb := h2 (x.f * 5 + x.t)
  refine (deliver_g W g mb n (r : Nat) (T.length : Nat) lk D (k + 1) x.f x.t A _ c x.bs hB hO hid k2 k1 (Rd.of_own k3) (by omega) e0 e1 (by omega) (by omega)).mono ?_
  rintro e w' ⟨v, rfl, q1, q2, q3, q4⟩
  obtain ⟨A9, c9, rfl, _, _⟩ := own_slice q1
  refine ⟨A9, c9, rfl, q1, ⟨⟨_, _, n, by unfold kill; rw [List.length_set]; exact q2, q3, by omega, fun j => ?_, ?_, ?_, gone_del h5, fun q hq => ?_, fun f' t' hf' ht' => ?_⟩, by unfold kill; rw [List.length_set]; omega, h.gb, h.mbb, Nat.le_trans h.sz q4.size⟩, q4⟩
  · unfold upd
    have := h2 j
    split <;> omega
  · have hs := Maps.size_del (World.ownsMap.tidy hO K64) (k := ky (k + 1))
    rw [k1, if_pos rfl] at hs
    have hf := filter_kill T k x ⟨x.f, x.t, x.bs, false⟩ hk hl rfl
    have hs' : Maps.size (D.del (ky (k + 1))) + 1 = Maps.size D := hs
    show Maps.size (D.del (ky (k + 1))) = ((T.set k ⟨x.f, x.t, x.bs, false⟩).filter (·.live)).length
    rw [h3] at hs'
    omega
  · have hE := h4.fr q4 (fun k e => .inl (by have := h.gb; have := h.mbb; rcases e with e | e <;> omega))
    intro q y hy
    unfold kill at hy
    by_cases hq : q = k
    · subst hq
      rw [List.getElem?_set_self (List.getElem?_eq_some_iff.1 hk).1] at hy
      injection hy with hy
      subst hy
      exact ⟨⟨e0, e1, e2⟩, (fun hl => by cases hl), fun _ => ⟨Maps.has_del_same, Maps.atKey_del_same _⟩⟩
    · rw [List.getElem?_set_ne (by omega)] at hy
      obtain ⟨p0, p1, p2⟩ := hE q y hy
      exact ⟨p0, fun hl => held_del (p1 hl) (by omega), fun hl => gone_del (p2 hl)⟩
  · unfold kill at hq
    rw [List.length_set] at hq
    exact gone_del (h6 q hq)
  · obtain ⟨p1, p2⟩ := h7 f' t' hf' ht'
    have hk2 := wayN_kill T k x hk hl f' t'
    rw [upd_way _ e0 e1 hf' ht']
    by_cases hft : x.f = f' ∧ x.t = t'
    · rw [if_pos hft] at hk2 ⊢
      obtain ⟨rfl, rfl⟩ := hft
      rw [p1]
      omega
    · rw [if_neg hft] at hk2 ⊢
      rw [p1]
      omega
theorem gw_deliver_any {W : World} {b0 g mb r i : Nat} {T : List Ms} (h : NetW W b0 g mb r T i) (hi : i ≤ 4000) {id : Nat} (hid : id < 18446744073709551616) :
    Calls Try.prog 16 #[.pointer (some ⟨g, 0, none⟩), .int .u64 (id : Nat)] W fun e w' => ∃ v T2, e = .returned v ∧ NetW w' b0 g mb r T2 (i + 1) ∧ Fr (Gm g mb) W w' := by
  cases hx : lookT T id with
  | none =>
    refine (gh_deliver_none h.at_ hid hx).mono ?_
    rintro e w' ⟨rfl, h1⟩
    exact ⟨_, T, rfl, (h.far h1).up (by omega), h1.mono (fun _ _ e => e.elim)⟩
  | some x =>
    obtain ⟨k, rfl, _, _⟩ := lookT_some hx
    refine (gw_deliver h hi hid hx).mono ?_
    rintro e w' ⟨A, c, rfl, _, h1, h2⟩
    exact ⟨_, _, rfl, h1, h2⟩
theorem gw_drop {W : World} {b0 g mb r i : Nat} {T : List Ms} (h : NetW W b0 g mb r T i) (hi : i ≤ 4000) {k : Nat} (hid : k + 1 < 18446744073709551616) {x : Ms} (hx : lookT T (k + 1) = some x) :
    Calls Try.prog 19 #[.pointer (some ⟨g, 0, none⟩), .int .u64 ((k + 1 : Nat) : Int)] W fun e w' => e = .returned (.int .i64 0) ∧ NetW w' b0 g mb r (kill T k x) (i + 1) ∧ Fr (Gm g mb) W w' := by
  refine (drop_of W _ _ 0 (fun w' => NetW w' b0 g mb r (kill T k x) (i + 1) ∧ Fr (Gm g mb) W w') (fun W' o hQ => ⟨hQ.1.far ((Fr.refl _ _).alloc _), hQ.2.alloc _⟩) ((gw_deliver h hi hid hx).mono ?_)).mono ?_
  · rintro e w' ⟨A, c, rfl, _, h1, h2⟩
    exact ⟨_, _, _, _, _, rfl, h1, h2⟩
  · rintro e w' h1
    exact h1
theorem gw_drop_any {W : World} {b0 g mb r i : Nat} {T : List Ms} (h : NetW W b0 g mb r T i) (hi : i ≤ 4000) {id : Nat} (hid : id < 18446744073709551616) :
    Calls Try.prog 19 #[.pointer (some ⟨g, 0, none⟩), .int .u64 (id : Nat)] W fun e w' => ∃ v T2, e = .returned v ∧ NetW w' b0 g mb r T2 (i + 1) ∧ Fr (Gm g mb) W w' := by
  cases hx : lookT T id with
  | none =>
    refine (gh_drop_none h.at_ hid hx).mono ?_
    rintro e w' ⟨rfl, h1⟩
    exact ⟨_, T, rfl, (h.far h1).up (by omega), h1.mono (fun _ _ e => e.elim)⟩
  | some x =>
    obtain ⟨k, rfl, _, _⟩ := lookT_some hx
    refine (gw_drop h hi hid hx).mono ?_
    rintro e w' ⟨rfl, h1, h2⟩
    exact ⟨_, _, rfl, h1, h2⟩
set_option maxRecDepth 100000 in
set_option maxHeartbeats 1000000 in
theorem new_w (w : World) (r : Nat) (h1 : 1 ≤ r) (h4 : r ≤ 4) : Calls Try.prog 8 #[.int .i64 (r : Nat)] w fun e w' => ∃ mb g, e = .returned (.tuple #[.pointer (some ⟨g, 0, none⟩), .int .i64 0]) ∧ NetW w' w'.heap.size g mb r [] 0 ∧
    Fr (fun _ => False) w w' ∧ w.heap.size ≤ g ∧ w.heap.size ≤ mb := by
  have hm := run_make
  have d1 : decide ((r : Int) < 1) = false := decide_eq_false (by omega)
  have d4 : decide ((4 : Int) < (r : Int)) = false := decide_eq_false (by omega)
  go_enter Try.func8, Try.ntmps8
  go_wp2_with fail
  go_ret2
  refine ⟨w.heap.size, w.heap.size + 1, rfl, ⟨⟨fun _ => 0, .map [], 0, Blk.new1 w _ 46 (netC (r : Nat) (0 : Nat) (some w.heap.size) (fun _ => 0)), MapI.fr (fp := fun _ => False) (World.ownsMap_made w Try.prog 32 RH) ((Fr.refl _ _).alloc _) (fun h => h), Nat.le_refl _, fun j => by simp, rfl, fun k x h => by simp at h, ⟨rfl, rfl⟩, fun k _ => ⟨rfl, rfl⟩, fun f t _ _ => ⟨rfl, Nat.zero_le _⟩⟩, Nat.le_refl _, ?_, ?_, Nat.le_refl _⟩, ((Fr.refl _ w).alloc _).alloc _, by omega, Nat.le_refl _⟩
  · rw [World.size_alloc, World.size_alloc]; omega
  · rw [World.size_alloc, World.size_alloc]; omega
end Go.Proofs.Ytpgklhbbjbdejaa
