/-
  CONTRACTS of lex.Same: rows of tokens that are read; the closure; slices.EqualFunc with it.
-/
import Derived.Test.YtimopkmlcjdgfaaDoorLac
namespace Go.Proofs.YtimopkmlcjdgfaaDoor
set_option linter.unusedSimpArgs false
set_option linter.unusedVariables false
open Go Go.RowKit

/-- A row of tokens as it is read. -/
def RdT (w : World) (A : Option Addr) (l : List Tk) : Prop := Rd w A (l.length * 4) (flatT l)
theorem flatT_at : ∀ (l : List Tk) (i j : Nat) (h : i < l.length), j < 4 → (flatT l)[i * 4 + j]? = (tkc l[i])[j]?
  | [], _, _, h, _ => absurd h (Nat.not_lt_zero _)
  | x :: l, 0, j, _, hj => by
    show (tkc x ++ flatT l)[0 * 4 + j]? = _
    rw [Nat.zero_mul, Nat.zero_add, List.getElem?_append_left (by simpa [tkc, tcs] using hj)]
    rfl
  | x :: l, i + 1, j, h, hj => by
    have hl : (tkc x).length = 4 := by simp [tkc, tcs]
    show (tkc x ++ flatT l)[(i + 1) * 4 + j]? = _
    rw [List.getElem?_append_right (by omega), hl, show (i + 1) * 4 + j - 4 = i * 4 + j by omega, flatT_at l i j (by simpa using h) hj]
    rfl
abbrev tk4 (x : Tk) : Array Value := tcs x.k x.t x.n x.a
theorem RdT.at_ {w : World} {A : Option Addr} {l : List Tk} (h : RdT w A l) {i : Nat} (hi : i < l.length) : ∃ b off, A = some ⟨b, off, none⟩ ∧ w.rangeAt b (off + i * 4) (tk4 l[i]).toList := by
  obtain ⟨b, off, rfl, hc⟩ := Rd.lit h (by omega)
  refine ⟨b, off, rfl, fun j v hv => ?_⟩
  have hj : j < 4 := by
    have := (List.getElem?_eq_some_iff.1 hv).1
    simpa [tk4, tcs] using this
  rw [Nat.add_assoc, hc (i * 4 + j) (by omega), flatT_at l i j hi hj]
  exact hv
theorem RdT.far {w w' : World} {A : Option Addr} {l : List Tk} (h : RdT w A l) (hf : Fr (fun _ => False) w w') : RdT w' A l := Rd.far h hf
theorem RdT.of_own {w : World} {base : Nat} {A : Option Addr} {c : Nat} {l : List Tk} (h : w.ownsRow base 32 4 (.slice A l.length c) l.length (flatT l)) : RdT w A l := by
  refine ⟨flatT_len l, fun hn => ?_⟩
  obtain ⟨g, cap, hv, _, hlt⟩ := h.form (by omega)
  have hA : A = some ⟨g, 0, none⟩ := by injection hv
  subst hA
  exact ⟨_, rfl, h.cells (g := g) rfl⟩
def eqT (x y : Tk) : Bool := x.k == y.k && x.t == y.t && x.n == y.n
def sameT : List Tk → List Tk → Bool
  | [], [] => true
  | x :: l, y :: m => eqT x y && sameT l m
  | _, _ => false
theorem sameT_len : ∀ {l m : List Tk}, sameT l m = true → l.length = m.length
  | [], [], _ => rfl
  | x :: l, y :: m, h => by
    have h2 : (eqT x y && sameT l m) = true := h
    rw [Bool.and_eq_true] at h2
    rw [List.length_cons, List.length_cons, sameT_len h2.2]
  | [], _ :: _, h => by cases h
  | _ :: _, [], h => by cases h
theorem sameT_at : ∀ {l m : List Tk}, l.length = m.length → (sameT l m = true ↔ ∀ (i : Nat) (h1 : i < l.length) (h2 : i < m.length), eqT l[i] m[i] = true)
  | [], [], _ => ⟨fun _ i h1 => absurd h1 (Nat.not_lt_zero _), fun _ => rfl⟩
  | x :: l, y :: m, hl => by
    have hl' : l.length = m.length := by simpa using hl
    have ih := sameT_at hl'
    show (eqT x y && sameT l m) = true ↔ _
    rw [Bool.and_eq_true, ih]
    constructor
    · rintro ⟨h0, h⟩ i h1 h2
      cases i with
      | zero => exact h0
      | succ i => exact h i (by simpa using h1) (by simpa using h2)
    · intro h
      exact ⟨h 0 (by simp) (by simp), fun i h1 h2 => h (i + 1) (by simpa using h1) (by simpa using h2)⟩
  | [], _ :: _, h => by cases h
  | _ :: _, [], h => by cases h
theorem eqT_refl (x : Tk) : eqT x x = true := by simp [eqT]
theorem sameT_refl (l : List Tk) : sameT l l = true := (sameT_at rfl).2 (fun i h1 h2 => eqT_refl _)
theorem oneT (x : Tk) : (tk4 x).all (·.oneCell') = true := by simp [tk4, tcs, Value.oneCell']
set_option maxRecDepth 100000 in
set_option maxHeartbeats 4000000 in
theorem same1_c (w : World) (x y : Tk) : Calls Tryd.prog 35 #[.agg (tk4 x), .agg (tk4 y)] w fun e w' => e = .returned (.bool (eqT x y)) ∧ Fr (fun _ => False) w w' := by
  obtain ⟨k, t, n, a⟩ := x
  obtain ⟨k', t', n', a'⟩ := y
  unfold eqT
  dsimp only [tk4]
  have hst : ((strOf t).toList == (strOf t').toList) = (t == t') := by rw [strOf_toList, strOf_toList]
  obtain ⟨b1, hb1⟩ : ∃ b, (k == k') = b := ⟨_, rfl⟩
  obtain ⟨b2, hb2⟩ : ∃ b, (t == t') = b := ⟨_, rfl⟩
  obtain ⟨b3, hb3⟩ : ∃ b, (n == n') = b := ⟨_, rfl⟩
  rw [hb2] at hst
  rw [hb1, hb2, hb3]
  clear hb2
  go_enter Tryd.func35, Tryd.ntmps35
  go_upto_region 1 with fail
  refine abs_world (fun W => Hid (Blk W w.heap.size 32 (tcs k t n a)) ∧ Hid (Blk W (w.heap.size + 1) 32 (tcs k' t' n' a')) ∧ Hid (Fr (fun _ => False) w W)) ⟨(Blk.new w _ _).alloc _, Blk.new1 w _ _ _, ((Fr.refl _ w).alloc _).alloc _⟩ ?_
  rintro W ⟨B1, B2, F⟩
  have x0 : W.cell? ⟨w.heap.size, 0, none⟩ = some (.int .i64 k) := B1.out.cell 0
  have x1 : W.cell? ⟨w.heap.size, 1, none⟩ = some (.string (strOf t)) := B1.out.cell 1
  have x2 : W.cell? ⟨w.heap.size, 2, none⟩ = some (.int .i64 n) := B1.out.cell 2
  have y0 : W.cell? ⟨w.heap.size + 1, 0, none⟩ = some (.int .i64 k') := B2.out.cell 0
  have y1 : W.cell? ⟨w.heap.size + 1, 1, none⟩ = some (.string (strOf t')) := B2.out.cell 1
  have y2 : W.cell? ⟨w.heap.size + 1, 2, none⟩ = some (.int .i64 n') := B2.out.cell 2
  cases b1 with
  | false =>
    go_wp2_with fail
    go_ret
    exact ⟨rfl, F.out⟩
  | true =>
    cases b2 with
    | false =>
      go_wp2_with fail
      go_ret
      exact ⟨rfl, F.out⟩
    | true =>
      cases b3 with
      | false =>
        go_wp2_with fail
        go_ret
        exact ⟨rfl, F.out⟩
      | true =>
        go_wp2_with fail
        go_ret
        exact ⟨rfl, F.out⟩
theorem sameNo {l m : List Tk} (h : ¬ l.length = m.length) : sameT l m = false := by
  rw [Bool.eq_false_iff]
  exact fun e => h (sameT_len e)
set_option maxRecDepth 100000 in
set_option maxHeartbeats 4000000 in
theorem eqF_c (w : World) {A A' : Option Addr} {c c' : Nat} {l m : List Tk} (hp : RdT w A l) (hq : RdT w A' m) (h1 : l.length ≤ 140737488355328) (h2 : m.length ≤ 140737488355328) :
    Calls Tryd.prog 34 #[.slice A l.length c, .slice A' m.length c', .func (.func 35) #[] #[]] w fun e w' => e = .returned (.bool (sameT l m)) ∧ Fr (fun _ => False) w w' := by
  by_cases hl : l.length = m.length
  · have dl : ((l.length : Int) != (m.length : Int)) = false := by simp [hl]
    have dl' : (l.length != m.length) = false := by simp [hl]
    have HP := Lib.hid hp
    have HQ := Lib.hid hq
    have HL := Lib.hid hl
    clear hp hq hl
    go_enter Tryd.func34, Tryd.ntmps34
    go_wp2_with fail
    go_loopw [17] (fun iv wr => ∃ i : Nat, i ≤ l.length ∧ iv = .int .i64 (i : Int) ∧ Hid (∀ (j : Nat) (h1 : j < l.length) (h2 : j < m.length), j < i → eqT l[j] m[j] = true) ∧ Hid (Fr (fun _ => False) w wr)) (fun iv _ => l.length - (intOf iv).toNat)
    case atStart => exact ⟨0, Nat.zero_le _, rfl, fun j h1 h2 h => by omega, Fr.refl _ _⟩
    case round =>
      obtain ⟨i, hi, rfl, he, hf⟩ := hrel
      by_cases hlt : i < l.length
      · have hdl : decide ((i : Int) < (l.length : Int)) = true := decide_eq_true (by omega)
        have hdl' : decide (i < l.length) = true := decide_eq_true hlt
        have hlt' : i < m.length := by rw [← HL.out]; exact hlt
        obtain ⟨b, off, hA, hrg⟩ := (HP.out.far hf.out).at_ hlt
        subst hA
        obtain ⟨b', off', hA', hrg'⟩ := (HQ.out.far hf.out).at_ hlt'
        subst hA'
        obtain ⟨x, hx⟩ : ∃ x, l[i] = x := ⟨_, rfl⟩
        obtain ⟨y, hy⟩ : ∃ y, m[i] = y := ⟨_, rfl⟩
        rw [hx] at hrg
        rw [hy] at hrg'
        have HXY : Hid (eqT l[i] m[i] = eqT x y) := Lib.hid (by rw [hx, hy])
        have HG := Lib.hid hrg
        have HG' := Lib.hid hrg'
        clear hrg hrg' hx hy
        obtain ⟨C, hC⟩ : ∃ C, tk4 x = C := ⟨_, rfl⟩
        obtain ⟨C', hC'⟩ : ∃ C, tk4 y = C := ⟨_, rfl⟩
        have CALL := Lib.hid (fun W => same1_c W x y)
        have HS : Hid ((Tryd.prog.info? 32).map (·.size) = some C.size) := Lib.hid (by rw [← hC]; exact tsize)
        have HS' : Hid ((Tryd.prog.info? 32).map (·.size) = some C'.size) := Lib.hid (by rw [← hC']; exact tsize)
        have HO := Lib.hid (oneT x)
        have HO' := Lib.hid (oneT y)
        have H5 : Hid (C.size = 4) := Lib.hid (by rw [← hC]; rfl)
        have H5' : Hid (C'.size = 4) := Lib.hid (by rw [← hC']; rfl)
        rw [hC] at HG CALL HO
        rw [hC'] at HG' CALL HO'
        clear hC hC'
        go_upto_region 6 with (first
          | (refine wpList_load_val rfl 32 _ rfl b _ rfl C HG.out _ Tryd.underlying32 rfl HS.out ?_)
          | (refine wpList_store_blk rfl 32 _ _ rfl wr.heap.size C rfl rfl (Blk.new wr 32 _) H5.out HS.out HO.out ?_
             intro W1 q1 f1
             have F1 := Lib.hid (((Fr.refl (fun _ => False) wr).alloc _).trans f1 (fun i hi h => by have : i = wr.heap.size := h; omega))
             have Q1 := Lib.hid q1
             clear q1 f1))
        have HG1' := Lib.hid (rng_fr HG'.out F1.out (fun h => h))
        clear HG HG'
        go_upto_region 7 with (first
          | (refine wpList_load_val rfl 32 _ rfl b' _ rfl C' HG1'.out _ Tryd.underlying32 rfl HS'.out ?_)
          | (refine wpList_store_blk rfl 32 _ _ rfl W1.heap.size C' rfl rfl (Blk.new W1 32 _) H5'.out HS'.out HO'.out ?_
             intro W2 q2 f2
             have F2 := Lib.hid (((Fr.refl (fun _ => False) W1).alloc _).trans f2 (fun i hi h => by have : i = W1.heap.size := h; omega))
             have Q2 := Lib.hid q2
             clear q2 f2))
        have FF := Lib.hid (F1.out.trans F2.out (fun _ _ h => h))
        have Q1' := Lib.hid (blk_all (keepB Q1.out F2.out))
        have Q2' := Lib.hid (blk_all Q2.out)
        clear HG1' Q1 Q2 F1 F2
        generalize W1.heap.size = g2 at *
        generalize wr.heap.size = g1 at *
        go_wp2_with (first
          | (refine wpList_load_val rfl 32 _ rfl g1 _ rfl C Q1'.out _ Tryd.underlying32 rfl HS.out ?_)
          | (refine wpList_load_val rfl 32 _ rfl g2 _ rfl C' Q2'.out _ Tryd.underlying32 rfl HS'.out ?_))
        refine (CALL.out W2).mono ?_
        rintro e W3 ⟨rfl, f3⟩
        have HF3 := Lib.hid (hf.out.trans (FF.out.trans f3 (fun _ _ h => h)) (fun _ _ h => h))
        clear f3 CALL Q1' Q2' FF
        obtain ⟨z, hz⟩ : ∃ z, eqT x y = z := ⟨_, rfl⟩
        rw [hz] at HXY ⊢
        clear hz
        cases z with
        | true =>
          go_wp2_with fail
          go_roundw
          case rel => exact ⟨i + 1, by omega, by go_num, fun j h1 h2 h => by
            rcases Nat.lt_or_ge j i with hj | hj
            · exact he.out j h1 h2 hj
            · obtain rfl : j = i := by omega
              exact HXY.out, HF3.out⟩
          case measure => simp [intOf]; omega
        | false =>
          have hno : sameT l m = false := by
            rw [Bool.eq_false_iff]
            intro h
            have := (sameT_at HL.out).1 h i hlt hlt'
            rw [HXY.out] at this
            cases this
          have HN := Lib.hid hno
          clear hno
          go_wp2_with fail
          go_ret
          exact ⟨ret_bool HN.out.symm, HF3.out⟩
      · obtain rfl : i = l.length := by omega
        have hdl : decide ((l.length : Int) < (l.length : Int)) = false := decide_eq_false (by omega)
        have hdl' : decide (l.length < l.length) = false := decide_eq_false (by omega)
        have hyes : sameT l m = true := (sameT_at HL.out).2 fun j h1 h2 => he.out j h1 h2 h1
        have HY := Lib.hid hyes
        clear hyes
        go_wp2_with fail
        go_ret
        exact ⟨ret_bool HY.out.symm, hf.out⟩
  · have dl : ((l.length : Int) != (m.length : Int)) = true := by simp; omega
    have dl' : (l.length != m.length) = true := by simp; omega
    have HN := Lib.hid (sameNo hl)
    clear hp hq hl
    go_enter Tryd.func34, Tryd.ntmps34
    go_wp2_with fail
    go_ret
    exact ⟨ret_bool HN.out.symm, Fr.refl _ _⟩
set_option maxRecDepth 100000 in
set_option maxHeartbeats 4000000 in
theorem same_c (w : World) {A A' : Option Addr} {c c' : Nat} {l m : List Tk} (hp : RdT w A l) (hq : RdT w A' m) (h1 : l.length ≤ 140737488355328) (h2 : m.length ≤ 140737488355328) :
    Calls Tryd.prog 17 #[.slice A l.length c, .slice A' m.length c'] w fun e w' => e = .returned (.bool (sameT l m)) ∧ Fr (fun _ => False) w w' := by
  have EQ := Lib.hid (eqF_c (c := c) (c' := c') w hp hq h1 h2)
  clear hp hq
  go_enter Tryd.func17, Tryd.ntmps17
  go_wp2_with (
    go_at_call 34
    refine EQ.out.mono ?_
    rintro e W3 ⟨rfl, f3⟩
    have F3 := Lib.hid f3
    clear f3)
  go_ret
  exact ⟨rfl, F3.out⟩
end Go.Proofs.YtimopkmlcjdgfaaDoor
