/-
  CONTRACT of the law LexJoins.
-/
import Derived.Test.YtimopkmlcjdgfaaDoorLaw
namespace Go.Proofs.YtimopkmlcjdgfaaDoor
set_option linter.unusedSimpArgs false
set_option linter.unusedVariables false
open Go Go.RowKit Go.Shelf

section
variable {P : Program}
theorem operwp_app {w : World} {o : Oper} {a : Act} {K : Act → World → Prop} {Q : Exit → Act → World → Prop} (s x : Operand) (t tx : TypeId)
    (ho : o.op = .call { callee := .builtin .append, args := #[s, x], argTypes := #[t, tx] })
    (base : Nat) (e : TypeId) (i : TypeInfo) (z : Value) (size bytes : Nat) (ht : P.underlying t = some (.slice e)) (hi : P.info? e = some i) (hz : i.zero = some z)
    (hsize : i.size = size) (hby : i.bytes = bytes) (hzs : z.cells.size = size)
    (v : Value) (n : Nat) (xs : List Value) (hv : a.eval s = v) (hown : w.ownsRow base e size v n xs)
    (xv : Value) (m : Nat) (news : List Value) (hx : a.eval x = xv) (hs : Src P size tx xv m news w)
    (hbytes : (n + m) * bytes ≤ 140737488355328) (h63 : n + m ≤ maxLen) (hbase : base ≤ w.heap.size)
    (h : ∀ v' w', w'.ownsRow base e size v' (n + m) (xs ++ news) → Fr (fun k => v.ownBlock = some k) w w' → (v'.ownBlock = v.ownBlock ∨ v'.ownBlock = some w.heap.size) → K (a.put o.dst v') w') :
    Oper.wp P o a w K Q := by
  obtain ⟨v', w', hr, h2, h3, h4⟩ := run_app (P := P) w base t tx o.type e i z size bytes ht hi hz hsize hby hzs v n xs hown xv m news hs hbytes h63 hbase
  unfold Oper.wp execOp
  simp only [ho, resolve, invoke, builtin, Sem.run_bind, Sem.run_pure, Result.andThen_ok, List.map_toArray, List.map_cons, List.map_nil, hv, hx, hr]
  exact h v' w' h2 h3 h4
theorem wpList_appG {w : World} {ops : Array Oper} {rest : List Oper} {o : Oper} {a : Act} {Q : Exit → Act → World → Prop} (hwd : Region.wanted o (yielded ops a.tmps) = true) (s x : Operand) (t tx : TypeId)
    (ho : o.op = .call { callee := .builtin .append, args := #[s, x], argTypes := #[t, tx] })
    (base : Nat) (e : TypeId) (i : TypeInfo) (z : Value) (size bytes : Nat) (ht : P.underlying t = some (.slice e)) (hi : P.info? e = some i) (hz : i.zero = some z)
    (hsize : i.size = size) (hby : i.bytes = bytes) (hzs : z.cells.size = size)
    (v : Value) (n : Nat) (xs : List Value) (hv : a.eval s = v) (hown : w.ownsRow base e size v n xs)
    (xv : Value) (m : Nat) (news : List Value) (hx : a.eval x = xv) (hs : Src P size tx xv m news w)
    (hbytes : (n + m) * bytes ≤ 140737488355328) (h63 : n + m ≤ maxLen) (hbase : base ≤ w.heap.size)
    (h : ∀ v' w', w'.ownsRow base e size v' (n + m) (xs ++ news) → Fr (fun k => v.ownBlock = some k) w w' → (v'.ownBlock = v.ownBlock ∨ v'.ownBlock = some w.heap.size) → wpList P ops Q rest (a.put o.dst v') w') :
    wpList P ops Q (o :: rest) a w := by
  refine wpList_step fun K hK => ?_
  rw [if_pos hwd]
  exact operwp_app s x t tx ho base e i z size bytes ht hi hz hsize hby hzs v n xs hv hown xv m news hx hs hbytes h63 hbase fun v' w' h2 h3 h4 => hK _ _ (h v' w' h2 h3 h4)
end
theorem own_emptyT (w : World) : (w.alloc (.cells #[] 32)).ownsRow 0 32 4 (.slice (some ⟨w.heap.size, 0, none⟩) 0 0) 0 [] :=
  ⟨rfl, .inr ⟨_, 0, #[], rfl, Nat.zero_le _, heap_alloc_new w _, Nat.le_refl _, Nat.zero_le _, rfl, rfl⟩⟩
theorem flatT_one : ∀ (l : List Tk), ∀ u ∈ flatT l, u.oneCell' = true
  | [], u, h => by cases h
  | x :: l, u, h => by
    rcases List.mem_append.1 (show u ∈ tkc x ++ flatT l from h) with h | h
    · simp [tkc, tcs] at h
      rcases h with rfl | rfl | rfl | rfl <;> rfl
    · exact flatT_one l u h
theorem src_tk {W : World} {A : Option Addr} {c : Nat} {l : List Tk} (h : RdT W A l) : Src Tryd.prog 4 23 (.slice A l.length c) l.length (flatT l) W := by
  cases l with
  | nil =>
    cases A with
    | none => exact Src.ofNil W Tryd.underlying23 c
    | some ad => exact Src.ofSlice W Tryd.underlying23 ad 0 c [] rfl (fun j u hu => by simp at hu) (fun u hu => by cases hu)
  | cons x r =>
    obtain ⟨b, off, rfl, hc⟩ := Rd.lit h (by simp)
    refine Src.ofSlice W Tryd.underlying23 ⟨b, off, none⟩ _ c _ (flatT_len _) (fun j u hu => ?_) (flatT_one _)
    have hj := (List.getElem?_eq_some_iff.1 hu).1
    rw [flatT_len] at hj
    rw [Addr.add_lit, hc j hj]
    exact hu
theorem eqT_sh (d : Nat) (x : Tk) : eqT (shT d x) x = true := by simp [eqT, shT]
theorem same_sh (d : Nat) : ∀ l m : List Tk, sameT (l ++ m.map (shT d)) (l ++ m) = true
  | [], [] => rfl
  | [], x :: m => by
    show (eqT (shT d x) x && sameT ([] ++ m.map (shT d)) ([] ++ m)) = true
    rw [eqT_sh, same_sh d [] m]
    rfl
  | x :: l, m => by
    show (eqT x x && sameT (l ++ m.map (shT d)) (l ++ m)) = true
    rw [eqT_refl, same_sh d l m]
    rfl
theorem allS_le {s : List UInt8} {l : List Tk} (h : allS s = .inl l) : l.length ≤ s.length := lex_bound _ _ _ _ h
theorem lex_err (L : Nat) : ∀ (f : Nat) (s : List UInt8) (i : Nat), lexL L f s = .inr i → i ≤ L
  | 0, s, i, h => by
    have h' : (Sum.inl [] : List Tk ⊕ Nat) = .inr i := h
    cases h'
  | f + 1, s, i, h => by
    unfold lexL at h
    cases hs : skp false s with
    | nil => rw [hs] at h; cases h
    | cons c r =>
      rw [hs] at h
      dsimp only at h
      cases ht : tok (c :: r) with
      | none => rw [ht] at h; injection h with h; omega
      | some q =>
        rw [ht] at h
        dsimp only at h
        cases hr : lexL L f ((c :: r).drop q.2.2.2) with
        | inr e => rw [hr] at h; injection h with h; subst h; exact lex_err L f _ _ hr
        | inl l2 => rw [hr] at h; cases h
theorem all_noX {s : List UInt8} {i : Nat} {x : Int} (hs : s.length ≤ 4096) (h : allS s = .inr i) (hx : (i : Int) = x) {w w' : World} {e : Ending} (hq : AllQ s w e w') : e = .returned (.tuple #[.slice none 0 0, .int .i64 x, .int .i64 2]) ∧ Fr (fun _ => False) w w' := by
  subst hx
  exact all_no hs h hq
theorem all_any {s : List UInt8} (hs : s.length ≤ 4096) {w w' : World} {e : Ending} (hq : AllQ s w e w') : ∃ (A : Option Addr) (n c : Nat) (k r : Int), e = .returned (.tuple #[.slice A n c, .int .i64 k, .int .i64 r]) ∧ Fr (fun _ => False) w w' := by
  cases h : allS s with
  | inr i =>
    obtain ⟨rfl, hf⟩ := all_no hs h hq
    exact ⟨none, 0, 0, _, _, rfl, hf⟩
  | inl l =>
    obtain ⟨A, c, rfl, -, hf, -⟩ := all_is hs h rfl hq
    exact ⟨A, _, c, _, _, rfl, hf⟩
set_option maxRecDepth 100000 in
set_option maxHeartbeats 8000000 in
theorem lexJoins_c (w : World) (s t : List UInt8) (hs : s.length ≤ 140737488355328) (ht : t.length ≤ 140737488355328) (hL : LaidOk w) : Calls Tryd.prog 7 #[.string (strOf s), .string (strOf t)] w fun e w' => e = .returned (.bool true) ∧ Fr (fun _ => False) w w' := by
  have HL := Lib.hid hL
  have hsz := strOf_size s
  have hsz2 := strOf_size t
  have hwr : IntKind.i64.wrap ((s.length : Int) + (t.length : Int)) = (s.length : Int) + (t.length : Int) := IntWalk.i64_in _ (by omega)
  obtain ⟨j0, hj0, jz0', jz1', jz2'⟩ := info_parts t_info
  have HJ0 := Lib.hid hj0
  clear hL hj0
  by_cases hbig : 4096 ≤ s.length + t.length
  · have d1 : decide ((s.length : Int) + (t.length : Int) ≥ 4096) = true := decide_eq_true (by omega)
    have d2 : decide ((4096 : Int) ≤ (s.length : Int) + (t.length : Int)) = true := decide_eq_true (by omega)
    go_enter Tryd.func7, Tryd.ntmps7
    go_wp2_with (
      go_at_call 8
      refine (awake_c w HL.out).mono ?_
      rintro e W1 ⟨rfl, f1⟩
      have F1 := Lib.hid f1
      clear f1)
    go_ret
    exact ⟨rfl, F1.out⟩
  · have d1 : decide ((s.length : Int) + (t.length : Int) ≥ 4096) = false := decide_eq_false (by omega)
    have d2 : decide ((4096 : Int) ≤ (s.length : Int) + (t.length : Int)) = false := decide_eq_false (by omega)
    have hj := all_join s t
    have hl3 : (s ++ 10 :: t).length ≤ 4096 := by rw [List.length_append, List.length_cons]; omega
    have hcat : (strOf s ++ (⟨#[10]⟩ : ByteArray)) ++ strOf t = strOf (s ++ 10 :: t) := by
      show (strOf s ++ strOf [10]) ++ strOf t = _
      rw [strOf_app, strOf_app, List.append_assoc]
      rfl
    have hss : s.length ≤ 4096 := by omega
    have htt : t.length ≤ 4096 := by omega
    have HJ := Lib.hid hj
    clear hj hbig
    go_enter Tryd.func7, Tryd.ntmps7
    have e1 : ¬ 9223372036854775807 < (strOf s).size + 1 := by rw [strOf_size]; omega
    have e2 : ¬ 9223372036854775807 < (strOf s).size + 1 + (strOf t).size := by rw [strOf_size, strOf_size]; omega
    cases hA : allS s with
    | inr i =>
      have HA := Lib.hid hA
      have HC : Hid (allS (s ++ 10 :: t) = .inr i) := Lib.hid (by rw [HJ.out, hA]; rfl)
      obtain ⟨x, hx⟩ : ∃ x : Int, (i : Int) = x := ⟨_, rfl⟩
      have HX := Lib.hid hx
      clear hA HJ hx
      go_upto_region 4 with (
        go_at_call 9
        refine (all_c w s (by omega) HL.out).mono ?_
        intro e W1 hq
        obtain ⟨rfl, f1⟩ := all_noX (by omega) HA.out HX.out hq
        have F1 := Lib.hid f1
        clear hq f1)
      have HL1 := Lib.hid (HL.out.far F1.out)
      go_upto_region 5 with (
        go_at_call 9
        refine (all_c W1 t (by omega) HL1.out).mono ?_
        intro e W2 hq
        obtain ⟨A2, n2, c2, k2, r2, rfl, f1⟩ := all_any (by omega) hq
        have F2 := Lib.hid f1
        clear hq f1)
      have HL2 := Lib.hid (HL1.out.far F2.out)
      go_upto_region 6 with (first
        | (go_at_call 9
           refine (all_c W2 (s ++ 10 :: t) (by omega) HL2.out).mono ?_
           intro e W3 hq
           obtain ⟨rfl, f1⟩ := all_noX hl3 HC.out HX.out hq
           have F3 := Lib.hid f1
           clear hq f1))
      have HL3 := Lib.hid (HL2.out.far F3.out)
      go_wp2_with (
        go_at_call 8
        refine (awake_c W3 HL3.out).mono ?_
        rintro e W4 ⟨rfl, f4⟩
        have F4 := Lib.hid f4
        clear f4)
      go_ret
      exact ⟨rfl, ((F1.out.trans F2.out (fun _ _ h => h)).trans F3.out (fun _ _ h => h)).trans F4.out (fun _ _ h => h)⟩
    | inl l =>
      have HA := Lib.hid hA
      have hll := allS_le hA
      cases hB : allS t with
      | inr i =>
        have HB := Lib.hid hB
        have hit : i ≤ t.length := lex_err _ _ _ _ hB
        have HC : Hid (allS (s ++ 10 :: t) = .inr (i + (s.length + 1))) := Lib.hid (by rw [HJ.out, hA, hB]; rfl)
        obtain ⟨x, hx⟩ : ∃ x : Int, (i : Int) = x := ⟨_, rfl⟩
        obtain ⟨y, hy⟩ : ∃ y : Int, ((i + (s.length + 1) : Nat) : Int) = y := ⟨_, rfl⟩
        have HX := Lib.hid hx
        have HY := Lib.hid hy
        have hw1 : IntKind.i64.wrap ((s.length : Int) + 1) = (s.length : Int) + 1 := IntWalk.i64_in _ (by omega)
        have hw2 : IntKind.i64.wrap ((s.length : Int) + 1 + x) = (s.length : Int) + 1 + x := IntWalk.i64_in _ (by omega)
        have hyx : (y == (s.length : Int) + 1 + x) = true := by rw [beq_iff_eq]; omega
        clear hA hB HJ hx hy
        go_upto_region 4 with (
        go_at_call 9
        refine (all_c w s (by omega) HL.out).mono ?_
        intro e W1 hq
        obtain ⟨A1, c1, rfl, -, f1, -⟩ := all_is (by omega) HA.out rfl hq
        have F1 := Lib.hid f1
        clear hq f1)
        have HL1 := Lib.hid (HL.out.far F1.out)
        go_upto_region 5 with (
        go_at_call 9
        refine (all_c W1 t (by omega) HL1.out).mono ?_
        intro e W2 hq
        obtain ⟨rfl, f1⟩ := all_noX (by omega) HB.out HX.out hq
        have F2 := Lib.hid f1
        clear hq f1)
        have HL2 := Lib.hid (HL1.out.far F2.out)
        go_upto_region 6 with (first
        | (go_at_call 9
           refine (all_c W2 (s ++ 10 :: t) (by omega) HL2.out).mono ?_
           intro e W3 hq
           obtain ⟨rfl, f1⟩ := all_noX hl3 HC.out HY.out hq
           have F3 := Lib.hid f1
           clear hq f1))
        have HL3 := Lib.hid (HL2.out.far F3.out)
        go_wp2_with (
        go_at_call 8
        refine (awake_c W3 HL3.out).mono ?_
        rintro e W4 ⟨rfl, f4⟩
        have F4 := Lib.hid f4
        clear f4)
        go_ret
        exact ⟨rfl, ((F1.out.trans F2.out (fun _ _ h => h)).trans F3.out (fun _ _ h => h)).trans F4.out (fun _ _ h => h)⟩
      | inl m =>
        have HB := Lib.hid hB
        have hlm := allS_le hB
        have HC : Hid (allS (s ++ 10 :: t) = .inl (l ++ m.map (shT (s.length + 1)))) := Lib.hid (by rw [HJ.out, hA, hB]; rfl)
        have hlc : (l ++ m.map (shT (s.length + 1))).length = l.length + m.length := by simp
        clear hA hB HJ
        go_upto_region 4 with (
        go_at_call 9
        refine (all_c w s (by omega) HL.out).mono ?_
        intro e W1 hq
        obtain ⟨A1, c1, rfl, o1, f1, -⟩ := all_is (n := l.length) (by omega) HA.out rfl hq
        have O1 := Lib.hid o1
        have F1 := Lib.hid f1
        clear hq f1)
        have HL1 := Lib.hid (HL.out.far F1.out)
        go_upto_region 5 with (
        go_at_call 9
        refine (all_c W1 t (by omega) HL1.out).mono ?_
        intro e W2 hq
        obtain ⟨A2, c2, rfl, o2, f1, -⟩ := all_is (n := m.length) (by omega) HB.out rfl hq
        have O2 := Lib.hid o2
        have F2 := Lib.hid f1
        clear hq f1)
        have HL2 := Lib.hid (HL1.out.far F2.out)
        go_upto_region 6 with (first
        | (go_at_call 9
           refine (all_c W2 (s ++ 10 :: t) (by omega) HL2.out).mono ?_
           intro e W3 hq
           obtain ⟨A3, c3, rfl, o3, f1, -⟩ := all_is (n := l.length + m.length) hl3 HC.out hlc hq
           have O3 := Lib.hid o3
           have F3 := Lib.hid f1
           clear hq f1))
        have HL3 := Lib.hid (HL2.out.far F3.out)
        have R1 : Hid (RdT W3 A1 l) := Lib.hid (((RdT.of_own O1.out).far F2.out).far F3.out)
        have R2 : Hid (RdT W3 A2 m) := Lib.hid ((RdT.of_own O2.out).far F3.out)
        have R3 : Hid (RdT W3 A3 (l ++ m.map (shT (s.length + 1)))) := Lib.hid (RdT.of_own (c := c3) (by rw [hlc]; exact O3.out))
        have FF := Lib.hid ((F1.out.trans F2.out (fun _ _ h => h)).trans F3.out (fun _ _ h => h))
        clear O1 O2 O3 F1 F2 F3 HL1 HL2
        go_upto_region 10 with fail
        clear o1 o2 o3
        have ZR := Lib.hid (own_emptyT W3)
        have FA := Lib.hid ((Fr.refl (fun _ => False) W3).alloc (.cells #[] 32))
        have SA := Lib.hid (src_tk (c := c1) (R1.out.far FA.out))
        go_wp2_with (first
          | (at_builtin
             refine wpList_appG rfl (.tmp 78) (.tmp 79) _ _ rfl 0 32 j0 _ 4 40 Tryd.underlying23 HJ0.out jz0' jz1' jz2' rfl (.slice (some ⟨W3.heap.size, 0, none⟩) 0 0) 0 [] rfl ZR.out (.slice A1 l.length c1) l.length (flatT l) rfl SA.out (by omega) (by unfold maxLen; omega) (Nat.zero_le _) ?_
             intro v7 W7 o7 f7 hn7
             obtain ⟨A7, c7, rfl, -, -⟩ := own_slice o7
             have O7 : Hid (W7.ownsRow 0 32 4 (.slice A7 l.length c7) l.length (flatT l)) := Lib.hid (by have h := o7; rw [Nat.zero_add, List.nil_append] at h; exact h)
             have F7 : Hid (Fr (fun _ => False) W3 W7) := Lib.hid (FA.out.trans f7 (fun q hq e => by have e' : some W3.heap.size = some q := e; injection e' with e'; omega))
             have hn7' : ∀ q, (Value.slice A7 l.length c7).ownBlock = some q → W3.heap.size ≤ q := fun q hq => by
               have hq' : (Value.slice A7 (0 + l.length) c7).ownBlock = some q := by rw [Nat.zero_add]; exact hq
               rcases hn7 with e | e
               · rw [e] at hq'
                 have e' : some W3.heap.size = some q := hq'
                 injection e' with e'
                 omega
               · rw [e, World.size_alloc] at hq'
                 injection hq' with hq'
                 omega
             have SB := Lib.hid (src_tk (c := c2) (R2.out.far F7.out))
             clear o7 f7 hn7)
          | (at_builtin
             go_must (refine wpList_appG rfl (.tmp 80) (.tmp 81) _ _ rfl 0 32 j0 _ 4 40 Tryd.underlying23 HJ0.out jz0' jz1' jz2' rfl (.slice A7 l.length c7) l.length (flatT l) rfl O7.out (.slice A2 m.length c2) m.length (flatT m) rfl SB.out (by omega) (by unfold maxLen; omega) (Nat.zero_le _) ?_)
             intro v8 W8 o8 f8 hn8
             obtain ⟨A8, c8, rfl, -, -⟩ := own_slice o8
             have O8 : Hid (W8.ownsRow 0 32 4 (.slice A8 (l ++ m).length c8) (l ++ m).length (flatT (l ++ m))) := Lib.hid (by rw [List.length_append, flatT_app]; exact o8)
             have F8 : Hid (Fr (fun _ => False) W3 W8) := Lib.hid (F7.out.trans f8 (fun q hq e => by have := hn7' q e; omega))
             have SM : Hid (Calls Tryd.prog 17 #[.slice A3 (l.length + m.length) c3, .slice A8 (l.length + m.length) c8] W8 fun e w' => e = .returned (.bool true) ∧ Fr (fun _ => False) W8 w') := Lib.hid (by
               have h := same_c (c := c3) (c' := c8) W8 (R3.out.far F8.out) (RdT.of_own O8.out) (by rw [hlc]; omega) (by rw [List.length_append]; omega)
               rw [same_sh, hlc, List.length_append] at h
               exact h)
             clear o8 f8 hn8)
          | (go_at_call 17
             refine SM.out.mono ?_
             rintro e W9 ⟨rfl, f9⟩
             have F9 := Lib.hid (F8.out.trans f9 (fun _ _ h => h))
             clear f9)
          | (go_at_call 8
             refine (awake_c W9 (HL3.out.far F9.out)).mono ?_
             rintro e W4 ⟨rfl, f4⟩
             have F4 := Lib.hid f4
             clear f4))
        go_ret
        exact ⟨rfl, (FF.out.trans F9.out (fun _ _ h => h)).trans F4.out (fun _ _ h => h)⟩
end Go.Proofs.YtimopkmlcjdgfaaDoor
