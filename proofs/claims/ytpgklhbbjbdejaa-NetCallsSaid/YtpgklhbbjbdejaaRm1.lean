/-
  THE DOCUMENT's NET (merged of Rf Rf2 Rf4 Rf5 Rf3 Rf6).
-/
import Derived.Test.YtpgklhbbjbdejaaBgB
import Derived.Test.YtpgklhbbjbdejaaOnB
import Derived.Test.YtpgklhbbjbdejaaStp
import Derived.Test.YtpgklhbbjbdejaaPar4
namespace Go.Proofs.Ytpgklhbbjbdejaa
set_option linter.unusedSimpArgs false
set_option linter.unusedVariables false
open Go Go.RowKit Go.Maps

structure Rl where
  x : Ms
  A : Option Addr
  c : Nat
def dcell (e : Rl) : List Value := [.int .i64 (e.x.f : Nat), .int .i64 (e.x.t : Nat), .slice e.A e.x.bs.length e.c, .bool (!e.x.live)]
def dcells (E : List Rl) : List Value := E.flatMap dcell
theorem dcells_at : ∀ (E : List Rl) (q : Nat) (e : Rl), E[q]? = some e → ∀ j, j < 4 → (dcells E)[q * 4 + j]? = (dcell e)[j]?
  | [], _, _, h, _, _ => by cases h
  | a :: l, 0, e, h, j, hj => by
    have : a = e := by simpa using h
    subst this
    unfold dcells
    rw [List.flatMap_cons, Nat.zero_mul, Nat.zero_add, List.getElem?_append_left (by show j < 4; exact hj)]
  | a :: l, q + 1, e, h, j, hj => by
    have ih := dcells_at l q e (by simpa using h) j hj
    unfold dcells at ih ⊢
    rw [List.flatMap_cons, List.getElem?_append_right (by show 4 ≤ _; rw [Nat.add_mul]; omega), show (q + 1) * 4 + j - (dcell a).length = q * 4 + j by show (q + 1) * 4 + j - 4 = _; rw [Nat.add_mul]; omega]
    exact ih
def ROk (W : World) (e : Rl) : Prop := (e.x.f < 5 ∧ e.x.t < 5 ∧ e.x.bs.length ≤ 16384) ∧ W.ownsRow 0 5 1 (.slice e.A e.x.bs.length e.c) e.x.bs.length (bv e.x.bs)
structure RefN (W : World) (h r : Nat) (T : List Ms) : Prop where
  ex : ∃ A c E, Blk W h 40 #[.int .i64 (r : Nat), .slice A T.length c] ∧ E.map (·.x) = T ∧ W.ownsRow 0 75 4 (.slice A T.length c) T.length (dcells E) ∧ ∀ e ∈ E, ROk W e
theorem RefN.fr {W W' : World} {h r : Nat} {T : List Ms} {fp : Nat → Prop} (n : RefN W h r T) (f : Fr fp W W') (hfp : ∀ k, fp k → (∃ t cs, Blk W k t cs ∧ 5 ≠ t ∧ 75 ≠ t ∧ k ≠ h) ∨ ∃ n D, MapI W k n D) : RefN W' h r T := by
  obtain ⟨A, c, E, h1, h2, h3, h4⟩ := n.ex
  refine ⟨A, c, E, h1.fr f (fun e => ?_), h2, own_off h3 f (fun k e => ?_), fun e he => ⟨(h4 e he).1, own_off (h4 e he).2 f (fun k e => ?_)⟩⟩
  · rcases hfp _ e with ⟨t, cs, hb, _, _, hne⟩ | ⟨n, D, hO⟩
    · exact hne rfl
    · exact map_ne h1 hO rfl
  · rcases hfp _ e with ⟨t, cs, hb, _, hne, _⟩ | ⟨n, D, hO⟩
    · exact .inl ⟨t, cs, hb, hne⟩
    · exact .inr ⟨n, D, hO⟩
  · rcases hfp _ e with ⟨t, cs, hb, hne, _, _⟩ | ⟨n, D, hO⟩
    · exact .inl ⟨t, cs, hb, hne⟩
    · exact .inr ⟨n, D, hO⟩
theorem RefN.far {W W' : World} {h r : Nat} {T : List Ms} (n : RefN W h r T) (f : Fr (fun _ => False) W W') : RefN W' h r T := n.fr f (fun _ e => e.elim)
theorem RefN.at_ {W : World} {h r k : Nat} {T : List Ms} {x : Ms} (n : RefN W h r T) (hx : T[k]? = some x) : ∃ b A c c2, W.cell? ⟨h, 0, none⟩ = some (.int .i64 (r : Nat)) ∧ W.cell? ⟨h, 1, none⟩ = some (.slice (some ⟨b, 0, none⟩) T.length c) ∧
    W.rangeAt b (k * 4) (dcell ⟨x, A, c2⟩) ∧ (x.f < 5 ∧ x.t < 5 ∧ x.bs.length ≤ 16384) ∧ W.ownsRow 0 5 1 (.slice A x.bs.length c2) x.bs.length (bv x.bs) := by
  obtain ⟨A, c, E, h1, h2, h3, h4⟩ := n.ex
  have hk := (List.getElem?_eq_some_iff.1 hx).1
  obtain ⟨b, c', e', _, _, hc⟩ := own_cells h3 (by omega)
  injection e' with e1 e2 e3
  subst e1 e3
  rw [← h2, List.getElem?_map] at hx
  obtain ⟨e, he, hx⟩ := Option.map_eq_some_iff.1 hx
  subst hx
  refine ⟨b, e.A, c, e.c, h1.cell 0, h1.cell 1, fun j v hv => ?_, h4 e (List.mem_of_getElem? he)⟩
  have hj : j < 4 := (List.getElem?_eq_some_iff.1 hv).1
  exact hc _ _ ((dcells_at E k e he j hj).trans hv)
theorem RefN.hd {W : World} {h r : Nat} {T : List Ms} (n : RefN W h r T) : ∃ A c, W.cell? ⟨h, 0, none⟩ = some (.int .i64 (r : Nat)) ∧ W.cell? ⟨h, 1, none⟩ = some (.slice A T.length c) ∧ W.frozen? ⟨h, 1, none⟩ = false := by
  obtain ⟨A, c, E, h1, h2, h3, h4⟩ := n.ex
  exact ⟨A, c, h1.cell 0, h1.cell 1, h1.frozen 1⟩
set_option maxRecDepth 100000 in
set_option maxHeartbeats 1000000 in
theorem rnew_c (w : World) (r : Nat) (h1 : 1 ≤ r) (h4 : r ≤ 4) : Calls Try.prog 9 #[.int .i64 (r : Nat)] w fun e w' => ∃ h, e = .returned (.pointer (some ⟨h, 0, none⟩)) ∧ RefN w' h r [] ∧ Fr (fun _ => False) w w' ∧ w.heap.size ≤ h := by
  have d1 : decide ((r : Int) < 1) = false := decide_eq_false (by omega)
  have d4 : decide ((4 : Int) < (r : Int)) = false := decide_eq_false (by omega)
  go_enter Try.func9, Try.ntmps9
  go_wp2_with fail
  go_ret
  exact ⟨w.heap.size, rfl, ⟨none, 0, [], Blk.new w 40 #[.int .i64 (r : Nat), .slice none 0 0], rfl, World.ownsRow_nil _ _ _ _, fun e he => by cases he⟩, (Fr.refl _ w).alloc _, Nat.le_refl _⟩
set_option maxRecDepth 100000 in
set_option maxHeartbeats 1000000 in
theorem rnew_bad (w : World) (r : Int) (hbad : ¬ (1 ≤ r ∧ r ≤ 4)) : Calls Try.prog 9 #[.int .i64 r] w fun e w' => e = .returned (.pointer none) ∧ w' = w := by
  by_cases h1 : r < 1
  · have d1 : decide (r < 1) = true := decide_eq_true h1
    go_enter Try.func9, Try.ntmps9
    go_wp2_with fail
    go_ret
    exact ⟨rfl, rfl⟩
  · have d1 : decide (r < 1) = false := decide_eq_false h1
    have d4 : decide (4 < r) = true := decide_eq_true (by omega)
    go_enter Try.func9, Try.ntmps9
    go_wp2_with fail
    go_ret
    exact ⟨rfl, rfl⟩
theorem way_step {T : List Ms} {q : Nat} {x : Ms} (f t : Nat) (h : T[q]? = some x) : wayN (T.take (q + 1)) f t = wayN (T.take q) f t + (if isW f t x then 1 else 0) := by
  rw [List.take_add_one, h]
  exact wayN_add _ x f t
set_option maxRecDepth 100000 in
set_option maxHeartbeats 4000000 in
theorem between_c {W : World} {h r : Nat} {T : List Ms} (n : RefN W h r T) (hT : T.length ≤ 4000) (f t : Nat) : Calls Try.prog 40 #[.pointer (some ⟨h, 0, none⟩), .int .i64 (f : Nat), .int .i64 (t : Nat)] W fun e w' => e = .returned (.int .i64 (wayN T f t : Nat)) ∧ Fr (fun _ => False) W w' := by
  have HN := Lib.hid n
  clear n
  go_enter Try.func40, Try.ntmps40
  go_wp2_with fail
  go_loopw [7, 8] (fun kv iv wr => ∃ q m : Nat, iv = .int .i64 q ∧ q ≤ T.length ∧ kv = .int .i64 m ∧ m ≤ q ∧ Hid (m = wayN (T.take q) f t) ∧ Hid (Fr (fun _ => False) W wr)) (fun _ iv _ => T.length - (intOf iv).toNat)
  case atStart => exact ⟨0, 0, rfl, Nat.zero_le _, rfl, Nat.zero_le _, rfl, Fr.refl _ _⟩
  case round =>
    obtain ⟨q, m, rfl, hq, rfl, hmq, hm, hf⟩ := hrel
    have N2 := Lib.hid (HN.out.far hf.out)
    by_cases hlt : q < T.length
    · obtain ⟨x, hx⟩ : ∃ x, T[q]? = some x := ⟨_, List.getElem?_eq_getElem hlt⟩
      obtain ⟨b, A, c, c2, p0, p1, rg, _, _⟩ := N2.out.at_ hx
      have c0 : wr.cell? ⟨b, q * 4, none⟩ = some (.int .i64 (x.f : Nat)) := rg 0 _ rfl
      have c1 : wr.cell? ⟨b, q * 4 + 1, none⟩ = some (.int .i64 (x.t : Nat)) := rg 1 _ rfl
      have c3 : wr.cell? ⟨b, q * 4 + 3, none⟩ = some (.bool (!x.live)) := rg 3 _ rfl
      have HS := Lib.hid (way_step f t hx)
      clear rg hx
      cases hl : x.live
      · rw [hl] at c3
        have hm2 : Hid (m = wayN (T.take (q + 1)) f t) := by
          have h1 := HS.out
          have e : isW f t x = false := by unfold isW; rw [hl]; rfl
          rw [e] at h1
          show m = _
          rw [h1]
          exact hm.out
        clear HS hl
        go_wp2_with fail
        go_roundw
        case rel => exact ⟨q + 1, m, by go_num, hlt, rfl, by omega, hm2, hf⟩
        case measure => simp [intOf]; omega
      · rw [hl] at c3
        by_cases q1 : x.f = f
        · have e1 : (((x.f : Nat) : Int) == ((f : Nat) : Int)) = true := beq_iff_eq.2 (by rw [q1])
          by_cases q2 : x.t = t
          · have e2 : (((x.t : Nat) : Int) == ((t : Nat) : Int)) = true := beq_iff_eq.2 (by rw [q2])
            have hm2 : Hid (m + 1 = wayN (T.take (q + 1)) f t) := by
              have h1 := HS.out
              have e : isW f t x = true := by unfold isW; rw [hl, q1, q2]; simp
              rw [e] at h1
              show m + 1 = _
              rw [h1]
              exact congrArg (· + 1) hm.out
            clear HS hl q1 q2
            go_wp2_with fail
            go_roundw
            case rel => exact ⟨q + 1, m + 1, by go_num, hlt, by go_num, by omega, hm2, hf⟩
            case measure => simp [intOf]; omega
          · have e2 : (((x.t : Nat) : Int) == ((t : Nat) : Int)) = false := beq_eq_false_iff_ne.2 (by omega)
            have hm2 : Hid (m = wayN (T.take (q + 1)) f t) := by
              have h1 := HS.out
              have e : isW f t x = false := by unfold isW; rw [beq_eq_false_iff_ne.2 q2, Bool.and_false, Bool.and_false]
              rw [e] at h1
              show m = _
              rw [h1]
              exact hm.out
            clear HS hl q1 q2
            go_wp2_with fail
            go_roundw
            case rel => exact ⟨q + 1, m, by go_num, hlt, rfl, by omega, hm2, hf⟩
            case measure => simp [intOf]; omega
        · have e1 : (((x.f : Nat) : Int) == ((f : Nat) : Int)) = false := beq_eq_false_iff_ne.2 (by omega)
          have hm2 : Hid (m = wayN (T.take (q + 1)) f t) := by
            have h1 := HS.out
            have e : isW f t x = false := by unfold isW; rw [beq_eq_false_iff_ne.2 q1, Bool.false_and, Bool.and_false]
            rw [e] at h1
            show m = _
            rw [h1]
            exact hm.out
          clear HS hl q1
          go_wp2_with fail
          go_roundw
          case rel => exact ⟨q + 1, m, by go_num, hlt, rfl, by omega, hm2, hf⟩
          case measure => simp [intOf]; omega
    · obtain ⟨A, c, p0, p1, _⟩ := N2.out.hd
      have hmw : m = wayN T f t := by
        have h1 := hm.out
        rw [show q = T.length by omega, List.take_length] at h1
        exact h1
      have HMW := Lib.hid hmw
      clear hmw hm
      go_wp2_with fail
      go_ret
      refine ⟨?_, hf.out⟩
      rw [← HMW.out]
      rfl
set_option maxRecDepth 100000 in
set_option maxHeartbeats 2000000 in
theorem rat_yes {w : World} {h r id : Nat} {T : List Ms} {x : Ms} (n : RefN w h r T) (hT : T.length ≤ 4000) (hx : lookT T id = some x) :
    Calls Try.prog 27 #[.pointer (some ⟨h, 0, none⟩), .int .u64 (id : Nat)] w fun e w' => ∃ A c, e = .returned (.tuple #[.agg #[.int .i64 (x.f : Nat), .int .i64 (x.t : Nat), .slice A x.bs.length c], .int .i64 0]) ∧ w'.ownsRow 0 5 1 (.slice A x.bs.length c) x.bs.length (bv x.bs) ∧ Fr (fun _ => False) w w' := by
  obtain ⟨k, hk, hTk, hl⟩ := lookT_some hx
  have hkT := (List.getElem?_eq_some_iff.1 hTk).1
  have HN := Lib.hid n
  have HTK := Lib.hid hTk
  have HL := Lib.hid hl
  have d1 : decide (((id : Nat) : Int) < 1) = false := decide_eq_false (by omega)
  have d2 : id ≤ T.length := by omega
  have hw1 : IntKind.u64.wrap (((id : Nat) : Int) - 1) = ((k : Nat) : Int) := by rw [wraps_u64 _ (by omega) (by omega)]; omega
  have hw2 : IntKind.u64.wrap ((T.length : Nat) : Int) = ((T.length : Nat) : Int) := by rw [wraps_u64 _ (by omega) (by omega)]
  clear n hTk hl hx hk
  go_enter Try.func27, Try.ntmps27
  go_upto_region 1 with fail
  refine abs_wp (fun W => Hid (RefN W h r T) ∧ Hid (Blk W w.heap.size 51 #[.int .i64 0, .int .i64 0, .slice none 0 0]) ∧ Hid (Fr (fun _ => False) w W)) ⟨HN.out.far ((Fr.refl _ _).alloc _), Blk.new _ _ _, (Fr.refl _ _).alloc _⟩ ?_
  rintro w1 ⟨N1, M1, F1⟩
  obtain ⟨b, A, c, c2, p0, p1, rg, _, ro⟩ := N1.out.at_ HTK.out
  have c0 : w1.cell? ⟨b, k * 4, none⟩ = some (.int .i64 (x.f : Nat)) := rg 0 _ rfl
  have c1 : w1.cell? ⟨b, k * 4 + 1, none⟩ = some (.int .i64 (x.t : Nat)) := rg 1 _ rfl
  have c4 : w1.cell? ⟨b, k * 4 + 2, none⟩ = some (.slice A x.bs.length c2) := rg 2 _ rfl
  have c3 : w1.cell? ⟨b, k * 4 + 3, none⟩ = some (.bool false) := by rw [rg 3 _ rfl, HL.out]; rfl
  have RO := Lib.hid ro
  clear rg ro
  go_wp2_with (first
    | (refine wpList_store_blk rfl 51 _ _ rfl w.heap.size _ rfl rfl M1.out rfl tMsg_size (by first | rfl | kernel_rfl) ?_
       rintro W3 b3 f3
       have M3 := Lib.hid b3
       have F3 := Lib.hid f3
       clear b3 f3))
  refine bodyPost_ret (results_two Try.results27 _ W3 w.heap.size 51 _ _ rfl M3.out Try.underlying51 rfl tMsg_size) rfl ⟨A, c2, rfl, own_off RO.out F3.out (fun q e => by have e' : q = w.heap.size := e; subst e'; exact .inl ⟨_, _, M1.out, by decide⟩), F1.out.trans F3.out (fun q hq e => by have e' : q = w.heap.size := e; omega)⟩
set_option maxRecDepth 100000 in
set_option maxHeartbeats 2000000 in
theorem rat_no {w : World} {h r id : Nat} {T : List Ms} (n : RefN w h r T) (hT : T.length ≤ 4000) (hid : id < 18446744073709551616) (hx : lookT T id = none) :
    Calls Try.prog 27 #[.pointer (some ⟨h, 0, none⟩), .int .u64 (id : Nat)] w fun e w' => e = .returned (.tuple #[.agg #[.int .i64 0, .int .i64 0, .slice none 0 0], .int .i64 4]) ∧ Fr (fun _ => False) w w' := by
  have HN := Lib.hid n
  have hw2 : IntKind.u64.wrap ((T.length : Nat) : Int) = ((T.length : Nat) : Int) := by rw [wraps_u64 _ (by omega) (by omega)]
  have HQ : Hid (id = 0 ∨ T.length < id ∨ ∃ k x, id = k + 1 ∧ T[k]? = some x ∧ x.live = false) := by
    cases id with
    | zero => exact .inl rfl
    | succ k =>
      cases hk : T[k]? with
      | none => exact .inr (.inl (by have := List.getElem?_eq_none_iff.1 hk; omega))
      | some x =>
        refine .inr (.inr ⟨k, x, rfl, hk, ?_⟩)
        rw [lookT_at hk] at hx
        cases hl : x.live
        · rfl
        · rw [hl] at hx; cases hx
  clear n hx
  go_enter Try.func27, Try.ntmps27
  go_upto_region 1 with fail
  refine abs_wp (fun W => Hid (RefN W h r T) ∧ Hid (Blk W w.heap.size 51 #[.int .i64 0, .int .i64 0, .slice none 0 0]) ∧ Hid (Fr (fun _ => False) w W)) ⟨HN.out.far ((Fr.refl _ _).alloc _), Blk.new _ _ _, (Fr.refl _ _).alloc _⟩ ?_
  rintro w1 ⟨N1, M1, F1⟩
  obtain ⟨A, c, p0, p1, _⟩ := N1.out.hd
  rcases HQ.out with rfl | hgt | ⟨k, x, rfl, hTk, hl⟩
  · clear HQ
    go_wp2_with (first
      | (refine wpList_store_blk rfl 51 _ _ rfl w.heap.size _ rfl rfl M1.out rfl tMsg_size (by first | rfl | kernel_rfl) ?_
         rintro W3 b3 f3
         have M3 := Lib.hid b3
         have F3 := Lib.hid f3
         clear b3 f3))
    refine bodyPost_ret (results_two Try.results27 _ W3 w.heap.size 51 _ _ rfl M3.out Try.underlying51 rfl tMsg_size) rfl ⟨rfl, F1.out.trans F3.out (fun q hq e => by have e' : q = w.heap.size := e; omega)⟩
  · clear HQ
    have d1 : decide (((id : Nat) : Int) < 1) = false := decide_eq_false (by omega)
    go_wp2_with (first
      | (refine wpList_store_blk rfl 51 _ _ rfl w.heap.size _ rfl rfl M1.out rfl tMsg_size (by first | rfl | kernel_rfl) ?_
         rintro W3 b3 f3
         have M3 := Lib.hid b3
         have F3 := Lib.hid f3
         clear b3 f3))
    refine bodyPost_ret (results_two Try.results27 _ W3 w.heap.size 51 _ _ rfl M3.out Try.underlying51 rfl tMsg_size) rfl ⟨rfl, F1.out.trans F3.out (fun q hq e => by have e' : q = w.heap.size := e; omega)⟩
  · clear HQ p0 p1
    have hkT := (List.getElem?_eq_some_iff.1 hTk).1
    obtain ⟨id, hid2⟩ : ∃ id, k + 1 = id := ⟨_, rfl⟩
    rw [hid2]
    have d1 : decide (((id : Nat) : Int) < 1) = false := decide_eq_false (by omega)
    have d2 : id ≤ T.length := by omega
    have hw1 : IntKind.u64.wrap (((id : Nat) : Int) - 1) = ((k : Nat) : Int) := by rw [wraps_u64 _ (by omega) (by omega)]; omega
    obtain ⟨b, A, c, c2, p0, p1, rg, _, ro⟩ := N1.out.at_ hTk
    have c3 : w1.cell? ⟨b, k * 4 + 3, none⟩ = some (.bool true) := by rw [rg 3 _ rfl, hl]; rfl
    clear rg ro hTk hl hid hid2
    go_wp2_with (first
      | (refine wpList_store_blk rfl 51 _ _ rfl w.heap.size _ rfl rfl M1.out rfl tMsg_size (by first | rfl | kernel_rfl) ?_
         rintro W3 b3 f3
         have M3 := Lib.hid b3
         have F3 := Lib.hid f3
         clear b3 f3))
    refine bodyPost_ret (results_two Try.results27 _ W3 w.heap.size 51 _ _ rfl M3.out Try.underlying51 rfl tMsg_size) rfl ⟨rfl, F1.out.trans F3.out (fun q hq e => by have e' : q = w.heap.size := e; omega)⟩

theorem rl_info : (Try.prog.info? 75).map (fun i => (i.zero, i.size, i.bytes)) = some (some (.agg #[.int .i64 0, .int .i64 0, .slice none 0 0, .bool false]), 4, 48) := by kernel_rfl
theorem src_own {P : Program} {w : World} {base : Nat} {e tx e' : TypeId} {A : Option Addr} {n c size : Nat} {xs : List Value} (hk : P.underlying tx = some (.slice e')) (h : w.ownsRow base e size (.slice A n c) n xs) (h1 : ∀ u ∈ xs, u.oneCell' = true) : Src P size tx (.slice A n c) n xs w := by
  have hl := h.1
  rcases h.2 with ⟨e1, e2⟩ | ⟨g, cap, cur, e1, _, _, _⟩
  · subst e2
    injection e1 with e1 _ _
    subst e1
    obtain rfl : xs = [] := List.eq_nil_of_length_eq_zero (by omega)
    exact Src.ofNil w hk c
  · injection e1 with e1 e2 e3
    subst e1
    exact Src.ofSlice w hk ⟨g, 0, none⟩ n c xs hl (fun j u hu => h.cells (g := g) rfl j u hu) h1
theorem dcells_one (E : List Rl) : ∀ u ∈ dcells E, u.oneCell' = true := by
  intro u hu
  unfold dcells at hu
  obtain ⟨e, _, he⟩ := List.mem_flatMap.1 hu
  simp [dcell] at he
  rcases he with rfl | rfl | rfl | rfl <;> rfl
/-- The list where one is out. -/
def outE (E : List Rl) (k : Nat) (e : Rl) : List Rl := E.set k ⟨⟨e.x.f, e.x.t, e.x.bs, false⟩, e.A, e.c⟩
theorem dcells_out : ∀ (E : List Rl) (k : Nat) (e : Rl), E[k]? = some e → (dcells E).set (k * 4 + 3) (.bool true) = dcells (outE E k e)
  | [], _, _, h => by cases h
  | a :: E, 0, e, h => by
    have : a = e := by simpa using h
    subst this
    rfl
  | a :: E, k + 1, e, h => by
    have ih := dcells_out E k e (by simpa using h)
    unfold dcells outE at ih ⊢
    rw [List.set_cons_succ, List.flatMap_cons, List.flatMap_cons, ← ih, show (k + 1) * 4 + 3 = (dcell a).length + (k * 4 + 3) by show _ = 4 + _; rw [Nat.add_mul]; omega, List.set_append_right _ _ (by omega), Nat.add_sub_cancel_left]
set_option maxRecDepth 100000 in
set_option maxHeartbeats 4000000 in
theorem rdeliver_yes {w : World} {h r id k : Nat} {T : List Ms} {x : Ms} (n : RefN w h r T) (hT : T.length ≤ 4000) (hk : id = k + 1) (hx : lookT T id = some x) :
    Calls Try.prog 25 #[.pointer (some ⟨h, 0, none⟩), .int .u64 (id : Nat)] w fun e w' => ∃ A c, e = .returned (.tuple #[.agg #[.int .i64 (x.f : Nat), .int .i64 (x.t : Nat), .slice A x.bs.length c], .int .i64 0]) ∧ w'.ownsRow 0 5 1 (.slice A x.bs.length c) x.bs.length (bv x.bs) ∧ RefN w' h r (kill T k x) ∧ Fr (fun q => q = h) w w' := by
  obtain ⟨k2, hk2, hTk, hl⟩ := lookT_some hx
  obtain rfl : k = k2 := by omega
  have hkT := (List.getElem?_eq_some_iff.1 hTk).1
  have HN := Lib.hid n
  have HX := Lib.hid hx
  have HTK := Lib.hid hTk
  have HL := Lib.hid hl
  have d1 : decide (((id : Nat) : Int) < 1) = false := decide_eq_false (by omega)
  have d2 : id ≤ T.length := by omega
  have hw1 : IntKind.u64.wrap (((id : Nat) : Int) - 1) = ((k : Nat) : Int) := by rw [wraps_u64 _ (by omega) (by omega)]; omega
  have HHT : Hid (h < w.heap.size) := by obtain ⟨A, c, E, h1, _⟩ := n.ex; exact h1.lt
  clear n hTk hl hx hk hk2
  obtain ⟨i0, hi, hz0, hz1, hz2⟩ := info_parts rl_info
  go_enter Try.func25, Try.ntmps25
  go_upto_region 1 with fail
  refine abs_wp (fun W => Hid (RefN W h r T) ∧ Hid (Blk W w.heap.size 51 #[.int .i64 0, .int .i64 0, .slice none 0 0]) ∧ Hid (Fr (fun _ => False) w W)) ⟨HN.out.far ((Fr.refl _ _).alloc _), Blk.new _ _ _, (Fr.refl _ _).alloc _⟩ ?_
  rintro w1 ⟨N1, M1, F1⟩
  go_wp2_with fail
  refine (rat_yes N1.out hT HX.out).mono ?_
  rintro e w2 ⟨A, c, rfl, o2, f2⟩
  have O2 := Lib.hid o2
  have F2 := Lib.hid f2
  clear o2 f2
  go_upto_region 2 with fail
  refine abs_wp (fun W => Hid (RefN W h r T) ∧ Hid (Blk W w.heap.size 51 #[.int .i64 0, .int .i64 0, .slice none 0 0]) ∧ Hid (Blk W w2.heap.size 51 #[.int .i64 (x.f : Nat), .int .i64 (x.t : Nat), .slice A x.bs.length c]) ∧ Hid (W.ownsRow 0 5 1 (.slice A x.bs.length c) x.bs.length (bv x.bs)) ∧ Hid (Fr (fun _ => False) w W))
    ⟨(N1.out.far F2.out).far ((Fr.refl _ _).alloc _), keepB (keepB M1.out F2.out) ((Fr.refl _ _).alloc _), Blk.new _ _ _, own_fa O2.out ((Fr.refl _ _).alloc _), (F1.out.trans F2.out (fun _ _ h => h)).alloc _⟩ ?_
  rintro w3 ⟨N3, M3, K3, O3, F3⟩
  have H24 : Hid (w.heap.size < w2.heap.size) := Nat.lt_of_lt_of_le M1.out.lt F2.out.size
  clear N1 M1 F1 O2 F2
  obtain ⟨A3, c3, E, hB, hE, hO, hA⟩ := N3.out.ex
  have HB := Lib.hid hB
  have HE := Lib.hid hE
  have HO := Lib.hid hO
  have HA := Lib.hid hA
  have p1 : ∀ o, (w3.alloc o).cell? ⟨h, 1, none⟩ = some (.slice A3 T.length c3) := fun o => (hB.alloc o).cell 1
  clear hB hE hO hA
  go_upto_region 4 with (first
    | (refine wpList_app rfl (.tmp 17) (.tmp 21) _ _ rfl w3.heap.size 75 i0 _ 4 48 Try.underlying38 hi hz0 hz1 hz2 rfl _ 0 [] rfl (World.ownsRow_lit w3 #[] 0 (Nat.le_refl _) (Nat.zero_le _) rfl) _ T.length (dcells E) rfl (src_own Try.underlying38 (own_fa HO.out ((Fr.refl _ w3).alloc _)) (dcells_one E)) (by omega) (by unfold maxLen; omega) (by rw [World.size_alloc]; omega) ?_
       intro v1 w4 own1 hf1 hn1
       rw [Nat.zero_add, List.nil_append] at own1
       obtain ⟨b1, c1, rfl, hb1, _, _⟩ := own_cells own1 (by omega)
       have F4 : Hid (Fr (fun _ => False) w3 w4) := (((Fr.refl _ w3).alloc _).trans hf1 (fun i hi hq => by
         have hq' : Value.ownBlock (.slice (some ⟨w3.heap.size, 0, none⟩) 0 0) = some i := hq
         have hq2 : w3.heap.size = i := by simpa [Value.ownBlock] using hq'
         omega))
       have OW := Lib.hid own1
       have HB1 := Lib.hid hb1
       have q1 : w4.cell? ⟨h, 1, none⟩ = some (.slice A3 T.length c3) := (keepB HB.out F4.out).cell 1
       have z1 := (keepB HB.out F4.out).frozen 1
       clear own1 hf1 hn1 hb1 p1))
  refine abs_wp (fun W => Hid (Blk W h 40 #[.int .i64 (r : Nat), .slice (some ⟨b1, 0, none⟩) T.length c1]) ∧ Hid (W.ownsRow 0 75 4 (.slice (some ⟨b1, 0, none⟩) T.length c1) T.length (dcells E)) ∧ Hid (Blk W w.heap.size 51 #[.int .i64 0, .int .i64 0, .slice none 0 0]) ∧ Hid (Blk W w2.heap.size 51 #[.int .i64 (x.f : Nat), .int .i64 (x.t : Nat), .slice A x.bs.length c]) ∧ Hid (W.ownsRow 0 5 1 (.slice A x.bs.length c) x.bs.length (bv x.bs)) ∧ Hid (∀ e ∈ E, ROk W e) ∧ Hid (Fr (fun q => q = h) w W)) ?_ ?_
  · have fs : Fr (fun q => q = h) w4 (w4.setCell ⟨h, 1, none⟩ (.slice (some ⟨b1, 0, none⟩) T.length c1)) := (Fr.refl (fun q => q = h) w4).setCell (p := ⟨h, 1, none⟩) (fun _ => rfl) _
    have hb4 := keepB HB.out F4.out
    have hof : ∀ {b : Nat} {e : TypeId} {s m : Nat} {v : Value} {xs : List Value}, e ≠ 40 → w4.ownsRow b e s v m xs → (w4.setCell ⟨h, 1, none⟩ (.slice (some ⟨b1, 0, none⟩) T.length c1)).ownsRow b e s v m xs := fun he hv => own_off hv fs (fun q e => by have e' : q = h := e; subst e'; exact .inl ⟨_, _, hb4, he⟩)
    refine ⟨hb4.set_ 1 _, hof (by decide) (own_base (base' := 0) OW.out (fun _ _ => Nat.zero_le _)), (keepB M3.out F4.out).fr fs (fun e => by have e' : w.heap.size = h := e; have := HHT.out; omega), (keepB K3.out F4.out).fr fs (fun e => by have e' : w2.heap.size = h := e; have := HHT.out; have := H24.out; omega), hof (by decide) (own_fa O3.out F4.out), fun e he => ⟨(HA.out e he).1, hof (by decide) (own_fa (HA.out e he).2 F4.out)⟩, (F3.out.trans F4.out (fun _ _ h => h)).mono (fun _ _ h => h.elim) |>.trans fs (fun _ _ h => h)⟩
  rintro w5 ⟨B5, OW5, M5, K5, O5, A5, F5⟩
  have HB2 : Hid (w.heap.size ≤ b1) := Nat.le_trans F3.out.size HB1.out
  clear HB HO HA F4 OW HB1 q1 z1 N3 M3 K3 O3 F3
  obtain ⟨e, hek, hex⟩ : ∃ e, E[k]? = some e ∧ e.x = x := by
    have h1 := HTK.out
    rw [← HE.out, List.getElem?_map] at h1
    obtain ⟨e, h2, h3⟩ := Option.map_eq_some_iff.1 h1
    exact ⟨e, h2, h3⟩
  have HEK := Lib.hid hek
  have HEX := Lib.hid hex
  have q1 : w5.cell? ⟨h, 1, none⟩ = some (.slice (some ⟨b1, 0, none⟩) T.length c1) := B5.out.cell 1
  have hcell : w5.cell? ⟨b1, k * 4 + 3, none⟩ = some (.bool (!e.x.live)) := by
    obtain ⟨b', c', e', _, _, hc⟩ := own_cells OW5.out (by omega)
    injection e' with e1 _ _
    injection e1 with e1
    injection e1 with e1 _ _
    subst e1
    exact hc _ _ ((dcells_at E k e hek 3 (by omega)).trans rfl)
  have hfz : w5.frozen? ⟨b1, k * 4 + 3, none⟩ = false := by
    obtain ⟨_, ⟨h1, _⟩ | ⟨g', cap, cur, hv, h2, h3, h4, h5, h6, h7⟩⟩ := OW5.out
    · cases h1
    · injection hv with e1 _ _
      injection e1 with e1
      injection e1 with e1 _ _
      subst e1
      have hb : Blk w5 b1 75 cur := h3
      exact hb.frozen _
  clear hek hex
  go_upto_region 5 with fail
  refine abs_wp (fun W => Hid (RefN W h r (kill T k x)) ∧ Hid (Blk W w.heap.size 51 #[.int .i64 0, .int .i64 0, .slice none 0 0]) ∧ Hid (Blk W w2.heap.size 51 #[.int .i64 (x.f : Nat), .int .i64 (x.t : Nat), .slice A x.bs.length c]) ∧ Hid (W.ownsRow 0 5 1 (.slice A x.bs.length c) x.bs.length (bv x.bs)) ∧ Hid (Fr (fun q => q = h) w W)) ?_ ?_
  · obtain ⟨cs, hb⟩ := row_blk OW5.out rfl
    have fs : Fr (fun q => q = b1) w5 (w5.setCell ⟨b1, k * 4 + 3, none⟩ (.bool true)) := (Fr.refl (fun q => q = b1) w5).setCell (p := ⟨b1, k * 4 + 3, none⟩) (fun _ => rfl) _
    have hne : ∀ {g : Nat} {t : TypeId} {C : Array Value}, Blk w5 g t C → t ≠ 75 → g ≠ b1 := fun hg ht => Blk.ne_ hg hb ht
    have hof : ∀ {m : Nat} {v : Value} {xs : List Value}, w5.ownsRow 0 5 1 v m xs → (w5.setCell ⟨b1, k * 4 + 3, none⟩ (.bool true)).ownsRow 0 5 1 v m xs := fun hv => own_off hv fs (fun q e => by have e' : q = b1 := e; subst e'; exact .inl ⟨_, _, hb, by decide⟩)
    have hkl : (kill T k x).length = T.length := by unfold kill; rw [List.length_set]
    have hos := own_set (k := k * 4 + 3) OW5.out (.bool true)
    rw [dcells_out E k e HEK.out] at hos
    have hn : RefN (w5.setCell ⟨b1, k * 4 + 3, none⟩ (.bool true)) h r (kill T k x) := by
      refine ⟨some ⟨b1, 0, none⟩, c1, outE E k e, ?_, ?_, ?_, fun e' he => ?_⟩
      · rw [hkl]
        exact B5.out.fr fs (fun e => hne B5.out (by decide) e)
      · unfold outE kill
        rw [List.map_set, HE.out, HEX.out]
      · rw [hkl]
        exact hos
      · have hek := HEK.out
        rcases List.mem_or_eq_of_mem_set he with h1 | h1
        · exact ⟨(A5.out e' h1).1, hof (A5.out e' h1).2⟩
        · subst h1
          have h2 := A5.out e (List.mem_of_getElem? hek)
          exact ⟨h2.1, hof h2.2⟩
    exact ⟨hn, M5.out.fr fs (fun e => hne M5.out (by decide) e), K5.out.fr fs (fun e => hne K5.out (by decide) e), hof O5.out, F5.out.trans fs (fun q hq e => by have e' : q = b1 := e; have := HB2.out; omega)⟩
  rintro w6 ⟨N6, M6, K6, O6, F6⟩
  clear B5 OW5 M5 K5 O5 A5 F5 q1 hcell hfz
  go_wp2_with (first
    | (refine wpList_load_all rfl 51 _ rfl w2.heap.size rfl K6.out _ Try.underlying51 rfl tMsg_size ?_)
    | (refine wpList_store_blk rfl 51 _ _ rfl w.heap.size _ rfl rfl M6.out rfl tMsg_size (by first | rfl | kernel_rfl) ?_
       rintro W7 b7 f7
       have M7 := Lib.hid b7
       have F7 := Lib.hid f7
       clear b7 f7))
  have hof : ∀ k, k = w.heap.size → (∃ t cs, Blk w6 k t cs ∧ 5 ≠ t ∧ 75 ≠ t ∧ k ≠ h) ∨ ∃ n D, MapI w6 k n D := fun q e => by subst e; exact .inl ⟨_, _, M6.out, by decide, by decide, by have := HHT.out; omega⟩
  refine bodyPost_ret (results_two Try.results25 _ W7 w.heap.size 51 _ _ rfl M7.out Try.underlying51 rfl tMsg_size) rfl ⟨A, c, rfl, own_off O6.out F7.out (fun q e => by have e' : q = w.heap.size := e; subst e'; exact .inl ⟨_, _, M6.out, by decide⟩), N6.out.fr F7.out hof, F6.out.trans F7.out (fun q hq e => by have e' : q = w.heap.size := e; omega)⟩
set_option maxRecDepth 100000 in
set_option maxHeartbeats 4000000 in
theorem rdeliver_no {w : World} {h r id : Nat} {T : List Ms} (n : RefN w h r T) (hT : T.length ≤ 4000) (hid : id < 18446744073709551616) (hx : lookT T id = none) :
    Calls Try.prog 25 #[.pointer (some ⟨h, 0, none⟩), .int .u64 (id : Nat)] w fun e w' => e = .returned (.tuple #[.agg #[.int .i64 0, .int .i64 0, .slice none 0 0], .int .i64 4]) ∧ Fr (fun _ => False) w w' := by
  have HN := Lib.hid n
  have HX := Lib.hid hx
  clear n hx
  go_enter Try.func25, Try.ntmps25
  go_upto_region 1 with fail
  refine abs_wp (fun W => Hid (RefN W h r T) ∧ Hid (Blk W w.heap.size 51 #[.int .i64 0, .int .i64 0, .slice none 0 0]) ∧ Hid (Fr (fun _ => False) w W)) ⟨HN.out.far ((Fr.refl _ _).alloc _), Blk.new _ _ _, (Fr.refl _ _).alloc _⟩ ?_
  rintro w1 ⟨N1, M1, F1⟩
  go_wp2_with fail
  refine (rat_no N1.out hT hid HX.out).mono ?_
  rintro e w2 ⟨rfl, f2⟩
  have F2 := Lib.hid f2
  clear f2
  go_upto_region 2 with fail
  refine abs_wp (fun W => Hid (Blk W w.heap.size 51 #[.int .i64 0, .int .i64 0, .slice none 0 0]) ∧ Hid (Blk W w2.heap.size 51 #[.int .i64 0, .int .i64 0, .slice none 0 0]) ∧ Hid (Fr (fun _ => False) w W))
    ⟨keepB (keepB M1.out F2.out) ((Fr.refl _ _).alloc _), Blk.new _ _ _, (F1.out.trans F2.out (fun _ _ h => h)).alloc _⟩ ?_
  rintro w6 ⟨M6, K6, F6⟩
  clear N1 M1 F1 F2
  go_wp2_with (first
    | (refine wpList_load_all rfl 51 _ rfl w2.heap.size rfl K6.out _ Try.underlying51 rfl tMsg_size ?_)
    | (refine wpList_store_blk rfl 51 _ _ rfl w.heap.size _ rfl rfl M6.out rfl tMsg_size (by first | rfl | kernel_rfl) ?_
       rintro W7 b7 f7
       have M7 := Lib.hid b7
       have F7 := Lib.hid f7
       clear b7 f7))
  refine bodyPost_ret (results_two Try.results25 _ W7 w.heap.size 51 _ _ rfl M7.out Try.underlying51 rfl tMsg_size) rfl ⟨rfl, F6.out.trans F7.out (fun q hq e => by have e' : q = w.heap.size := e; omega)⟩

theorem oper_app {F : Fence} {N : Nat} {P : Program} {w : World} {ops : Array Oper} {o : Oper} {a : Act} {K : Act → World → Prop} {Q : Exit → Act → World → Prop} {X : Prop} (hgd : o.guard = none) (s x : Operand) (t tx : TypeId)
    (ho : o.op = .call { callee := .builtin .append, args := #[s, x], argTypes := #[t, tx] })
    (base : Nat) (e : TypeId) (i : TypeInfo) (z : Value) (size bytes : Nat) (ht : P.underlying t = some (.slice e)) (hi : P.info? e = some i) (hz : i.zero = some z)
    (hsize : i.size = size) (hby : i.bytes = bytes) (hzs : z.cells.size = size)
    (v : Value) (n : Nat) (xs : List Value) (hv : a.eval s = v) (hown : w.ownsRow base e size v n xs)
    (xv : Value) (m : Nat) (news : List Value) (hx : a.eval x = xv) (hs : Src P size tx xv m news w)
    (hbytes : (n + m) * bytes ≤ 140737488355328) (h63 : n + m ≤ maxLen) (hbase : base ≤ w.heap.size)
    (h : ∀ v' w', w'.ownsRow base e size v' (n + m) (xs ++ news) → Fr (fun k => v.ownBlock = some k) w w' → (v'.ownBlock = v.ownBlock ∨ v'.ownBlock = some w.heap.size) → K (a.put o.dst v') w') :
    if Region.wanted o (yielded ops a.tmps) = true then Oper.wpIn F N P o a w K Q else X := by
  simp only [Region.wanted, hgd, if_true]
  obtain ⟨v', w', hr, h2, h3, h4⟩ := run_app (P := P) w base t tx o.type e i z size bytes ht hi hz hsize hby hzs v n xs hown xv m news hs hbytes h63 hbase
  unfold Oper.wpIn
  refine ⟨?_, ?_⟩
  · simp [Oper.about, ho, resolve, Target.leads, Sem.run_pure]
  · rw [Oper.semAt_plain F _ _ (by rw [ho]; intro c hc'; cases hc')]
    simp [execOp, ho, resolve, invoke, builtin, hv, hx, hr, Result.andThen]
    exact h v' w' h2 h3 h4
def lq (T : List Ms) (q : Nat) : List Nat := (List.range' 1 q).filter fun id => (lookT T id).isSome
theorem lq_step {T : List Ms} {q : Nat} {x : Ms} (h : T[q]? = some x) : lq T (q + 1) = lq T q ++ (if x.live then [q + 1] else []) := by
  unfold lq
  rw [List.range'_concat, List.filter_append, show 1 + 1 * q = q + 1 by omega]
  congr 1
  have e : (lookT T (q + 1)).isSome = x.live := by
    rw [lookT_at h]
    cases x.live <;> rfl
  simp only [List.filter_cons, List.filter_nil, e]
theorem lq_len (T : List Ms) (q : Nat) : (lq T q).length ≤ q := by
  have := List.length_filter_le (fun id => (lookT T id).isSome) (List.range' 1 q)
  rw [List.length_range'] at this
  exact this
set_option maxRecDepth 100000 in
set_option maxHeartbeats 8000000 in
theorem rletters_c {w : World} {h r : Nat} {T : List Ms} (n : RefN w h r T) (hT : T.length ≤ 4000) :
    Calls Try.prog 28 #[.pointer (some ⟨h, 0, none⟩)] w fun e w' => ∃ v, e = .returned v ∧ w'.ownsRow w.heap.size 65 4 v (lids T).length (lcells T (lids T)) ∧ Fr (fun _ => False) w w' := by
  have HN := Lib.hid n
  clear n
  obtain ⟨i1, ki, kz0, kz1, kz2⟩ := info_parts letter_info
  go_enter Try.func28, Try.ntmps28
  go_wp2_with fail
  go_loopw [3, 4] (fun out iv wr => ∃ q : Nat, iv = .int .i64 q ∧ q ≤ T.length ∧ Hid (Fr (fun _ => False) w wr ∧ wr.ownsRow w.heap.size 65 4 out (lq T q).length (lcells T (lq T q)))) (fun _ iv _ => T.length - (intOf iv).toNat)
  case atStart => exact ⟨0, rfl, Nat.zero_le _, Fr.refl _ _, World.ownsRow_nil _ _ _ _⟩
  case round =>
    obtain ⟨q, rfl, hq, hh⟩ := hrel
    obtain ⟨fr, own⟩ := hh.out
    have N2 := Lib.hid (HN.out.far fr)
    have HF := Lib.hid fr
    have OW := Lib.hid own
    clear hh own fr
    by_cases hlt : q < T.length
    · obtain ⟨x, hx⟩ : ∃ x, T[q]? = some x := ⟨_, List.getElem?_eq_getElem hlt⟩
      obtain ⟨b, A, c, c2, p0, p1, rg, _, _⟩ := N2.out.at_ hx
      have c3 : wr.cell? ⟨b, q * 4 + 3, none⟩ = some (.bool (!x.live)) := rg 3 _ rfl
      have HS := Lib.hid (lq_step hx)
      have HLL := Lib.hid (lq_len T q)
      have RG := Lib.hid rg
      have HLX := Lib.hid (lookT_at hx)
      clear rg hx
      cases hl : x.live
      · rw [hl] at c3
        have hs2 : Hid (lq T (q + 1) = lq T q) := by have h1 := HS.out; rw [hl] at h1; show _ = _; simpa using h1
        clear HS hl
        go_wp2_with fail
        go_roundw
        case rel => exact ⟨q + 1, by go_num, hlt, HF.out, by rw [hs2.out]; exact OW.out⟩
        case measure => simp [intOf]; omega
      · rw [hl] at c3
        have hs2 : Hid (lq T (q + 1) = lq T q ++ [q + 1]) := by have h1 := HS.out; rw [hl] at h1; show _ = _; simpa using h1
        have hlc : Hid (lcell T (q + 1) = [.int .u64 ((q + 1 : Nat) : Int), .int .i64 (x.f : Nat), .int .i64 (x.t : Nat), .int .i64 (x.bs.length : Nat)]) := by
          have h1 := HLX.out
          rw [hl, if_pos rfl] at h1
          show lcell T (q + 1) = _
          unfold lcell
          rw [h1]
        have HP := Lib.hid p1
        clear HS hl
        obtain ⟨q1, hq1⟩ : ∃ q1, q + 1 = q1 := ⟨_, rfl⟩
        have hqi : IntKind.i64.wrap ((q : Int) + 1) = (q1 : Int) := by rw [wrapz _ (by omega) (by omega)]; omega
        have hqu : IntKind.u64.wrap (q1 : Int) = (q1 : Int) := by rw [wraps_u64 _ (by omega) (by omega)]
        rw [hq1] at hlc hs2
        have HQ1 := Lib.hid hq1
        go_upto_region 6 with fail
        clear p0 p1 c3 hq1
        refine (wpIn_wide (n := 9)).1 ?_
        refine wpIn_region_growMade (k := 33) (Fr (fun _ => False)) (fun v W2 => ∃ g, v = .slice (some ⟨g, 0, none⟩) 1 1 ∧ Blk W2 g 65 #[.int .u64 (q1 : Nat), .int .i64 (x.f : Nat), .int .i64 (x.t : Nat), .int .i64 (x.bs.length : Nat)]) rfl (by kernel_rfl) (by kernel_rfl) (Fr.refl _ _) (fun a b c h1 h2 => h1.trans h2 (fun _ _ h => h))
          (fun v a b hab ⟨g, h1, h2⟩ => ⟨g, h1, h2.fr hab (fun h => h)⟩) ?_
        have hdr : ∀ W, Fr (fun _ => False) wr.drew W → Fr (fun _ => False) wr W := fun W h => ((Fr.refl (fun _ => False) wr).drew).trans h (fun _ _ h => h)
        have HDR := Lib.hid hdr
        clear hdr
        iterate 33
          refine growWalk_cons (a' := ?_) (v := ?_) ?_ ?_ ?_
          rotate_left 2
          · intro W2 hW K hK
            have p1 : W2.cell? ⟨h, 1, none⟩ = some (.slice (some ⟨b, 0, none⟩) T.length c) := cell_fa HP.out (HDR.out W2 hW)
            have c0 : W2.cell? ⟨b, q * 4, none⟩ = some (.int .i64 (x.f : Nat)) := cell_fa (RG.out 0 _ rfl) (HDR.out W2 hW)
            have c1 : W2.cell? ⟨b, q * 4 + 1, none⟩ = some (.int .i64 (x.t : Nat)) := cell_fa (RG.out 1 _ rfl) (HDR.out W2 hW)
            have c4 : W2.cell? ⟨b, q * 4 + 2, none⟩ = some (.slice A x.bs.length c2) := cell_fa (RG.out 2 _ rfl) (HDR.out W2 hW)
            gi_step
            exact hK _ (Fr.refl _ _)
          · exact rfl
        refine growWalk_nil ⟨?_, ?_⟩
        · intro W2 hW K hK
          gi_step
          exact hK _ _ ((Fr.refl _ W2).alloc _) ⟨W2.heap.size, rfl, Blk.new W2 _ _⟩
        · rintro v W2 hW ⟨g, rfl, hbg⟩
          change wpAnyIn _ _ _ _ _ _ 2 _ _ _
          refine wpAnyIn_ready (rs := [34]) (by kernel_rfl) (by simp) ?_
          refine AllReadyIn.cons rfl (fun K hK => ?_) AllReadyIn.nil
          have F2 := Lib.hid (HDR.out W2 hW)
          refine oper_app rfl (.tmp 23) (.tmp 56) _ _ rfl w.heap.size 65 i1 _ 4 32 Try.underlying57 ki kz0 kz1 kz2 rfl _ (lq T q).length (lcells T (lq T q)) rfl (own_fa OW.out F2.out) _ 1 [.int .u64 (q1 : Nat), .int .i64 (x.f : Nat), .int .i64 (x.t : Nat), .int .i64 (x.bs.length : Nat)] rfl (src_blk Try.underlying57 1 hbg rfl (by intro u hu; simp at hu; rcases hu with rfl | rfl | rfl | rfl <;> rfl)) (by have := HLL.out; omega) (by have := HLL.out; unfold maxLen; omega) (Nat.le_trans HF.out.size F2.out.size) ?_
          intro v' w' own' f' hn'
          have OW' : Hid (w'.ownsRow w.heap.size 65 4 v' (lq T q1).length (lcells T (lq T q1))) := by
            show World.ownsRow _ _ _ _ _ _ _
            rw [hs2.out, List.length_append, lcells_add, hlc.out]
            exact own'
          have F' : Hid (Fr (fun _ => False) w w') := (HF.out.trans F2.out (fun _ _ h => h)).trans f' (fun i hi e => by have := (World.ownsRow.lt OW.out i e).1; omega)
          clear own' f' hn' hW hbg
          refine hK _ _ ?_
          clear hK K
          change wpAnyIn _ _ _ _ _ _ 1 _ _ _
          refine wpAnyIn_ready (rs := [35]) (by kernel_rfl) (by simp) ?_
          refine AllReadyIn.cons rfl (fun K hK => ?_) AllReadyIn.nil
          go_simp
          refine hK _ _ ?_
          clear hK K
          change wpAnyIn _ _ _ _ _ _ 0 _ _ _
          refine wpAnyIn_done (by kernel_rfl) ?_ _
          try simp only [Act.put, List.setIfInBounds_toArray, List.set_cons_succ, List.set_cons_zero]
          go_wp2_with fail
          go_roundw
          case rel => exact ⟨q1, by have := HQ1.out; go_num, by have := HQ1.out; omega, F'.out, OW'.out⟩
          case measure => have := HQ1.out; simp [intOf]; omega
    · have hqe : q = T.length := by omega
      subst hqe
      obtain ⟨A, c, p0, p1, _⟩ := N2.out.hd
      go_wp2_with fail
      go_ret
      exact ⟨_, rfl, OW.out, HF.out⟩

/-- Old blocks stay; each new one keeps its kind and its size, and its cells but those where the new letter comes. -/
structure Gp (B n : Nat) (new : List Value) (w w' : World) : Prop where
  fr : Fr (fun q => B ≤ q) w w'
  ce : ∀ g cur t z, B ≤ g → w.heap[g]? = some (.cells cur t z) → ∃ cur', w'.heap[g]? = some (.cells cur' t z) ∧ cur'.size = cur.size ∧ ∀ j, cur'[j]? = cur[j]? ∨ (4 ≤ j ∧ n * 4 ≤ j ∧ j < n * 4 + 4 ∧ cur'[j]? = new[j - n * 4]?)
section
variable {B n : Nat} {new : List Value} {w w' w'' : World}
theorem Gp.of (h : Fr (fun _ => False) w w') : Gp B n new w w' := ⟨h.mono (fun _ _ e => e.elim), fun g cur t z hb hg => by
  have hlt : g < w.heap.size := by
    rcases Nat.lt_or_ge g w.heap.size with h' | h'
    · exact h'
    · rw [Array.getElem?_eq_none h'] at hg; cases hg
  exact ⟨cur, (h.block g hlt (fun e => e)).trans hg, rfl, fun j => .inl rfl⟩⟩
theorem Gp.refl (w : World) : Gp B n new w w := Gp.of (Fr.refl _ _)
theorem Gp.alloc (w : World) (o : Obj) : Gp B n new w (w.alloc o) := Gp.of ((Fr.refl _ _).alloc _)
theorem Gp.drew (w : World) : Gp B n new w w.drew := Gp.of (Fr.refl _ w).drew
theorem Gp.trans (a : Gp B n new w w') (b : Gp B n new w' w'') : Gp B n new w w'' := ⟨a.fr.trans b.fr (fun _ _ e => e), fun g cur t z hb hg => by
  obtain ⟨c1, h1, h2, h3⟩ := a.ce g cur t z hb hg
  obtain ⟨c2, k1, k2, k3⟩ := b.ce g c1 t z hb h1
  refine ⟨c2, k1, k2.trans h2, fun j => ?_⟩
  rcases k3 j with e | e
  · rw [e]; exact h3 j
  · exact .inr e⟩
theorem Gp.blk4 (h : Gp B n new w w') {g : Nat} {t : TypeId} {C : Array Value} (hb : B ≤ g) (hg : Blk w g t C) (hs : C.size ≤ 4) : Blk w' g t C := by
  obtain ⟨c, h1, h2, h3⟩ := h.ce g C t (0, 0) hb hg
  have e : c = C := by
    refine Array.ext_getElem? (fun j => ?_)
    rcases h3 j with e | ⟨e1, _⟩
    · exact e
    · rw [Array.getElem?_eq_none (by omega), Array.getElem?_eq_none (by omega)]
  rw [e] at h1
  exact h1
theorem Gp.row (h : Gp B n new w w') {e : TypeId} {v : Value} {m : Nat} {xs : List Value} (hm : m = n ∨ (m = n + 1 ∧ new.length = 4 ∧ ∀ j, j < 4 → xs[n * 4 + j]? = new[j]?)) (ho : w.ownsRow B e 4 v m xs) : w'.ownsRow B e 4 v m xs := by
  obtain ⟨h0, ⟨h1, h2⟩ | ⟨g, cap, cur, h1, h2, h3, h4, h5, h6, h7⟩⟩ := ho
  · exact ⟨h0, .inl ⟨h1, h2⟩⟩
  · obtain ⟨c, k1, k2, k3⟩ := h.ce g cur e (0, 0) h2 h3
    refine ⟨h0, .inr ⟨g, cap, c, h1, h2, k1, h4, h5, by rw [k2, h6], ?_⟩⟩
    refine List.ext_getElem? (fun j => ?_)
    have hx : xs[j]? = (cur.toList.take (m * 4))[j]? := by rw [h7]
    rw [List.getElem?_take]
    split
    · rename_i hj
      rw [hx, List.getElem?_take, if_pos hj, Array.getElem?_toList, Array.getElem?_toList]
      rcases k3 j with e | ⟨e1, e2, e3, e4⟩
      · exact e
      · rcases hm with rfl | ⟨rfl, hnl, hn⟩
        · omega
        · rw [e4]
          have h8 := hn (j - n * 4) (by omega)
          rw [show n * 4 + (j - n * 4) = j by omega, hx, List.getElem?_take, if_pos hj, Array.getElem?_toList] at h8
          exact h8.symm
    · rename_i hj
      rw [List.getElem?_eq_none (by omega)]
end
theorem run_app_g {P : Program} (w : World) (B : Nat) (t tx ty e : TypeId) (i : TypeInfo) (z : Value) (bytes : Nat) (ht : P.underlying t = some (.slice e)) (hi : P.info? e = some i) (hz : i.zero = some z)
    (hsize : i.size = 4) (hby : i.bytes = bytes) (hzs : z.cells.size = 4)
    (A : Option Addr) (n c : Nat) (xs : List Value) (hown : w.ownsRow B e 4 (.slice A n c) n xs) (hc0 : n = 0 → c = 0)
    (x : Value) (news : List Value) (hs : Src P 4 tx x 1 news w)
    (hbytes : (n + 1) * bytes ≤ 140737488355328) (h63 : n + 1 ≤ maxLen) (hbase : B ≤ w.heap.size) :
    ∃ v' w', (Builtin.append_ #[t, tx] ty #[.slice A n c, x]).run P w = .ok v' w' ∧ w'.ownsRow B e 4 v' (n + 1) (xs ++ news) ∧ Gp B n news w w' := by
  have hsmall : n + 1 ≤ 9223372036854775807 := by simp only [maxLen] at h63; omega
  have hnl : news.length = 4 := by have := hs.newsLen; omega
  have hlen : (xs ++ news).length = (n + 1) * 4 := by rw [List.length_append, hown.1, hnl, Nat.add_mul]
  have grown : ∀ (old : Nat), old < n + 1 →
      (w.drew.alloc (.cells ((xs ++ news).toArray ++ Builtin.zeroCells z.cells (grownCap w (n + 1) old e - (n + 1))) e)).ownsRow B e 4
        (.slice (some ⟨w.heap.size, 0, none⟩) (n + 1) (grownCap w (n + 1) old e)) (n + 1) (xs ++ news) := by
    intro old ho
    have hge := grownCap_ge w (n + 1) old e
    have hcm : grownCap w (n + 1) old e ≤ maxLen := grownCap_le_maxLen w (n + 1) old e h63
    refine ⟨hlen, .inr ⟨w.heap.size, _, _, rfl, hbase, heap_alloc_new w.drew _, hge, hcm, ?_, ?_⟩⟩
    · simp only [Array.size_append, List.size_toArray, size_zeroCells, hzs, hlen, ← Nat.add_mul]
      congr 1
      omega
    · simp only [Array.toList_append]
      rw [← hlen]
      exact List.take_left
  subst hby
  rcases hown.2 with ⟨h1, h2⟩ | ⟨g, cap, cur, h1, hbg, hg, hnc, hcm, hcs, htake⟩
  · subst h2
    injection h1 with h1 _ h2
    subst h1 h2
    have hx : xs = [] := List.eq_nil_of_length_eq_zero (by simpa using hown.1)
    subst hx
    have hr := run_append_grow_src (P := P) w t tx ty e i z ht hi hz none 0 0 [] (by simp [Builtin.firstCells]) x 1 news (by rw [hsize]; exact hs) (by omega) (by omega) (growslice_fits (by omega) hbytes)
    exact ⟨_, _, hr, grown 0 (by omega), Gp.of (((Fr.refl _ w).drew).alloc _)⟩
  · injection h1 with h1 _ h2
    subst h1 h2
    by_cases hroom : n + 1 ≤ c
    · have hfit : n * i.size + news.length ≤ cur.size := by rw [hnl, hcs, hsize]; omega
      have hcell : ∀ j (_hj : j < news.length), w.cell? ⟨g, 0 + n * i.size + j, none⟩ = some (cur[n * i.size + j]'(by omega)) := by
        intro j hj
        rw [Nat.zero_add, cell_of_row w g _ cur e (0, 0) hg]
        simp [show n * i.size + j < cur.size by omega]
      have hr := run_append_room_src (P := P) w t tx ty e i ht hi g 0 n c x 1 news (by rw [hsize]; exact hs) hroom (fun j hj => by rw [hcell j hj]; rfl) (fun j _ => by simp [World.frozen?, hg])
      rw [Nat.zero_add, hsize] at hr
      rw [hsize] at hfit
      obtain ⟨c2, hc, hcl⟩ := heap_setCells g news (n * 4) w cur e (0, 0) hg hfit
      have hcsz : c2.size = cur.size := by
        rw [← Array.length_toList, hcl]
        simp
        omega
      refine ⟨_, _, hr, ⟨hlen, .inr ⟨g, c, c2, rfl, hbg, hc, hroom, hcm, by rw [hcsz, hcs], ?_⟩⟩, ⟨⟨World.os_setCells _ _ _ _, ?_, World.output_setCells _ _ _ _, ?_, ?_⟩, fun g2 cur2 t2 z2 hb2 hg2 => ?_⟩⟩
      · rw [hcl, htake, ← hlen]
        exact List.take_left
      · exact (World.grownBy_setCells_aux g news (n * 4) w).1
      · exact Nat.le_of_eq (World.grownBy_setCells_aux g news (n * 4) w).2.symm
      · intro k hk hne
        exact World.heap_setCells_other w g _ news hk (fun e => hne (by show B ≤ k; omega))
      · by_cases hgg : g2 = g
        · subst hgg
          rw [hg] at hg2
          injection hg2 with hg2
          injection hg2 with e1 e2 e3
          subst e1 e2 e3
          refine ⟨c2, hc, hcsz, fun j => ?_⟩
          have hn1 : 1 ≤ n := by
            rcases Nat.eq_zero_or_pos n with h | h
            · have := hc0 h; omega
            · exact h
          have hl : (cur.toList.take (n * 4)).length = n * 4 := by simp; omega
          rw [← Array.getElem?_toList, hcl]
          rcases Nat.lt_or_ge j (n * 4) with q | q
          · left
            rw [List.append_assoc, List.getElem?_append_left (by rw [hl]; exact q), List.getElem?_take, if_pos q, Array.getElem?_toList]
          · rcases Nat.lt_or_ge j (n * 4 + 4) with q2 | q2
            · right
              refine ⟨by omega, q, q2, ?_⟩
              rw [List.append_assoc, List.getElem?_append_right (by rw [hl]; exact q), hl, List.getElem?_append_left (by omega)]
            · left
              rw [List.getElem?_append_right (by rw [List.length_append, hl, hnl]; exact q2), List.length_append, hl, List.getElem?_drop, ← Array.getElem?_toList]
              congr 1
              omega
        · have hlt2 : g2 < w.heap.size := by
            rcases Nat.lt_or_ge g2 w.heap.size with h' | h'
            · exact h'
            · rw [Array.getElem?_eq_none h'] at hg2; cases hg2
          exact ⟨cur2, (World.heap_setCells_other w g _ news hlt2 hgg).trans hg2, rfl, fun j => .inl rfl⟩
    · have hr := run_append_grow_src (P := P) w t tx ty e i z ht hi hz (some ⟨g, 0, none⟩) n c xs (by rw [hsize]; exact run_firstCells_some w.drew 4 n ⟨g, 0, none⟩ n c xs hown.1 (hown.cells (g := g) rfl)) x 1 news (by rw [hsize]; exact hs) (by omega) (by omega) (growslice_fits (by omega) hbytes)
      exact ⟨_, _, hr, grown c (by omega), Gp.of (((Fr.refl _ w).drew).alloc _)⟩

/-- append onto an empty row: whatever lay there lies there still. -/
theorem run_app0 {P : Program} (w : World) (base : Nat) (t tx ty e : TypeId) (i : TypeInfo) (z : Value) (size bytes : Nat) (ht : P.underlying t = some (.slice e)) (hi : P.info? e = some i) (hz : i.zero = some z)
    (hsize : i.size = size) (hby : i.bytes = bytes) (hzs : z.cells.size = size)
    (g : Nat) (hbg : base ≤ g) (hB : Blk w g e #[]) (x : Value) (m : Nat) (news : List Value) (hs : Src P size tx x m news w)
    (hbytes : m * bytes ≤ 140737488355328) (h63 : m ≤ maxLen) (hbase : base ≤ w.heap.size) :
    ∃ A c w', (Builtin.append_ #[t, tx] ty #[.slice (some ⟨g, 0, none⟩) 0 0, x]).run P w = .ok (.slice A m c) w' ∧ w'.ownsRow base e size (.slice A m c) m news ∧ Fr (fun _ => False) w w' ∧ (m = 0 → c = 0) := by
  subst hsize
  subst hby
  have hsmall : m ≤ 9223372036854775807 := by simp only [maxLen] at h63; omega
  have hnl := hs.newsLen
  by_cases hm : m = 0
  · subst hm
    have hn : news = [] := List.eq_nil_of_length_eq_zero (by simpa using hnl)
    subst hn
    exact ⟨_, _, w, run_append_nothing w t tx ty e i ht hi (some ⟨g, 0, none⟩) 0 0 (Nat.le_refl _) x hs, ⟨by simp, .inr ⟨g, 0, #[], rfl, hbg, hB, Nat.le_refl _, Nat.zero_le _, by simp, by simp⟩⟩, Fr.refl _ w, fun _ => rfl⟩
  · have hr := run_append_grow_src (P := P) w t tx ty e i z ht hi hz (some ⟨g, 0, none⟩) 0 0 [] (run_firstCells_some w.drew i.size 0 ⟨g, 0, none⟩ 0 0 [] (by simp) (fun j v hv => by cases hv)) x m news hs (by omega) (by omega) (growslice_fits (by omega) (by rw [Nat.zero_add]; exact hbytes))
    rw [Nat.zero_add, List.nil_append] at hr
    have hge := grownCap_ge w m 0 e
    have hcm : grownCap w m 0 e ≤ maxLen := grownCap_le_maxLen w m 0 e h63
    refine ⟨_, _, _, hr, ⟨hnl, .inr ⟨w.heap.size, _, _, rfl, hbase, heap_alloc_new w.drew _, hge, hcm, ?_, ?_⟩⟩, ((Fr.refl _ w).drew).alloc _, fun h => absurd h hm⟩
    · simp only [Array.size_append, List.size_toArray, size_zeroCells, hzs, hnl, ← Nat.add_mul]
      congr 1
      omega
    · simp only [Array.toList_append]
      rw [← hnl]
      exact List.take_left
theorem operIn_app {F : Fence} {n : Nat} {P : Program} {w w' : World} {o : Oper} {a : Act} {K : Act → World → Prop} {Q : Exit → Act → World → Prop} (s x : Operand) (t tx : TypeId)
    (ho : o.op = .call { callee := .builtin .append, args := #[s, x], argTypes := #[t, tx] }) (v u : Value) (hv : a.eval s = v) (hx : a.eval x = u) {v' : Value} {ty : TypeId}
    (hr : (Builtin.append_ #[t, tx] ty #[v, u]).run P w = .ok v' w') (hty : o.type = ty := by rfl) (hK : K (a.put o.dst v') w') : Oper.wpIn F n P o a w K Q := by
  subst hty
  unfold Oper.wpIn
  refine ⟨?_, ?_⟩
  · simp [Oper.about, ho, resolve, Target.leads, Sem.run_pure]
  · rw [Oper.semAt_plain F _ _ (by rw [ho]; intro c hc'; cases hc')]
    simp [execOp, ho, resolve, invoke, builtin, hv, hx, hr, Result.andThen]
    exact hK
def rpX (h B n c3 f t m c9 : Nat) (A3 A9 : Option Addr) (xs : List Value) (i : Nat) (v : Value) (W : World) : Prop := match i with
  | 0 => v = .pointer (some ⟨h, 0, none⟩)
  | 1 => ∃ b : Nat, v = .slice (some ⟨b, 0, none⟩) 0 0 ∧ B ≤ b ∧ Blk W b 75 #[]
  | 2 => v = .pointer (some ⟨h, 0, none⟩)
  | 3 => v = .pointer (some ⟨h, 0, none⟩)
  | 4 => v = .pointer (some ⟨h, 1, none⟩)
  | 5 => v = .slice A3 n c3
  | 6 => ∃ A c, v = .slice A n c ∧ W.ownsRow B 75 4 (.slice A n c) n xs ∧ (n = 0 → c = 0)
  | 7 => v = .agg #[.int .i64 (f : Nat), .int .i64 (t : Nat), .slice A9 m c9]
  | 8 => v = .agg #[.int .i64 (f : Nat), .int .i64 (t : Nat), .slice A9 m c9, .bool false]
  | 9 => ∃ b : Nat, v = .slice (some ⟨b, 0, none⟩) 1 1 ∧ B ≤ b ∧ Blk W b 75 #[.int .i64 (f : Nat), .int .i64 (t : Nat), .slice A9 m c9, .bool false]
  | 10 => ∃ A c, v = .slice A (n + 1) c ∧ W.ownsRow B 75 4 (.slice A (n + 1) c) (n + 1) (xs ++ [.int .i64 (f : Nat), .int .i64 (t : Nat), .slice A9 m c9, .bool false])
  | _ => True
theorem rpX_far {h B n c3 f t m c9 : Nat} {A3 A9 : Option Addr} {xs : List Value} (HXL : ∀ j, j < 4 → (xs ++ [.int .i64 (f : Nat), .int .i64 (t : Nat), .slice A9 m c9, .bool false])[n * 4 + j]? = ([.int .i64 (f : Nat), .int .i64 (t : Nat), .slice A9 m c9, .bool false] : List Value)[j]?) {i : Nat} {v : Value} {W W' : World} (hg : Gp B n [.int .i64 (f : Nat), .int .i64 (t : Nat), .slice A9 m c9, .bool false] W W') (hx : rpX h B n c3 f t m c9 A3 A9 xs i v W) : rpX h B n c3 f t m c9 A3 A9 xs i v W' := by
  match i with
  | 0 => exact hx
  | 1 => obtain ⟨b, h1, h2, h3⟩ := hx; exact ⟨b, h1, h2, hg.blk4 h2 h3 (by decide)⟩
  | 2 => exact hx
  | 3 => exact hx
  | 4 => exact hx
  | 5 => exact hx
  | 6 => obtain ⟨A, c, h1, h2, h3⟩ := hx; exact ⟨A, c, h1, hg.row (.inl rfl) h2, h3⟩
  | 7 => exact hx
  | 8 => exact hx
  | 9 => obtain ⟨b, h1, h2, h3⟩ := hx; exact ⟨b, h1, h2, hg.blk4 h2 h3 (by show 4 ≤ 4; decide)⟩
  | 10 => obtain ⟨A, c, h1, h2⟩ := hx; exact ⟨A, c, h1, hg.row (.inr ⟨rfl, rfl, fun j hj => HXL j hj⟩) h2⟩
  | (n + 11) => exact hx
set_option maxRecDepth 100000 in
set_option maxHeartbeats 8000000 in
theorem rput_c {w : World} {h r : Nat} {T : List Ms} (n : RefN w h r T) (hT : T.length < 4000) (f t : Nat) (hf : f < 5) (ht : t < 5) (A : Option Addr) (m c : Nat) (bs : List UInt8) (hr : Rd w A m (bv bs)) (hm : m ≤ 16384) (hw : wayN T f t < 32) :
    Calls Try.prog 36 #[.pointer (some ⟨h, 0, none⟩), .agg #[.int .i64 (f : Nat), .int .i64 (t : Nat), .slice A m c]] w fun e w' => e = .returned (.tuple #[.int .u64 ((T.length + 1 : Nat) : Int), .int .i64 0]) ∧ RefN w' h r (T ++ [⟨f, t, bs, true⟩]) ∧ Fr (fun q => q = h) w w' := by
  have HN := Lib.hid n
  have HRD := Lib.hid hr
  have HHT : Hid (h < w.heap.size) := by obtain ⟨A, c, E, h1, _⟩ := n.ex; exact h1.lt
  have hlen : bs.length = m := by rw [← hr.1, bv_length]
  have HLN := Lib.hid hlen
  obtain ⟨wy, hwy⟩ : ∃ z, wayN T f t = z := ⟨_, rfl⟩
  have HWY := Lib.hid hwy
  have e32 : decide ((32 : Int) ≤ (wy : Int)) = false := decide_eq_false (by omega)
  clear n hr hwy hw hlen
  obtain ⟨i0, hi, hz0, hz1, hz2⟩ := info_parts rl_info
  obtain ⟨i8, ki, kz0, kz1, kz2⟩ := info_parts u8_info
  go_enter Try.func36, Try.ntmps36
  go_upto_region 1 with fail
  refine abs_wp (fun W => Hid (RefN W h r T) ∧ Hid (Blk W w.heap.size 51 #[.int .i64 (f : Nat), .int .i64 (t : Nat), .slice A m c]) ∧ Hid (Rd W A m (bv bs)) ∧ Hid (Fr (fun _ => False) w W)) ⟨HN.out.far ((Fr.refl _ _).alloc _), Blk.new _ _ _, HRD.out.alloc _, (Fr.refl _ _).alloc _⟩ ?_
  rintro w1 ⟨N1, M1, R1, F1⟩
  have m0 : w1.cell? ⟨w.heap.size, 0, none⟩ = some (.int .i64 (f : Nat)) := M1.out.cell 0
  have m1 : w1.cell? ⟨w.heap.size, 1, none⟩ = some (.int .i64 (t : Nat)) := M1.out.cell 1
  have HBT := Lib.hid (between_c N1.out (by omega) f t)
  rw [HWY.out] at HBT
  go_wp2_with fail
  refine HBT.out.mono ?_
  rintro e w2 ⟨rfl, f2⟩
  have N2 := Lib.hid (N1.out.far f2)
  have M2 := Lib.hid (keepB M1.out f2)
  have R2 := Lib.hid (R1.out.far f2)
  have F2 := Lib.hid (F1.out.trans f2 (fun _ _ h => h))
  clear f2 HBT N1 M1 R1 F1 m0 m1
  have k2 : ∀ o, (w2.alloc o).cell? ⟨w.heap.size, 2, none⟩ = some (.slice A m c) := fun o => (M2.out.alloc o).cell 2
  go_upto_region 4 with (first
    | (refine wpList_app rfl (.tmp 13) (.tmp 15) _ _ rfl w2.heap.size 5 i8 _ 1 1 Try.underlying33 ki kz0 kz1 kz2 rfl _ 0 [] rfl (World.ownsRow_lit w2 #[] 0 (Nat.le_refl _) (Nat.zero_le _) rfl) _ m (bv bs) rfl (Src.rd Try.underlying33 c (R2.out.alloc _) (bv_one bs)) (by omega) (by unfold maxLen; omega) (by rw [World.size_alloc]; omega) ?_
       intro v1 w3 own1 hf1 hn1
       rw [Nat.zero_add, List.nil_append] at own1
       obtain ⟨A9, c9, rfl, _, _⟩ := own_slice own1
       have F3 : Hid (Fr (fun _ => False) w2 w3) := (((Fr.refl _ w2).alloc _).trans hf1 (fun i hi hq => by
         have hq' : Value.ownBlock (.slice (some ⟨w2.heap.size, 0, none⟩) 0 0) = some i := hq
         have hq2 : w2.heap.size = i := by simpa [Value.ownBlock] using hq'
         omega))
       have OW := Lib.hid own1
       have q2 : w3.cell? ⟨w.heap.size, 2, none⟩ = some (.slice A m c) := (keepB M2.out F3.out).cell 2
       have z2 := (keepB M2.out F3.out).frozen 2
       clear own1 hf1 hn1 k2))
  refine abs_wp (fun W => Hid (RefN W h r T) ∧ Hid (Blk W w.heap.size 51 #[.int .i64 (f : Nat), .int .i64 (t : Nat), .slice A9 m c9]) ∧ Hid (W.ownsRow 0 5 1 (.slice A9 m c9) m (bv bs)) ∧ Hid (Fr (fun _ => False) w W)) ?_ ?_
  · have fs : Fr (fun q => q = w.heap.size) w3 (w3.setCell ⟨w.heap.size, 2, none⟩ (.slice A9 m c9)) := (Fr.refl (fun q => q = w.heap.size) w3).setCell (p := ⟨w.heap.size, 2, none⟩) (fun _ => rfl) _
    have hM3 := keepB M2.out F3.out
    refine ⟨(N2.out.far F3.out).fr fs (fun q e => by have e' : q = w.heap.size := e; subst e'; exact .inl ⟨_, _, hM3, by decide, by decide, by have := HHT.out; omega⟩), hM3.set_ 2 _, own_off (own_base (base' := 0) OW.out (fun _ _ => Nat.zero_le _)) fs (fun q e => by have e' : q = w.heap.size := e; subst e'; exact .inl ⟨_, _, hM3, by decide⟩), (F2.out.trans F3.out (fun _ _ h => h)).trans fs (fun q hq e => by have e' : q = w.heap.size := e; omega)⟩
  rintro w4 ⟨N4, M4, O4, F4⟩
  clear N2 M2 R2 F2 F3 OW q2 z2
  obtain ⟨A3, c3, E, hB, hE, hO, hA⟩ := N4.out.ex
  have HB := Lib.hid hB
  have HE := Lib.hid hE
  have HO := Lib.hid hO
  have HA := Lib.hid hA
  clear hB hE hO hA
  have HH4 : Hid (h < w4.heap.size) := HB.out.lt
  have HXL : ∀ j, j < 4 → (dcells E ++ [.int .i64 (f : Nat), .int .i64 (t : Nat), .slice A9 m c9, .bool false])[T.length * 4 + j]? = ([.int .i64 (f : Nat), .int .i64 (t : Nat), .slice A9 m c9, .bool false] : List Value)[j]? := fun j hj => by
    rw [List.getElem?_append_right (by rw [HO.out.1]; omega), HO.out.1, Nat.add_sub_cancel_left]
  refine (wpIn_wide (n := 9)).1 ?_
  refine wpIn_region_factsG (ms := [0, 0, 0, 4, 12, 28, 62, 0, 128, 384, 1022, 2047, 4095, 8191]) (k := 11) (Gp w4.heap.size T.length [.int .i64 (f : Nat), .int .i64 (t : Nat), .slice A9 m c9, .bool false]) (rpX h w4.heap.size T.length c3 f t m c9 A3 A9 (dcells E)) (fun i v W => True) (by kernel_rfl) (by kernel_rfl) (Gp.refl _) (fun a b c h1 h2 => h1.trans h2) (fun i v w w' hg hx => rpX_far HXL hg hx) ?walk4
  case walk4 =>
  have hdr : ∀ W, Gp w4.heap.size T.length [.int .i64 (f : Nat), .int .i64 (t : Nat), .slice A9 m c9, .bool false] w4.drew W → Gp w4.heap.size T.length [.int .i64 (f : Nat), .int .i64 (t : Nat), .slice A9 m c9, .bool false] w4 W := fun W h => (Gp.drew w4).trans h
  have HDR := Lib.hid hdr
  clear hdr
  refine factWalkG_cons (fun W hW hf K hK => ?_) (fun x0 => ?_)
  · skip
    refine ⟨by kernel_rfl, ?_⟩
    gi_step
    exact hK _ _ (Gp.refl _) rfl trivial
  simp only [Act.put, List.setIfInBounds_toArray, List.set_cons_succ, List.set_cons_zero]
  refine factWalkG_cons (fun W hW hf K hK => ?_) (fun x1 => ?_)
  · skip
    refine ⟨by kernel_rfl, ?_⟩
    gi_step
    exact hK _ _ (Gp.alloc _ _) ⟨W.heap.size, rfl, (HDR.out W hW).fr.size, Blk.new _ _ _⟩ trivial
  simp only [Act.put, List.setIfInBounds_toArray, List.set_cons_succ, List.set_cons_zero]
  refine factWalkG_cons (fun W hW hf K hK => ?_) (fun x2 => ?_)
  · skip
    refine ⟨by kernel_rfl, ?_⟩
    gi_step
    exact hK _ _ (Gp.refl _) rfl trivial
  simp only [Act.put, List.setIfInBounds_toArray, List.set_cons_succ, List.set_cons_zero]
  refine factWalkG_cons (fun W hW hf K hK => ?_) (fun x3 => ?_)
  · skip
    have e2 : x2 = .pointer (some ⟨h, 0, none⟩) := hf 2 (by omega) (by kernel_rfl)
    subst e2
    refine ⟨by kernel_rfl, ?_⟩
    gi_step
    exact hK _ _ (Gp.refl _) rfl trivial
  simp only [Act.put, List.setIfInBounds_toArray, List.set_cons_succ, List.set_cons_zero]
  refine factWalkG_cons (fun W hW hf K hK => ?_) (fun x4 => ?_)
  · skip
    have e3 : x3 = .pointer (some ⟨h, 0, none⟩) := hf 3 (by omega) (by kernel_rfl)
    subst e3
    refine ⟨by kernel_rfl, ?_⟩
    gi_step
    exact hK _ _ (Gp.refl _) rfl trivial
  simp only [Act.put, List.setIfInBounds_toArray, List.set_cons_succ, List.set_cons_zero]
  refine factWalkG_cons (fun W hW hf K hK => ?_) (fun x5 => ?_)
  · skip
    have e4 : x4 = .pointer (some ⟨h, 1, none⟩) := hf 4 (by omega) (by kernel_rfl)
    subst e4
    have q1 : W.cell? ⟨h, 1, none⟩ = some (.slice A3 T.length c3) := (HB.out.fr (HDR.out W hW).fr (fun e => by have e2 : w4.heap.size ≤ h := e; have := HH4.out; omega)).cell 1
    refine ⟨by kernel_rfl, ?_⟩
    gi_step
    exact hK _ _ (Gp.refl _) rfl trivial
  simp only [Act.put, List.setIfInBounds_toArray, List.set_cons_succ, List.set_cons_zero]
  refine factWalkG_cons (fun W hW hf K hK => ?_) (fun x6 => ?_)
  · skip
    obtain ⟨g1, e1, l1, k1⟩ : ∃ b : Nat, x1 = .slice (some ⟨b, 0, none⟩) 0 0 ∧ w4.heap.size ≤ b ∧ Blk W b 75 #[] := hf 1 (by omega) (by kernel_rfl)
    have e5 : x5 = .slice A3 T.length c3 := hf 5 (by omega) (by kernel_rfl)
    subst e1 e5
    have HO6 := own_fr HO.out (HDR.out W hW).fr (fun q hq e => by have e2 : w4.heap.size ≤ q := e; have := (World.ownsRow.lt HO.out q hq).2; omega)
    refine ⟨by kernel_rfl, ?_⟩
    obtain ⟨A6, c6, w6, r6, o6, f6, z6⟩ := run_app0 (P := Try.prog) W w4.heap.size 38 38 38 75 i0 _ 4 48 Try.underlying38 hi hz0 hz1 hz2 rfl g1 l1 k1 _ T.length (dcells E) (src_own Try.underlying38 HO6 (dcells_one E)) (by omega) (by unfold maxLen; omega) (Nat.le_trans l1 (Nat.le_of_lt k1.lt))
    refine operIn_app (.tmp 19) (.tmp 23) 38 38 rfl (.slice (some ⟨g1, 0, none⟩) 0 0) (.slice A3 T.length c3) rfl rfl r6 (by rfl) ?_
    exact hK _ _ (Gp.of f6) ⟨A6, c6, rfl, o6, z6⟩ trivial
  simp only [Act.put, List.setIfInBounds_toArray, List.set_cons_succ, List.set_cons_zero]
  refine factWalkG_cons (fun W hW hf K hK => ?_) (fun x7 => ?_)
  · skip
    have hM := M4.out.fr (HDR.out W hW).fr (fun e => by have e2 : w4.heap.size ≤ w.heap.size := e; have := M4.out.lt; omega)
    have m0 : W.cell? ⟨w.heap.size, 0, none⟩ = some (.int .i64 (f : Nat)) := hM.cell 0
    have m1 : W.cell? ⟨w.heap.size, 1, none⟩ = some (.int .i64 (t : Nat)) := hM.cell 1
    have m2 : W.cell? ⟨w.heap.size, 2, none⟩ = some (.slice A9 m c9) := hM.cell 2
    refine ⟨by kernel_rfl, ?_⟩
    gi_step
    exact hK _ _ (Gp.refl _) rfl trivial
  simp only [Act.put, List.setIfInBounds_toArray, List.set_cons_succ, List.set_cons_zero]
  refine factWalkG_cons (fun W hW hf K hK => ?_) (fun x8 => ?_)
  · skip
    have e7 : x7 = .agg #[.int .i64 (f : Nat), .int .i64 (t : Nat), .slice A9 m c9] := hf 7 (by omega) (by kernel_rfl)
    subst e7
    refine ⟨by kernel_rfl, ?_⟩
    gi_step
    exact hK _ _ (Gp.refl _) rfl trivial
  simp only [Act.put, List.setIfInBounds_toArray, List.set_cons_succ, List.set_cons_zero]
  refine factWalkG_cons (fun W hW hf K hK => ?_) (fun x9 => ?_)
  · skip
    have e8 : x8 = .agg #[.int .i64 (f : Nat), .int .i64 (t : Nat), .slice A9 m c9, .bool false] := hf 8 (by omega) (by kernel_rfl)
    subst e8
    refine ⟨by kernel_rfl, ?_⟩
    gi_step
    exact hK _ _ (Gp.alloc _ _) ⟨W.heap.size, rfl, (HDR.out W hW).fr.size, Blk.new _ _ _⟩ trivial
  simp only [Act.put, List.setIfInBounds_toArray, List.set_cons_succ, List.set_cons_zero]
  refine factWalkG_cons (fun W hW hf K hK => ?_) (fun x10 => ?_)
  · skip
    obtain ⟨A6, c6, e6, o6, z6⟩ : ∃ A c, x6 = .slice A T.length c ∧ W.ownsRow w4.heap.size 75 4 (.slice A T.length c) T.length (dcells E) ∧ (T.length = 0 → c = 0) := hf 6 (by omega) (by kernel_rfl)
    obtain ⟨g9, e9, l9, k9⟩ : ∃ b : Nat, x9 = .slice (some ⟨b, 0, none⟩) 1 1 ∧ w4.heap.size ≤ b ∧ Blk W b 75 #[.int .i64 (f : Nat), .int .i64 (t : Nat), .slice A9 m c9, .bool false] := hf 9 (by omega) (by kernel_rfl)
    subst e6 e9
    refine ⟨by kernel_rfl, ?_⟩
    obtain ⟨v10, w10, r10, o10, f10⟩ := run_app_g (P := Try.prog) W w4.heap.size 38 38 38 75 i0 _ 48 Try.underlying38 hi hz0 hz1 hz2 rfl A6 T.length c6 (dcells E) o6 z6 _ [.int .i64 (f : Nat), .int .i64 (t : Nat), .slice A9 m c9, .bool false] (src_blk Try.underlying38 1 k9 rfl (by intro u hu; simp at hu; rcases hu with rfl | rfl | rfl | rfl <;> rfl)) (by omega) (by unfold maxLen; omega) (HDR.out W hW).fr.size
    obtain ⟨A10, c10, rfl, _, _⟩ := own_slice o10
    refine operIn_app (.tmp 24) (.tmp 27) 38 38 rfl (.slice A6 T.length c6) (.slice (some ⟨g9, 0, none⟩) 1 1) rfl rfl r10 (by rfl) ?_
    exact hK _ _ f10 ⟨A10, c10, rfl, o10⟩ trivial
  simp only [Act.put, List.setIfInBounds_toArray, List.set_cons_succ, List.set_cons_zero]
  refine factWalkG_nil (fun W hW hf hmet => ?_)
  have e0 : x0 = .pointer (some ⟨h, 0, none⟩) := hf 0 (by omega)
  have h10 := hf 10 (by omega)
  obtain ⟨A10, c10, e10, o10⟩ := h10
  have e10 : x10 = .slice A10 (T.length + 1) c10 := e10
  have o10 : W.ownsRow w4.heap.size 75 4 (.slice A10 (T.length + 1) c10) (T.length + 1) (dcells E ++ ([.int .i64 (f : Nat), .int .i64 (t : Nat), .slice A9 m c9, .bool false] : List Value)) := o10
  subst e0 e10
  have FW : Hid (Fr (fun q => w4.heap.size ≤ q) w4 W) := (HDR.out W hW).fr
  have O10 := Lib.hid o10
  have q1 : W.cell? ⟨h, 1, none⟩ = some (.slice A3 T.length c3) := (HB.out.fr FW.out (fun e => by have e2 : w4.heap.size ≤ h := e; have := HH4.out; omega)).cell 1
  have z1 := (HB.out.fr FW.out (fun e => by have e2 : w4.heap.size ≤ h := e; have := HH4.out; omega)).frozen 1
  clear hf hmet hW HDR o10
  change wpAnyIn _ _ _ _ _ _ 3 _ _ _
  refine wpAnyIn_ready (rs := [11]) (by kernel_rfl) (by simp) ?_
  refine AllReadyIn.cons rfl (fun K hK => ?_) AllReadyIn.nil
  go_simp
  refine hK _ _ ?_
  clear hK K
  change wpAnyIn _ _ _ _ _ _ 2 _ _ _
  refine wpAnyIn_ready (rs := [12]) (by kernel_rfl) (by simp) ?_
  refine AllReadyIn.cons rfl (fun K hK => ?_) AllReadyIn.nil
  go_simp
  refine hK _ _ ?_
  clear hK K
  change wpAnyIn _ _ _ _ _ _ 1 _ _ _
  refine wpAnyIn_ready (rs := [13]) (by kernel_rfl) (by simp) ?_
  refine AllReadyIn.cons rfl (fun K hK => ?_) AllReadyIn.nil
  go_simp
  refine hK _ _ ?_
  clear hK K
  change wpAnyIn _ _ _ _ _ _ 0 _ _ _
  refine wpAnyIn_done (by kernel_rfl) ?_ _
  try simp only [Act.put, List.setIfInBounds_toArray, List.set_cons_succ, List.set_cons_zero]
  go_upto_region 5 with fail
  refine abs_wp (fun W' => Hid (RefN W' h r (T ++ [⟨f, t, bs, true⟩])) ∧ Hid (Blk W' h 40 #[.int .i64 (r : Nat), .slice A10 (T.length + 1) c10]) ∧ Hid (Fr (fun q => q = h) w W')) ?_ ?_
  · have fs : Fr (fun q => q = h) W (W.setCell ⟨h, 1, none⟩ (.slice A10 (T.length + 1) c10)) := (Fr.refl (fun q => q = h) W).setCell (p := ⟨h, 1, none⟩) (fun _ => rfl) _
    have hbW := HB.out.fr FW.out (fun e => by have e2 : w4.heap.size ≤ h := e; have := HH4.out; omega)
    have hb' := hbW.set_ 1 (.slice A10 (T.length + 1) c10)
    have hof : ∀ {b : Nat} {e : TypeId} {s m : Nat} {v : Value} {xs : List Value}, e ≠ 40 → W.ownsRow b e s v m xs → (W.setCell ⟨h, 1, none⟩ (.slice A10 (T.length + 1) c10)).ownsRow b e s v m xs := fun he hv => own_off hv fs (fun q e => by have e' : q = h := e; subst e'; exact .inl ⟨_, _, hbW, he⟩)
    have hold : ∀ {m : Nat} {v : Value} {xs : List Value}, w4.ownsRow 0 5 1 v m xs → W.ownsRow 0 5 1 v m xs := fun hv => own_fr hv FW.out (fun q hq e => by have e2 : w4.heap.size ≤ q := e; have := (World.ownsRow.lt hv q hq).2; omega)
    have hln := HLN.out
    refine ⟨⟨A10, c10, E ++ [⟨⟨f, t, bs, true⟩, A9, c9⟩], ?_, ?_, ?_, fun e he => ?_⟩, hb', ((F4.out.mono (fun _ _ e => e.elim)).trans (FW.out) (fun _ _ e => e) |> fun (g : Fr (fun q => w4.heap.size ≤ q) w W) => (⟨g.os, g.tape, g.output, g.size, fun k hk _ => g.block k hk (fun e => by have e2 : w4.heap.size ≤ k := e; have := F4.out.size; omega)⟩ : Fr (fun q => q = h) w W)).trans fs (fun _ _ h => h)⟩
    · rw [List.length_append]
      exact hb'
    · rw [List.map_append, HE.out]
      rfl
    · rw [List.length_append]
      have hd : dcells (E ++ [⟨⟨f, t, bs, true⟩, A9, c9⟩]) = dcells E ++ ([.int .i64 (f : Nat), .int .i64 (t : Nat), .slice A9 m c9, .bool false] : List Value) := by
        unfold dcells
        rw [List.flatMap_append]
        subst hln
        rfl
      rw [hd]
      exact hof (by decide) (own_base (base' := 0) O10.out (fun _ _ => Nat.zero_le _))
    · rcases List.mem_append.1 he with h1 | h1
      · exact ⟨(HA.out e h1).1, hof (by decide) (hold (HA.out e h1).2)⟩
      · rw [List.mem_singleton.1 h1]
        subst hln
        exact ⟨⟨hf, ht, hm⟩, hof (by decide) (hold O4.out)⟩
  rintro w6 ⟨N6, B6, F6⟩
  clear HB HE HO HA O10 O4 q1 z1 HXL
  obtain ⟨TL, hTL⟩ : ∃ TL, T.length + 1 = TL := ⟨_, rfl⟩
  have q6 : w6.cell? ⟨h, 1, none⟩ = some (.slice A10 TL c10) := by rw [← hTL]; exact B6.out.cell 1
  have hwu : IntKind.u64.wrap ((TL : Nat) : Int) = ((TL : Nat) : Int) := by rw [wraps_u64 _ (by omega) (by omega)]
  have HTL := Lib.hid hTL
  clear hTL
  go_wp2_with fail
  go_ret2
  refine ⟨?_, N6.out, F6.out⟩
  rw [HTL.out]
  try rfl

set_option maxRecDepth 100000 in
set_option maxHeartbeats 4000000 in
theorem rput_full {w : World} {h r : Nat} {T : List Ms} (n : RefN w h r T) (hT : T.length ≤ 4000) (f t : Nat) (A : Option Addr) (m c : Nat) (hw : 32 ≤ wayN T f t) :
    Calls Try.prog 36 #[.pointer (some ⟨h, 0, none⟩), .agg #[.int .i64 (f : Nat), .int .i64 (t : Nat), .slice A m c]] w fun e w' => e = .returned (.tuple #[.int .u64 0, .int .i64 3]) ∧ Fr (fun _ => False) w w' := by
  have HN := Lib.hid n
  obtain ⟨wy, hwy⟩ : ∃ z, wayN T f t = z := ⟨_, rfl⟩
  have HWY := Lib.hid hwy
  have e32 : decide ((32 : Int) ≤ (wy : Int)) = true := decide_eq_true (by omega)
  clear n hwy hw
  go_enter Try.func36, Try.ntmps36
  go_upto_region 1 with fail
  refine abs_wp (fun W => Hid (RefN W h r T) ∧ Hid (Blk W w.heap.size 51 #[.int .i64 (f : Nat), .int .i64 (t : Nat), .slice A m c]) ∧ Hid (Fr (fun _ => False) w W)) ⟨HN.out.far ((Fr.refl _ _).alloc _), Blk.new _ _ _, (Fr.refl _ _).alloc _⟩ ?_
  rintro w1 ⟨N1, M1, F1⟩
  have m0 : w1.cell? ⟨w.heap.size, 0, none⟩ = some (.int .i64 (f : Nat)) := M1.out.cell 0
  have m1 : w1.cell? ⟨w.heap.size, 1, none⟩ = some (.int .i64 (t : Nat)) := M1.out.cell 1
  have HBT := Lib.hid (between_c N1.out (by omega) f t)
  rw [HWY.out] at HBT
  go_wp2_with fail
  refine HBT.out.mono ?_
  rintro e w2 ⟨rfl, f2⟩
  have F2 := Lib.hid (F1.out.trans f2 (fun _ _ h => h))
  clear f2 HBT m0 m1
  go_wp2_with fail
  go_ret2
  exact ⟨rfl, F2.out⟩
set_option maxRecDepth 100000 in
set_option maxHeartbeats 4000000 in
theorem rsend_of {w : World} {h r : Nat} {T : List Ms} (n : RefN w h r T) (f t : Int) (A : Option Addr) (m c : Nat) (Q : Int → Int → World → Prop) (hf : 1 ≤ f ∧ f ≤ (r : Nat)) (ht : 1 ≤ t ∧ t ≤ (r : Nat)) (hne : f ≠ t) (hm : m ≤ 16384)
    (hp : Calls Try.prog 36 #[.pointer (some ⟨h, 0, none⟩), .agg #[.int .i64 f, .int .i64 t, .slice A m c]] w fun e w' => ∃ i v, e = .returned (.tuple #[.int .u64 i, .int .i64 v]) ∧ Q i v w') :
    Calls Try.prog 24 #[.pointer (some ⟨h, 0, none⟩), .int .i64 f, .int .i64 t, .slice A m c] w fun e w' => ∃ i v, e = .returned (.tuple #[.int .u64 i, .int .i64 v]) ∧ Q i v w' := by
  obtain ⟨A1, c1, p0, p1, _⟩ := n.hd
  have HP := Lib.hid hp
  have d1 : decide (f < 1) = false := decide_eq_false (by omega)
  have d2 : decide (t < 1) = false := decide_eq_false (by omega)
  have d3 : decide (((r : Nat) : Int) < f) = false := decide_eq_false (by omega)
  have d4 : decide (((r : Nat) : Int) < t) = false := decide_eq_false (by omega)
  have d5 : (f == t) = false := beq_eq_false_iff_ne.2 hne
  have d6 : decide ((16384 : Int) < (m : Int)) = false := decide_eq_false (by omega)
  clear n hp hf ht hne p1
  go_enter Try.func24, Try.ntmps24
  go_wp2_with fail
  refine HP.out.mono ?_
  rintro e w2 ⟨i, v, rfl, hq⟩
  have HQ := Lib.hid hq
  clear hq
  go_wp2_with fail
  go_ret2
  exact ⟨i, v, rfl, HQ.out⟩
set_option maxRecDepth 100000 in
set_option maxHeartbeats 4000000 in
theorem rsend_long {w : World} {h r : Nat} {T : List Ms} (n : RefN w h r T) (f t : Int) (A : Option Addr) (m c : Nat) (hf : 1 ≤ f ∧ f ≤ (r : Nat)) (ht : 1 ≤ t ∧ t ≤ (r : Nat)) (hne : f ≠ t) (hm : 16384 < m) :
    Calls Try.prog 24 #[.pointer (some ⟨h, 0, none⟩), .int .i64 f, .int .i64 t, .slice A m c] w fun e w' => e = .returned (.tuple #[.int .u64 0, .int .i64 6]) ∧ w' = w := by
  obtain ⟨A1, c1, p0, p1, _⟩ := n.hd
  have d1 : decide (f < 1) = false := decide_eq_false (by omega)
  have d2 : decide (t < 1) = false := decide_eq_false (by omega)
  have d3 : decide (((r : Nat) : Int) < f) = false := decide_eq_false (by omega)
  have d4 : decide (((r : Nat) : Int) < t) = false := decide_eq_false (by omega)
  have d5 : (f == t) = false := beq_eq_false_iff_ne.2 hne
  have d6 : decide ((16384 : Int) < (m : Int)) = true := decide_eq_true (by omega)
  clear n hf ht hne p1
  go_enter Try.func24, Try.ntmps24
  go_wp2_with fail
  go_ret2
  exact ⟨rfl, rfl⟩
set_option maxRecDepth 100000 in
set_option maxHeartbeats 4000000 in
theorem rsend_bad {w : World} {h r : Nat} {T : List Ms} (n : RefN w h r T) (f t : Int) (A : Option Addr) (m c : Nat) (hbad : ¬ ((1 ≤ f ∧ f ≤ (r : Nat)) ∧ (1 ≤ t ∧ t ≤ (r : Nat)) ∧ f ≠ t)) :
    Calls Try.prog 24 #[.pointer (some ⟨h, 0, none⟩), .int .i64 f, .int .i64 t, .slice A m c] w fun e w' => e = .returned (.tuple #[.int .u64 0, .int .i64 1]) ∧ w' = w := by
  obtain ⟨A1, c1, p0, p1, _⟩ := n.hd
  clear n p1
  by_cases h1 : f < 1
  · have d1 : decide (f < 1) = true := decide_eq_true h1
    clear hbad
    go_enter Try.func24, Try.ntmps24
    go_wp2_with fail
    go_ret2
    exact ⟨rfl, rfl⟩
  have d1 : decide (f < 1) = false := decide_eq_false h1
  by_cases h2 : t < 1
  · have d2 : decide (t < 1) = true := decide_eq_true h2
    clear hbad
    go_enter Try.func24, Try.ntmps24
    go_wp2_with fail
    go_ret2
    exact ⟨rfl, rfl⟩
  have d2 : decide (t < 1) = false := decide_eq_false h2
  by_cases h3 : ((r : Nat) : Int) < f
  · have d3 : decide (((r : Nat) : Int) < f) = true := decide_eq_true h3
    clear hbad
    go_enter Try.func24, Try.ntmps24
    go_wp2_with fail
    go_ret2
    exact ⟨rfl, rfl⟩
  have d3 : decide (((r : Nat) : Int) < f) = false := decide_eq_false h3
  by_cases h4 : ((r : Nat) : Int) < t
  · have d4 : decide (((r : Nat) : Int) < t) = true := decide_eq_true h4
    clear hbad
    go_enter Try.func24, Try.ntmps24
    go_wp2_with fail
    go_ret2
    exact ⟨rfl, rfl⟩
  have d4 : decide (((r : Nat) : Int) < t) = false := decide_eq_false h4
  obtain rfl : f = t := by
    by_cases h5 : f = t
    · exact h5
    · exact absurd ⟨⟨by omega, by omega⟩, ⟨by omega, by omega⟩, h5⟩ hbad
  have d5 : (f == f) = true := beq_self_eq_true f
  clear hbad
  go_enter Try.func24, Try.ntmps24
  go_wp2_with fail
  go_ret2
  exact ⟨rfl, rfl⟩
set_option maxRecDepth 100000 in
set_option maxHeartbeats 4000000 in
theorem rdouble_of {w : World} {h r id : Nat} {T : List Ms} {x : Ms} (n : RefN w h r T) (hT : T.length ≤ 4000) (hx : lookT T id = some x) (Q : Int → Int → World → Prop)
    (hp : ∀ W A c, RefN W h r T → Rd W A x.bs.length (bv x.bs) → Fr (fun _ => False) w W → Calls Try.prog 36 #[.pointer (some ⟨h, 0, none⟩), .agg #[.int .i64 (x.f : Nat), .int .i64 (x.t : Nat), .slice A x.bs.length c]] W fun e w' => ∃ i v, e = .returned (.tuple #[.int .u64 i, .int .i64 v]) ∧ Q i v w') :
    Calls Try.prog 26 #[.pointer (some ⟨h, 0, none⟩), .int .u64 (id : Nat)] w fun e w' => ∃ i v, e = .returned (.tuple #[.int .u64 i, .int .i64 v]) ∧ Q i v w' := by
  have HN := Lib.hid n
  have HA := Lib.hid (rat_yes n hT hx)
  have HP := Lib.hid hp
  clear n hx hp
  go_enter Try.func26, Try.ntmps26
  go_wp2_with fail
  refine HA.out.mono ?_
  rintro e w2 ⟨A, c, rfl, o2, f2⟩
  have O2 := Lib.hid o2
  have F2 := Lib.hid f2
  clear o2 f2
  go_upto_region 2 with fail
  refine abs_wp (fun W => Hid (RefN W h r T) ∧ Hid (Blk W w2.heap.size 51 #[.int .i64 (x.f : Nat), .int .i64 (x.t : Nat), .slice A x.bs.length c]) ∧ Hid (W.ownsRow 0 5 1 (.slice A x.bs.length c) x.bs.length (bv x.bs)) ∧ Hid (Fr (fun _ => False) w W))
    ⟨(HN.out.far F2.out).far ((Fr.refl _ _).alloc _), Blk.new _ _ _, own_fa O2.out ((Fr.refl _ _).alloc _), F2.out.alloc _⟩ ?_
  rintro w3 ⟨N3, K3, O3, F3⟩
  clear O2 F2
  have HC := Lib.hid (HP.out w3 A c N3.out (Rd.of_own O3.out) F3.out)
  go_wp2_with (first
    | (refine wpList_load_all rfl 51 _ rfl w2.heap.size rfl K3.out _ Try.underlying51 rfl tMsg_size ?_))
  refine HC.out.mono ?_
  rintro e w4 ⟨i, v, rfl, hq⟩
  have HQ := Lib.hid hq
  clear hq
  go_wp2_with fail
  go_ret2
  exact ⟨i, v, rfl, HQ.out⟩
set_option maxRecDepth 100000 in
set_option maxHeartbeats 4000000 in
theorem rdouble_no {w : World} {h r id : Nat} {T : List Ms} (n : RefN w h r T) (hT : T.length ≤ 4000) (hid : id < 18446744073709551616) (hx : lookT T id = none) :
    Calls Try.prog 26 #[.pointer (some ⟨h, 0, none⟩), .int .u64 (id : Nat)] w fun e w' => e = .returned (.tuple #[.int .u64 0, .int .i64 4]) ∧ Fr (fun _ => False) w w' := by
  have HA := Lib.hid (rat_no n hT hid hx)
  clear n hx
  go_enter Try.func26, Try.ntmps26
  go_wp2_with fail
  refine HA.out.mono ?_
  rintro e w2 ⟨rfl, f2⟩
  have F2 := Lib.hid f2
  clear f2
  go_wp2_with fail
  go_ret2
  exact ⟨rfl, F2.out.alloc _⟩
end Go.Proofs.Ytpgklhbbjbdejaa
