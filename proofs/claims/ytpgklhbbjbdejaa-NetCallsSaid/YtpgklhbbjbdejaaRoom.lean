/-
  THE WALK of 'tidewracklaw22.NetRoom'. Written by gen_room.py.
-/
import Derived.Test.YtpgklhbbjbdejaaRmA
import Derived.Deep.CutRange
namespace Go.Proofs.Ytpgklhbbjbdejaa
set_option linter.unusedSimpArgs false
set_option linter.unusedVariables false
open Go Go.RowKit Go.Maps

theorem xcells {W : World} {A : Option Addr} {n : Nat} {xs : List Cx} {k : Nat} (hr : RdC W A n xs) (hk : k < n) : ∃ b off x, A = some ⟨b, off, none⟩ ∧ x ∈ xs ∧ W.cell? ⟨b, off + k * 5, none⟩ = some (.int .i64 x.d) ∧ W.cell? ⟨b, off + k * 5 + 1, none⟩ = some (.int .i64 x.a) ∧
    W.cell? ⟨b, off + k * 5 + 2, none⟩ = some (.int .i64 x.b) ∧ W.cell? ⟨b, off + k * 5 + 3, none⟩ = some (.int .u64 (x.id : Nat)) ∧ W.cell? ⟨b, off + k * 5 + 4, none⟩ = some (.slice x.A x.m x.c) := by
  obtain ⟨b, off, rfl, h⟩ := hr.2 (by omega)
  have hk2 : k < xs.length := by rw [hr.1]; exact hk
  obtain ⟨h0, h1, h2, h3, h4⟩ := h k hk2
  exact ⟨b, off, xs[k], rfl, List.getElem_mem _, h0, h1, h2, h3, h4⟩
theorem cell_fa {W W' : World} {p : Addr} {v : Value} (h : W.cell? p = some v) (f : Fr (fun _ => False) W W') : W'.cell? p = some v := by
  have hlt : p.block < W.heap.size := by
    rcases Nat.lt_or_ge p.block W.heap.size with h' | h'
    · exact h'
    · exfalso
      have : W.heap[p.block]? = none := by simp [h']
      simp [World.cell?, this] at h
  rw [f.cell hlt (fun h => h)]
  exact h
theorem rdc_far {W W' : World} {A : Option Addr} {n : Nat} {xs : List Cx} (hr : RdC W A n xs) (hW : Fr (fun _ => False) W W') : RdC W' A n xs := ⟨hr.1, fun hp => by
  obtain ⟨b, off, h1, h2⟩ := hr.2 hp
  exact ⟨b, off, h1, fun k h => ⟨cell_fa (h2 k h).1 hW, cell_fa (h2 k h).2.1 hW, cell_fa (h2 k h).2.2.1 hW, cell_fa (h2 k h).2.2.2.1 hW, cell_fa (h2 k h).2.2.2.2 hW⟩⟩⟩
/-- Between the calls: a net of the call's own. -/
structure RmS (w : World) (b0 g mb r i : Nat) (T : List Ms) (W : World) : Prop where
  fr : Fr (fun _ => False) w W
  net : NetW W b0 g mb r T i
  lo : w.heap.size ≤ g ∧ w.heap.size ≤ mb
theorem RmS.far {w W W' : World} {b0 g mb r i : Nat} {T : List Ms} (h : RmS w b0 g mb r i T W) (f : Fr (fun _ => False) W W') : RmS w b0 g mb r i T W' := ⟨h.fr.trans f (fun _ _ e => e), h.net.far f, h.lo⟩
theorem RmS.gm {w W W' : World} {b0 g mb r i j : Nat} {T T2 : List Ms} (h : RmS w b0 g mb r i T W) (f : Fr (Gm g mb) W W') (k : NetW W' b0 g mb r T2 j) : RmS w b0 g mb r j T2 W' :=
  ⟨h.fr.trans f (fun q hq e => by have := h.lo; rcases e with e | e <;> omega), k, h.lo⟩
theorem RmS.glt {w W : World} {b0 g mb r i : Nat} {T : List Ms} (h : RmS w b0 g mb r i T W) : g < W.heap.size ∧ mb < W.heap.size := by
  have h1 := h.net.gb
  have h2 := h.net.mbb
  have h3 := h.net.sz
  omega
set_option maxRecDepth 100000 in
set_option maxHeartbeats 40000000 in
theorem netRoom_c (w : World) (r qf qt : Int) (A : Option Addr) (n c : Nat) (xs : List Cx) (Ab : Option Addr) (lb cb : Nat) (bs : List UInt8) (hr : RdC w A n xs) (hok : ∀ x ∈ xs, x.Ok w) (hn : n ≤ 140737488355328) (hrb : Rd w Ab lb (bv bs)) :
    Calls Try.prog 7 #[.int .i64 r, .slice A n c, .int .i64 qf, .int .i64 qt, .slice Ab lb cb] w fun e w' => e = .returned (.bool true) ∧ Fr (fun _ => False) w w' := by
  have HRB := Lib.hid hrb
  have HM : Hid (∀ W, Fr (fun _ => False) w W → Calls Try.prog 10 #[.slice A n c] W fun e w' => (e = .returned (.bool true) ∨ (e = .returned (.bool false) ∧ n ≤ 400)) ∧ w' = W) := fun W hW => many_c W A n c xs (rdc_far hr hW) (fun x hx => (hok x hx).m1) hn
  have HR := Lib.hid hr
  have HOK := Lib.hid hok
  clear hr hok hrb
  by_cases hr4 : 1 ≤ r ∧ r ≤ 4
  · obtain ⟨R, rfl⟩ := Int.eq_ofNat_of_zero_le (show 0 ≤ r by omega)
    have HN := Lib.hid (new_w w R (by omega) (by omega))
    have HR4 : Hid (R ≤ 4) := by show R ≤ 4; omega
    clear hr4
    go_enter Try.func7, Try.ntmps7
    go_wp2_with fail
    refine HN.out.mono ?_
    rintro e w1 ⟨mb, g, rfl, net, f1, h3, h4⟩
    obtain ⟨b0, hb0⟩ : ∃ b, w1.heap.size = b := ⟨_, rfl⟩
    rw [hb0] at net
    have S1 : Hid (RmS w b0 g mb R 0 [] w1) := ⟨f1, net, h3, h4⟩
    clear net f1 h3 h4 HN hb0
    go_upto_region 2 with fail
    go_cut [67] from 34 to 66 (fun v wx => (∃ X : Bool, v = .bool X ∧ (X = false → (lb ≤ 16384 ∧ 1 ≤ qf ∧ 1 ≤ qt ∧ qf ≤ (R : Int) ∧ qt ≤ (R : Int) ∧ qf ≠ qt ∧ n ≤ 400))) ∧ wx = w1)
    case first =>
      by_cases h0 : lb ≤ 16384
      · have e0 : decide ((16384 : Int) < (lb : Int)) = false := decide_eq_false (by omega)
        by_cases h1 : 1 ≤ qf
        · have e1 : decide (qf < 1) = false := decide_eq_false (by omega)
          by_cases h2 : 1 ≤ qt
          · have e2 : decide (qt < 1) = false := decide_eq_false (by omega)
            by_cases h3 : qf ≤ (R : Int)
            · have e3 : decide ((R : Int) < qf) = false := decide_eq_false (by omega)
              by_cases h4 : qt ≤ (R : Int)
              · have e4 : decide ((R : Int) < qt) = false := decide_eq_false (by omega)
                by_cases h6 : qf = qt
                · subst h6
                  have e6 : (qf == qf) = true := beq_self_eq_true qf
                  go_wp2_with fail
                  refine (HM.out w1 S1.out.fr).mono ?_
                  rintro e w2 ⟨rfl | ⟨rfl, hn4⟩, hw⟩
                  · rw [hw]
                    clear hw w2
                    go_wp2_with fail
                    go_meet
                    exact ⟨⟨true, rfl, fun h => by cases h⟩, rfl⟩
                  · rw [hw]
                    clear hw w2
                    go_wp2_with fail
                    go_meet
                    exact ⟨⟨true, rfl, fun h => by cases h⟩, rfl⟩
                · have e6 : (qf == qt) = false := beq_eq_false_iff_ne.2 h6
                  go_wp2_with fail
                  refine (HM.out w1 S1.out.fr).mono ?_
                  rintro e w2 ⟨rfl | ⟨rfl, hn4⟩, hw⟩
                  · rw [hw]
                    clear hw w2
                    go_wp2_with fail
                    go_meet
                    exact ⟨⟨true, rfl, fun h => by cases h⟩, rfl⟩
                  · rw [hw]
                    clear hw w2
                    go_wp2_with fail
                    go_meet
                    exact ⟨⟨false, rfl, fun _ => ⟨h0, h1, h2, h3, h4, h6, hn4⟩⟩, rfl⟩
              · have e4 : decide ((R : Int) < qt) = true := decide_eq_true (by omega)
                go_wp2_with fail
                refine (HM.out w1 S1.out.fr).mono ?_
                rintro e w2 ⟨rfl | ⟨rfl, hn4⟩, hw⟩
                · rw [hw]
                  clear hw w2
                  go_wp2_with fail
                  go_meet
                  exact ⟨⟨true, rfl, fun h => by cases h⟩, rfl⟩
                · rw [hw]
                  clear hw w2
                  go_wp2_with fail
                  go_meet
                  exact ⟨⟨true, rfl, fun h => by cases h⟩, rfl⟩
            · have e3 : decide ((R : Int) < qf) = true := decide_eq_true (by omega)
              go_wp2_with fail
              refine (HM.out w1 S1.out.fr).mono ?_
              rintro e w2 ⟨rfl | ⟨rfl, hn4⟩, hw⟩
              · rw [hw]
                clear hw w2
                go_wp2_with fail
                go_meet
                exact ⟨⟨true, rfl, fun h => by cases h⟩, rfl⟩
              · rw [hw]
                clear hw w2
                go_wp2_with fail
                go_meet
                exact ⟨⟨true, rfl, fun h => by cases h⟩, rfl⟩
          · have e2 : decide (qt < 1) = true := decide_eq_true (by omega)
            go_wp2_with fail
            refine (HM.out w1 S1.out.fr).mono ?_
            rintro e w2 ⟨rfl | ⟨rfl, hn4⟩, hw⟩
            · rw [hw]
              clear hw w2
              go_wp2_with fail
              go_meet
              exact ⟨⟨true, rfl, fun h => by cases h⟩, rfl⟩
            · rw [hw]
              clear hw w2
              go_wp2_with fail
              go_meet
              exact ⟨⟨true, rfl, fun h => by cases h⟩, rfl⟩
        · have e1 : decide (qf < 1) = true := decide_eq_true (by omega)
          go_wp2_with fail
          refine (HM.out w1 S1.out.fr).mono ?_
          rintro e w2 ⟨rfl | ⟨rfl, hn4⟩, hw⟩
          · rw [hw]
            clear hw w2
            go_wp2_with fail
            go_meet
            exact ⟨⟨true, rfl, fun h => by cases h⟩, rfl⟩
          · rw [hw]
            clear hw w2
            go_wp2_with fail
            go_meet
            exact ⟨⟨true, rfl, fun h => by cases h⟩, rfl⟩
      · have e0 : decide ((16384 : Int) < (lb : Int)) = true := decide_eq_true (by omega)
        go_wp2_with fail
        refine (HM.out w1 S1.out.fr).mono ?_
        rintro e w2 ⟨rfl | ⟨rfl, hn4⟩, hw⟩
        · rw [hw]
          clear hw w2
          go_wp2_with fail
          go_meet
          exact ⟨⟨true, rfl, fun h => by cases h⟩, rfl⟩
        · rw [hw]
          clear hw w2
          go_wp2_with fail
          go_meet
          exact ⟨⟨true, rfl, fun h => by cases h⟩, rfl⟩
    case rest =>
      obtain ⟨⟨X, rfl, hX⟩, hwx⟩ := hcut
      subst hwx
      cases X with
      | true =>
        clear hX
        go_wp2_with fail
        refine (awake_c wc).mono ?_
        rintro e w2 ⟨rfl, f2⟩
        have F2 : Hid (Fr (fun _ => False) w w2) := S1.out.fr.trans f2 (fun _ _ h => h)
        clear f2
        go_wp2_with fail
        go_ret
        exact ⟨rfl, F2.out⟩
      | false =>
        obtain ⟨hm, hf1, ht1, hf2, ht2, hft, hn4⟩ := hX rfl
        clear hX
        obtain ⟨F, rfl⟩ := Int.eq_ofNat_of_zero_le (show 0 ≤ qf by omega)
        obtain ⟨To, rfl⟩ := Int.eq_ofNat_of_zero_le (show 0 ≤ qt by omega)
        have HG : Hid ((1 ≤ F ∧ F ≤ R) ∧ (1 ≤ To ∧ To ≤ R) ∧ F ≠ To ∧ lb ≤ 16384) := ⟨by omega, by omega, by omega, hm⟩
        clear hm hf1 ht1 hf2 ht2 hft
        go_wp2_with fail
        go_loopw [13] (fun iv wr => ∃ k : Nat, k ≤ n ∧ iv = .int .i64 k ∧ Hid (∃ T, RmS w b0 g mb R k T wr)) (fun iv _ => n - (intOf iv).toNat)
        case atStart => exact ⟨0, Nat.zero_le _, rfl, _, S1.out⟩
        case round =>
          obtain ⟨k, hk, rfl, hst⟩ := hrel
          obtain ⟨T, st⟩ := hst.out
          have S2 := Lib.hid st
          clear hst S1 st
          by_cases hlt : k < n
          · obtain ⟨b, off, x, rfl, hxm, c0, c1, c2, c3, c4⟩ := xcells (rdc_far HR.out S2.out.fr) hlt
            have XO := Lib.hid (HOK.out x hxm)
            have C1 := Lib.hid c1
            have C2 := Lib.hid c2
            have C3 := Lib.hid c3
            have C4 := Lib.hid c4
            have hkn : (k : Int) < (n : Int) := by omega
            clear c1 c2 c3 c4 hxm
            by_cases h0 : x.d = 0
            · have e0 : (x.d == 0) = true := by rw [h0]; rfl
              go_upto_region 9 with fail
              have c1 := C1.out
              have c2 := C2.out
              have c4 := C4.out
              refine (wpIn_wide (n := 9)).1 ?_
              refine wpIn_region_quietHead (k := 16) (by kernel_rfl) (by kernel_rfl) ?_
              iterate 16
                refine quietWalk_cons (a' := ?_) (v := ?_) ?_ ?_ ?_
                rotate_left 2
                · intro K hK
                  gi_step
                  exact hK
                · exact rfl
              refine quietWalk_nil ?_
              change wpAnyIn _ _ _ _ _ _ 1 _ _ _
              refine wpAnyIn_ready (rs := [16]) (by kernel_rfl) (by simp) ?_
              refine AllReadyIn.cons rfl (fun K hK => ?_) AllReadyIn.nil
              have S3 := Lib.hid (S2.out.far (Fr.refl _ wr).drew)
              go_simp
              refine ⟨trivial, ?_⟩
              refine (callsIn_wide.2 (gw_send_any S3.out.net (by omega) HR4.out x.a x.b x.A x.m x.c x.bs (XO.out.rd.far S3.out.fr))).mono ?_
              rintro e w3 ⟨v, T2, rfl, n3, f3⟩
              have S4 := Lib.hid (S3.out.gm f3 n3)
              clear n3 f3 c1 c2 c4
              dsimp only
              refine hK _ _ ?_
              clear hK K
              change wpAnyIn _ _ _ _ _ _ 0 _ _ _
              refine wpAnyIn_done (by kernel_rfl) ?_ _
              try simp only [Act.put, List.setIfInBounds_toArray, List.set_cons_succ, List.set_cons_zero]
              go_wp2_with fail
              go_roundw
              case rel => exact ⟨k + 1, hlt, by go_num, T2, S4.out⟩
              case measure => simp [intOf]; omega
            · have e0 : (x.d == 0) = false := beq_eq_false_iff_ne.2 h0
              by_cases h1 : x.d = 1
              · have e1 : (x.d == 1) = true := by rw [h1]; rfl
                have c3 := C3.out
                go_wp2_with fail
                refine (gw_deliver_any S2.out.net (by omega) XO.out.i1).mono ?_
                rintro e w3 ⟨v, T2, rfl, n3, f3⟩
                have S4 := Lib.hid (S2.out.gm f3 n3)
                clear n3 f3
                go_wp2_with fail
                go_roundw
                case rel => exact ⟨k + 1, hlt, by go_num, T2, S4.out⟩
                case measure => simp [intOf]; omega
              · have e1 : (x.d == 1) = false := beq_eq_false_iff_ne.2 h1
                by_cases h3 : x.d = 3
                · have e3 : (x.d == 3) = true := by rw [h3]; rfl
                  have c3 := C3.out
                  go_wp2_with fail
                  refine (gw_double_any S2.out.net (by omega) XO.out.i1).mono ?_
                  rintro e w3 ⟨v, T2, rfl, n3, f3⟩
                  have S4 := Lib.hid (S2.out.gm f3 n3)
                  clear n3 f3
                  go_wp2_with fail
                  go_roundw
                  case rel => exact ⟨k + 1, hlt, by go_num, T2, S4.out⟩
                  case measure => simp [intOf]; omega
                · have e3 : (x.d == 3) = false := beq_eq_false_iff_ne.2 h3
                  go_wp2_with fail
                  go_roundw
                  case rel => exact ⟨k + 1, hlt, by go_num, T, S2.out.fr, S2.out.net.up (by omega), S2.out.lo⟩
                  case measure => simp [intOf]; omega
          · obtain rfl : k = n := by omega
            have LT := Lib.hid S2.out.glt
            have HLT := Lib.hid (gh_letters S2.out.net.at_ (by omega) LT.out.1 LT.out.2)
            go_wp2_with fail
            refine HLT.out.mono ?_
            rintro e w3 ⟨vl, rfl, ol, f3⟩
            obtain ⟨Al, cl, rfl, hcl1, hcl2⟩ := own_slice ol
            have OL := Lib.hid ol
            have S3 := Lib.hid (S2.out.far f3)
            have HWY : Hid (((lids T).filter (mW T F To)).length = wayN T F To) := way_ids T F To
            have HLL : Hid ((lids T).length ≤ 4000) := by
              have h1 : (lids T).length ≤ T.length := by
                have := List.length_filter_le (fun id => (lookT T id).isSome) (List.range' 1 T.length)
                rw [List.length_range'] at this
                exact this
              have h2 := S2.out.net.le
              show _ ≤ _
              omega
            obtain ⟨L, hL⟩ : ∃ L, (lids T).length = L := ⟨_, rfl⟩
            rw [hL] at OL HLL ⊢
            have HL4 : L ≤ 4000 := HLL.out
            have HLE := Lib.hid hL
            clear hL ol f3 HLT LT HLL S2 hcl1 hcl2
            go_wp2_with fail
            go_loopw [15, 16, 17] (fun wv fv iv wr => ∃ q m fi : Nat, iv = .int .i64 q ∧ q ≤ L ∧ wv = .int .i64 m ∧ m ≤ q ∧ fv = .int .u64 fi ∧ Hid (m = (((lids T).take q).filter (mW T F To)).length) ∧ Hid (0 < m → ∃ x, lookT T fi = some x ∧ x.f = F ∧ x.t = To) ∧ Hid (Fr (fun _ => False) w3 wr)) (fun _ _ iv _ => L - (intOf iv).toNat)
            case atStart => exact ⟨0, 0, 0, rfl, Nat.zero_le _, rfl, Nat.zero_le _, rfl, by simp [Hid], fun h => absurd h (by decide), Fr.refl _ _⟩
            case round =>
              obtain ⟨q, m, fi, rfl, hq, rfl, hmq, rfl, hm, hfi, hh⟩ := hrel
              by_cases hlt : q < L
              · obtain ⟨id, hid⟩ : ∃ id, (lids T)[q]? = some id := ⟨_, List.getElem?_eq_getElem (by rw [HLE.out]; exact hlt)⟩
                obtain ⟨x, hx⟩ := Option.isSome_iff_exists.1 (mem_lids.1 (List.mem_of_getElem? hid))
                obtain ⟨bl, cl', e', _, _, hcl⟩ := own_cells OL.out (by omega)
                injection e' with e1 e2 e3
                subst e1 e3
                have hc := fun j v (hj : j < 4) (h : (lcell T id)[j]? = some v) => cell_fa (hcl (q * 4 + j) v ((lcells_at T _ q id hid j hj).trans h)) hh.out
                have hce : lcell T id = [.int .u64 (id : Nat), .int .i64 (x.f : Nat), .int .i64 (x.t : Nat), .int .i64 (x.bs.length : Nat)] := by unfold lcell; rw [hx]
                rw [hce] at hc
                have d0 : wr.cell? ⟨bl, q * 4, none⟩ = some (.int .u64 (id : Nat)) := hc 0 _ (by omega) rfl
                have d1 : wr.cell? ⟨bl, q * 4 + 1, none⟩ = some (.int .i64 (x.f : Nat)) := hc 1 _ (by omega) rfl
                have d2 : wr.cell? ⟨bl, q * 4 + 2, none⟩ = some (.int .i64 (x.t : Nat)) := hc 2 _ (by omega) rfl
                have HTC := Lib.hid (take_cnt (p := mW T F To) hid)
                have HMW : Hid (mW T F To id = (x.f == F && x.t == To)) := by unfold mW; rw [hx]; rfl
                have HX := Lib.hid hx
                have HF2 := Lib.hid hh
                clear hce hc hcl hx hid hh
                by_cases q1 : x.f = F
                · have e1 : (((x.f : Nat) : Int) == ((F : Nat) : Int)) = true := beq_iff_eq.2 (by rw [q1])
                  by_cases q2 : x.t = To
                  · have e2 : (((x.t : Nat) : Int) == ((To : Nat) : Int)) = true := beq_iff_eq.2 (by rw [q2])
                    have HQ : Hid (x.f = F ∧ x.t = To) := ⟨q1, q2⟩
                    have hm2 : Hid (m + 1 = (((lids T).take (q + 1)).filter (mW T F To)).length) := by
                      rw [HTC.out, HMW.out, q1, q2]
                      simp only [beq_self_eq_true, Bool.and_self, if_true]
                      exact congrArg (· + 1) hm.out
                    clear q1 q2 HTC HMW
                    by_cases q3 : m = 0
                    · have e3 : (((m : Nat) : Int) == 0) = true := beq_iff_eq.2 (by omega)
                      clear q3
                      go_wp2_with fail
                      go_roundw
                      case rel => exact ⟨q + 1, m + 1, id, by go_num, hlt, by go_num, by omega, rfl, hm2, fun _ => ⟨x, HX.out, HQ.out⟩, HF2.out⟩
                      case measure => simp [intOf]; omega
                    · have e3 : (((m : Nat) : Int) == 0) = false := beq_eq_false_iff_ne.2 (by omega)
                      have q4 : 0 < m := by omega
                      clear q3
                      go_wp2_with fail
                      go_roundw
                      case rel => exact ⟨q + 1, m + 1, fi, by go_num, hlt, by go_num, by omega, rfl, hm2, fun _ => hfi.out q4, HF2.out⟩
                      case measure => simp [intOf]; omega
                  · have e2 : (((x.t : Nat) : Int) == ((To : Nat) : Int)) = false := beq_eq_false_iff_ne.2 (by omega)
                    have hm2 : Hid (m = (((lids T).take (q + 1)).filter (mW T F To)).length) := by
                      rw [HTC.out, HMW.out, beq_eq_false_iff_ne.2 q2, Bool.and_false, if_neg (by decide)]
                      exact hm.out
                    clear q1 q2 HTC HMW
                    go_wp2_with fail
                    go_roundw
                    case rel => exact ⟨q + 1, m, fi, by go_num, hlt, rfl, by omega, rfl, hm2, hfi, HF2.out⟩
                    case measure => simp [intOf]; omega
                · have e1 : (((x.f : Nat) : Int) == ((F : Nat) : Int)) = false := beq_eq_false_iff_ne.2 (by omega)
                  have hm2 : Hid (m = (((lids T).take (q + 1)).filter (mW T F To)).length) := by
                    rw [HTC.out, HMW.out, beq_eq_false_iff_ne.2 q1, Bool.false_and, if_neg (by decide)]
                    exact hm.out
                  clear q1 HTC HMW
                  go_wp2_with fail
                  go_roundw
                  case rel => exact ⟨q + 1, m, fi, by go_num, hlt, rfl, by omega, rfl, hm2, hfi, HF2.out⟩
                  case measure => simp [intOf]; omega
              · obtain rfl : q = L := by omega
                have HM2 : Hid (m = wayN T F To ∧ m ≤ 32) := by
                  have h1 := hm.out
                  rw [← HLE.out, List.take_length, HWY.out] at h1
                  obtain ⟨lk, D, n, _, _, _, _, _, _, _, _, h2⟩ := S3.out.net.ex
                  have h3 := (h2 F To (by have := HG.out; have := HR4.out; omega) (by have := HG.out; have := HR4.out; omega)).2
                  exact ⟨h1, by omega⟩
                have S4 := Lib.hid (S3.out.far hh.out)
                have hm32 : m ≤ 32 := HM2.out.2
                clear hm hh S3 HWY OL HLE HL4
                have hm0 : 0 ≤ m := Nat.zero_le _
                clear hmq hq hlt
                have S5 : Hid (∃ T2, RmS w b0 g mb R (k + m) T2 wr ∧ wayN T2 F To = m ∧ (0 < m → ∃ x, lookT T2 fi = some x ∧ x.f = F ∧ x.t = To)) := ⟨T, ⟨S4.out.fr, S4.out.net.up (by omega), S4.out.lo⟩, HM2.out.1.symm, hfi.out⟩
                clear S4 HM2 hfi
                go_wp2_with fail
                go_loopw [15, 16] (fun wv fv wr => ∃ m fi : Nat, wv = .int .i64 m ∧ m ≤ 32 ∧ fv = .int .u64 fi ∧ Hid (∃ T2, RmS w b0 g mb R (k + m) T2 wr ∧ wayN T2 F To = m ∧ (0 < m → ∃ x, lookT T2 fi = some x ∧ x.f = F ∧ x.t = To))) (fun wv _ _ => 32 - (intOf wv).toNat)
                case atStart => exact ⟨m, fi, rfl, hm32, rfl, S5⟩
                case round =>
                  obtain ⟨m, fi, rfl, hm, rfl, hh⟩ := hrel
                  clear S5
                  obtain ⟨T2, S, hw, hl⟩ := hh.out
                  have S6 := Lib.hid S
                  have HL := Lib.hid hl
                  have HW := Lib.hid hw
                  clear hh S hl hw
                  by_cases hlt : m < 32
                  · have HS := Lib.hid (gw_send S6.out.net (by omega) HR4.out F To HG.out.1 HG.out.2.1 HG.out.2.2.1 Ab lb cb bs (HRB.out.far S6.out.fr) HG.out.2.2.2 (by rw [HW.out]; exact hlt))
                    have HA : Hid (wayN (T2 ++ [⟨F, To, bs, true⟩]) F To = m + 1) := by
                      rw [wayN_add, HW.out]
                      have : isW F To ⟨F, To, bs, true⟩ = true := by simp [isW]
                      rw [this]
                      rfl
                    have hT4 : T2.length ≤ 4000 := by have := S6.out.net.le; omega
                    go_wp2_with fail
                    refine HS.out.mono ?_
                    rintro e w6 ⟨rfl, n6, f6⟩
                    have S7 := Lib.hid (S6.out.gm f6 n6)
                    clear n6 f6 HS
                    by_cases q3 : m = 0
                    · have e3 : (((m : Nat) : Int) == 0) = true := beq_iff_eq.2 (by omega)
                      clear q3
                      go_wp2_with fail
                      go_roundw
                      case rel => exact ⟨m + 1, T2.length + 1, by go_num, hlt, rfl, _, S7.out, HA.out, fun _ => ⟨_, lookT_new T2 _ rfl, rfl, rfl⟩⟩
                      case measure => simp [intOf]; omega
                    · have e3 : (((m : Nat) : Int) == 0) = false := beq_eq_false_iff_ne.2 (by omega)
                      have q4 : 0 < m := by omega
                      clear q3
                      go_wp2_with fail
                      go_roundw
                      case rel =>
                        refine ⟨m + 1, fi, by go_num, hlt, rfl, _, S7.out, HA.out, fun _ => ?_⟩
                        obtain ⟨x, h1, h2⟩ := HL.out q4
                        exact ⟨x, lookT_add h1, h2⟩
                      case measure => simp [intOf]; omega
                  · obtain rfl : m = 32 := by omega
                    obtain ⟨x, hx, hxf, hxt⟩ := HL.out (by decide)
                    obtain ⟨fk, rfl, hk1, hk2⟩ := lookT_some hx
                    have hfk : fk < T2.length := (List.getElem?_eq_some_iff.1 hk1).1
                    have hT4 : T2.length ≤ 4000 := by have := S6.out.net.le; omega
                    have H1 := Lib.hid (gw_send_full S6.out.net HR4.out F To HG.out.1 HG.out.2.1 HG.out.2.2.1 Ab lb cb HG.out.2.2.2 (by rw [HW.out]; decide))
                    have HX : Hid (lookT T2 (fk + 1) = some x ∧ T2[fk]? = some x ∧ x.live = true ∧ x.f = F ∧ x.t = To) := ⟨hx, hk1, hk2, hxf, hxt⟩
                    clear hx hk1 hk2 hxf hxt hlt hm
                    go_wp2_with fail
                    refine H1.out.mono ?_
                    rintro e w6 ⟨rfl, f6⟩
                    have S7 := Lib.hid (S6.out.far f6)
                    clear f6 H1 S6
                    have H2 := Lib.hid (gw_double_full S7.out.net (by omega) HX.out.1 (by rw [HX.out.2.2.2.1, HX.out.2.2.2.2, HW.out]; decide))
                    go_wp2_with fail
                    refine H2.out.mono ?_
                    rintro e w7 ⟨rfl, f7⟩
                    have S8 := Lib.hid (S7.out.far f7)
                    clear f7 H2 S7
                    have H3 := Lib.hid (gw_drop S8.out.net (by omega) (by omega) HX.out.1)
                    go_wp2_with fail
                    refine H3.out.mono ?_
                    rintro e w8 ⟨rfl, n8, f8⟩
                    have S9 := Lib.hid (S8.out.gm f8 n8)
                    clear f8 n8 H3 S8
                    obtain ⟨T3, hT3⟩ : ∃ T3, kill T2 fk x = T3 := ⟨_, rfl⟩
                    have HK : Hid (wayN T3 F To < 32) := by
                      have h1 := wayN_kill T2 fk x HX.out.2.1 HX.out.2.2.1 F To
                      rw [if_pos ⟨HX.out.2.2.2.1, HX.out.2.2.2.2⟩, HW.out, hT3] at h1
                      show _ < _
                      omega
                    rw [hT3] at S9
                    clear hT3 HX HW HL hfk hT4 T2
                    have hT4 : T3.length ≤ 4000 := by have := S9.out.net.le; omega
                    have H4 := Lib.hid (gw_send S9.out.net (by omega) HR4.out F To HG.out.1 HG.out.2.1 HG.out.2.2.1 Ab lb cb bs (HRB.out.far S9.out.fr) HG.out.2.2.2 HK.out)
                    go_wp2_with fail
                    refine H4.out.mono ?_
                    rintro e w9 ⟨rfl, n9, f9⟩
                    have S10 := Lib.hid (S9.out.gm f9 n9)
                    clear f9 n9 H4 S9
                    have H5 := Lib.hid (gh_at S10.out.net.at_ (by omega) (lookT_new T3 _ rfl))
                    go_wp2_with fail
                    refine H5.out.mono ?_
                    rintro e w10 ⟨A9, c9, rfl, o9, f9⟩
                    have F10 := Lib.hid (S10.out.fr.trans f9 (fun _ _ h => h))
                    have V5 := Lib.hid o9
                    clear f9 o9 H5 S10
                    dsimp only at V5 ⊢
                    go_upto_region 38 with fail
                    refine abs_wp (fun W => Hid (Fr (fun _ => False) w W) ∧ Hid (Blk W w10.heap.size 51 #[.int .i64 (F : Nat), .int .i64 (To : Nat), .slice A9 bs.length c9]) ∧ Hid (Rd W A9 bs.length (bv bs))) ⟨F10.out.alloc _, Blk.new _ _ _, (Rd.of_own V5.out).far ((Fr.refl _ _).alloc _)⟩ ?_
                    rintro W6 ⟨F6, KM, RA⟩
                    have k1 := conv_str W6 A9 bs.length c9 bs RA.out
                    have k2 := conv_str W6 Ab lb cb bs (HRB.out.far F6.out)
                    have k3 : W6.cell? ⟨w10.heap.size, 2, none⟩ = some (.slice A9 bs.length c9) := KM.out.cell 2
                    go_wp2_with fail
                    refine (awake_c W6).mono ?_
                    rintro e w11 ⟨rfl, f11⟩
                    have F11 := Lib.hid (F6.out.trans f11 (fun _ _ h => h))
                    clear f11
                    go_wp2_with fail
                    go_ret
                    exact ⟨rfl, F11.out⟩
  · have HN := Lib.hid (new_bad w r hr4)
    clear hr4
    go_enter Try.func7, Try.ntmps7
    go_wp2_with fail
    refine HN.out.mono ?_
    rintro e w1 ⟨rfl, hw⟩
    rw [hw]
    clear hw w1
    go_wp2_with fail
    refine (awake_c w).mono ?_
    rintro e w2 ⟨rfl, f2⟩
    have F2 := Lib.hid f2
    clear f2
    go_wp2_with fail
    go_ret
    exact ⟨rfl, F2.out⟩
end Go.Proofs.Ytpgklhbbjbdejaa
