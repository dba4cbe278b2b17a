/-
  THE WALK of 'tidewracklaw22.NetBag'. Written by gen_bag.py.
-/
import Derived.Test.YtpgklhbbjbdejaaBgB
import Derived.Test.YtpgklhbbjbdejaaPar4
namespace Go.Proofs.Ytpgklhbbjbdejaa
set_option linter.unusedSimpArgs false
set_option linter.unusedVariables false
open Go Go.RowKit Go.Maps

def b39X (bl bL bc L C2 cl cL p9 at9 id f t m c9 gc9 : Nat) (A9 gA : Option Addr) (i : Nat) (v : Value) (W : World) : Prop := match i with
  | 0 => v = .slice (some ⟨bl, 0, none⟩) L cl
  | 1 => v = .int .i64 (p9 : Nat)
  | 2 => v = .pointer (some ⟨bl, p9 * 4, none⟩)
  | 3 => v = .pointer (some ⟨bl, p9 * 4, none⟩)
  | 4 => v = .int .u64 (id : Nat)
  | 5 => v = .slice (some ⟨bL, 0, none⟩) C2 cL
  | 6 => v = .int .i64 (at9 : Nat)
  | 7 => v = .pointer (some ⟨bL, at9 * 4, none⟩)
  | 8 => v = .pointer (some ⟨bL, at9 * 4, none⟩)
  | 9 => v = .int .u64 (id : Nat)
  | 10 => v = .bool true
  | 11 => v = .bool true
  | 12 => v = .agg #[.int .i64 (f : Nat), .int .i64 (t : Nat), .slice A9 m c9]
  | 13 => v = .slice (some ⟨bc, 0, none⟩) L L
  | 14 => v = .int .i64 (p9 : Nat)
  | 15 => v = .pointer (some ⟨bc, p9 * 3, none⟩)
  | 16 => v = .agg #[.int .i64 (f : Nat), .int .i64 (t : Nat), .slice gA m gc9]
  | 17 => v = .bool true
  | 18 => v = .bool false
  | _ => True
theorem b39X_far {bl bL bc L C2 cl cL p9 at9 id f t m c9 gc9 : Nat} {A9 gA : Option Addr} {i : Nat} {v : Value} {W W' : World} (hg : Fr (fun _ => False) W W') (hx : b39X bl bL bc L C2 cl cL p9 at9 id f t m c9 gc9 A9 gA i v W) : b39X bl bL bc L C2 cl cL p9 at9 id f t m c9 gc9 A9 gA i v W' := by
  match i with
  | 0 => exact hx
  | 1 => exact hx
  | 2 => exact hx
  | 3 => exact hx
  | 4 => exact hx
  | 5 => exact hx
  | 6 => exact hx
  | 7 => exact hx
  | 8 => exact hx
  | 9 => exact hx
  | 10 => exact hx
  | 11 => exact hx
  | 12 => exact hx
  | 13 => exact hx
  | 14 => exact hx
  | 15 => exact hx
  | 16 => exact hx
  | 17 => exact hx
  | 18 => exact hx
  | (n + 19) => exact hx
set_option maxRecDepth 100000 in
set_option maxHeartbeats 40000000 in
theorem netBag_c (w : World) (r : Int) (A : Option Addr) (n c : Nat) (xs : List Cx) (Ao : Option Addr) (no co : Nat) (os : List Int) (hr : RdC w A n xs) (hok : ∀ x ∈ xs, x.Ok w) (hn : n ≤ 140737488355328) (hro : Rd w Ao no (os.map (Value.int .i64))) (hno : no ≤ 140737488355328) :
    Calls Try.prog 6 #[.int .i64 r, .slice A n c, .slice Ao no co] w fun e w' => e = .returned (.bool true) ∧ Fr (fun _ => False) w w' := by
  have HRO := Lib.hid hro
  have HM : Hid (∀ W, Fr (fun _ => False) w W → Calls Try.prog 10 #[.slice A n c] W fun e w' => (e = .returned (.bool true) ∨ (e = .returned (.bool false) ∧ n ≤ 400)) ∧ w' = W) := fun W hW => many_c W A n c xs (rdc_far hr hW) (fun x hx => (hok x hx).m1) hn
  have HR := Lib.hid hr
  have HOK := Lib.hid hok
  clear hr hok hro
  by_cases hr4 : 1 ≤ r ∧ r ≤ 4
  · obtain ⟨R, rfl⟩ := Int.eq_ofNat_of_zero_le (show 0 ≤ r by omega)
    have HN := Lib.hid (new_v w R (by omega) (by omega))
    have HR4 : Hid (R ≤ 4) := by show R ≤ 4; omega
    clear hr4
    go_enter Try.func6, Try.ntmps6
    go_wp2_with fail
    refine HN.out.mono ?_
    rintro e w1 ⟨mb, g, rfl, net, f1, h3, h4⟩
    have S1 : Hid (RvS w g mb R 0 [] w1) := ⟨f1, net, h3, h4⟩
    clear net f1 h3 h4 HN
    go_upto_region 2 with fail
    go_cut [41] from 31 to 40 (fun v wx => (∃ X : Bool, v = .bool X ∧ (X = false → no ≤ 400 ∧ n ≤ 400)) ∧ wx = w1)
    case first =>
      by_cases h0 : no ≤ 400
      · have e0 : decide ((400 : Int) < (no : Int)) = false := decide_eq_false (by omega)
        go_wp2_with fail
        refine (HM.out w1 S1.out.fr).mono ?_
        rintro e w2 ⟨rfl | ⟨rfl, hn4⟩, hw⟩
        · rw [hw]
          clear hw w2
          go_wp2_with fail
          go_meet
          exact ⟨⟨true, rfl, fun h => by cases h⟩, rfl⟩
        · rw [hw]
          clear hw w2
          go_wp2_with fail
          go_meet
          exact ⟨⟨false, rfl, fun _ => ⟨h0, hn4⟩⟩, rfl⟩
      · have e0 : decide ((400 : Int) < (no : Int)) = true := decide_eq_true (by omega)
        go_wp2_with fail
        refine (HM.out w1 S1.out.fr).mono ?_
        rintro e w2 ⟨rfl | ⟨rfl, hn4⟩, hw⟩
        · rw [hw]
          clear hw w2
          go_wp2_with fail
          go_meet
          exact ⟨⟨true, rfl, fun h => by cases h⟩, rfl⟩
        · rw [hw]
          clear hw w2
          go_wp2_with fail
          go_meet
          exact ⟨⟨true, rfl, fun h => by cases h⟩, rfl⟩
    case rest =>
      obtain ⟨⟨X, rfl, hX⟩, hwx⟩ := hcut
      subst hwx
      cases X with
      | true =>
        clear hX
        go_wp2_with fail
        refine (awake_c wc).mono ?_
        rintro e w2 ⟨rfl, f2⟩
        have F2 : Hid (Fr (fun _ => False) w w2) := S1.out.fr.trans f2 (fun _ _ h => h)
        clear f2
        go_wp2_with fail
        go_ret
        exact ⟨rfl, F2.out⟩
      | false =>
        obtain ⟨hno4, hn4⟩ := hX rfl
        clear hX
        go_wp2_with fail
        go_loopw [9] (fun iv wr => ∃ k : Nat, k ≤ n ∧ iv = .int .i64 k ∧ Hid (∃ T, RvS w g mb R k T wr)) (fun iv _ => n - (intOf iv).toNat)
        case atStart => exact ⟨0, Nat.zero_le _, rfl, _, S1.out⟩
        case round =>
          obtain ⟨k, hk, rfl, hst⟩ := hrel
          obtain ⟨T, st⟩ := hst.out
          have S2 := Lib.hid st
          clear hst S1 st
          by_cases hlt : k < n
          · obtain ⟨b, off, x, rfl, hxm, c0, c1, c2, c3, c4⟩ := xcells (rdc_far HR.out S2.out.fr) hlt
            have XO := Lib.hid (HOK.out x hxm)
            have C1 := Lib.hid c1
            have C2 := Lib.hid c2
            have C3 := Lib.hid c3
            have C4 := Lib.hid c4
            have hkn : (k : Int) < (n : Int) := by omega
            clear c1 c2 c3 c4 hxm
            by_cases h0 : x.d = 0
            · have e0 : (x.d == 0) = true := by rw [h0]; rfl
              go_upto_region 9 with fail
              have c1 := C1.out
              have c2 := C2.out
              have c4 := C4.out
              refine (wpIn_wide (n := 9)).1 ?_
              refine wpIn_region_quietHead (k := 16) (by kernel_rfl) (by kernel_rfl) ?_
              iterate 16
                refine quietWalk_cons (a' := ?_) (v := ?_) ?_ ?_ ?_
                rotate_left 2
                · intro K hK
                  gi_step
                  exact hK
                · exact rfl
              refine quietWalk_nil ?_
              change wpAnyIn _ _ _ _ _ _ 1 _ _ _
              refine wpAnyIn_ready (rs := [16]) (by kernel_rfl) (by simp) ?_
              refine AllReadyIn.cons rfl (fun K hK => ?_) AllReadyIn.nil
              have S3 := Lib.hid (S2.out.far (Fr.refl _ wr).drew)
              go_simp
              refine ⟨trivial, ?_⟩
              refine (callsIn_wide.2 (gv_send_any S3.out.net (by omega) HR4.out x.a x.b x.A x.m x.c x.bs (XO.out.rd.far S3.out.fr))).mono ?_
              rintro e w3 ⟨v, T2, rfl, n3, f3⟩
              have S4 := Lib.hid (S3.out.gm f3 n3)
              clear n3 f3 c1 c2 c4
              dsimp only
              refine hK _ _ ?_
              clear hK K
              change wpAnyIn _ _ _ _ _ _ 0 _ _ _
              refine wpAnyIn_done (by kernel_rfl) ?_ _
              try simp only [Act.put, List.setIfInBounds_toArray, List.set_cons_succ, List.set_cons_zero]
              go_wp2_with fail
              go_roundw
              case rel => exact ⟨k + 1, hlt, by go_num, T2, S4.out⟩
              case measure => simp [intOf]; omega
            · have e0 : (x.d == 0) = false := beq_eq_false_iff_ne.2 h0
              by_cases h1 : x.d = 2
              · have e1 : (x.d == 2) = true := by rw [h1]; rfl
                have c3 := C3.out
                go_wp2_with fail
                refine (gv_drop_any S2.out.net (by omega) XO.out.i1).mono ?_
                rintro e w3 ⟨v, T2, rfl, n3, f3⟩
                have S4 := Lib.hid (S2.out.gm f3 n3)
                clear n3 f3
                go_wp2_with fail
                go_roundw
                case rel => exact ⟨k + 1, hlt, by go_num, T2, S4.out⟩
                case measure => simp [intOf]; omega
              · have e1 : (x.d == 2) = false := beq_eq_false_iff_ne.2 h1
                by_cases h3 : x.d = 3
                · have e3 : (x.d == 3) = true := by rw [h3]; rfl
                  have c3 := C3.out
                  go_wp2_with fail
                  refine (gv_double_any S2.out.net (by omega) XO.out.i1).mono ?_
                  rintro e w3 ⟨v, T2, rfl, n3, f3⟩
                  have S4 := Lib.hid (S2.out.gm f3 n3)
                  clear n3 f3
                  go_wp2_with fail
                  go_roundw
                  case rel => exact ⟨k + 1, hlt, by go_num, T2, S4.out⟩
                  case measure => simp [intOf]; omega
                · have e3 : (x.d == 3) = false := beq_eq_false_iff_ne.2 h3
                  go_wp2_with fail
                  go_roundw
                  case rel => exact ⟨k + 1, hlt, by go_num, T, S2.out.fr, S2.out.net.up (by omega), S2.out.lo⟩
                  case measure => simp [intOf]; omega
          · obtain rfl : k = n := by omega
            clear hlt hk
            go_wp2_with fail
            refine (copy_c S2.out.net).mono ?_
            rintro e w3 ⟨gc, mbc, rfl, nc, f3, l1, l2⟩
            have S3 : Hid (BgS w w3 g mb gc mbc R T T k k) := ⟨S2.out.fr.trans f3 (fun _ _ h => h), S2.out.net.far f3, nc, ⟨S2.out.lo, by have := S2.out.fr.size; omega, by have := S2.out.fr.size; omega⟩, by have := S2.out.net.lt; omega, by have := S2.out.net.lt; omega⟩
            clear nc f3 l1 l2 S2
            have LT := Lib.hid S3.out.n1.lt
            have HLT := Lib.hid (gv_letters S3.out.n1 (by omega) LT.out.1 LT.out.2)
            go_wp2_with fail
            refine HLT.out.mono ?_
            rintro e w4 ⟨vl, rfl, ol, f4⟩
            obtain ⟨Al, cl, rfl, hcl1, hcl2⟩ := own_slice ol
            have OL := Lib.hid (own_base (base' := 0) ol (fun _ _ => Nat.zero_le _))
            have S4 := Lib.hid (S3.out.far f4)
            have HLL : Hid ((lids T).length = (T.filter (·.live)).length ∧ (lids T).length ≤ 400) := by
              have h1 := lids_cnt T
              have h2 := S3.out.n1.le
              have h3 := List.length_filter_le (fun x : Ms => x.live) T
              exact ⟨h1, by omega⟩
            obtain ⟨L, hL⟩ : ∃ L, (lids T).length = L := ⟨_, rfl⟩
            rw [hL] at OL HLL ⊢
            have HLE := Lib.hid hL
            have hL4 : L ≤ 400 := HLL.out.2
            obtain ⟨Z, hz, hmk⟩ := mk_msgs L (by omega)
            have HZ := Lib.hid hz
            clear hL ol f4 hcl1 hcl2 HLT LT S3 hz
            obtain ⟨bc, hbc⟩ : ∃ b, w4.heap.size = b := ⟨_, rfl⟩
            have HBC : Hid (w.heap.size ≤ bc) := by rw [← hbc]; exact S4.out.fr.size
            go_wp2_with fail
            refine abs_wp (fun W => Hid (BgS w W g mb gc mbc R T T k k) ∧ Hid (W.ownsRow 0 65 4 (.slice Al L cl) L (lcells T (lids T))) ∧ Hid (BgC W w4.heap.size L T 0)) ⟨S4.out.far ((Fr.refl _ _).alloc _), own_fa OL.out ((Fr.refl _ _).alloc _), BgC.new HZ.out (Blk.new _ _ _)⟩ ?_
            rintro w5 ⟨S5, OL5, C5⟩
            rw [hbc] at C5
            clear S4 OL HZ hmk hbc
            go_loopw [13] (fun iv wr => ∃ q : Nat, q ≤ L ∧ iv = .int .i64 q ∧ Hid (∃ T1, BgS w wr g mb gc mbc R T1 T (k + q) k ∧ Done T T1 q ∧ wr.ownsRow 0 65 4 (.slice Al L cl) L (lcells T (lids T)) ∧ BgC wr bc L T q)) (fun iv _ => L - (intOf iv).toNat)
            case atStart => exact ⟨0, Nat.zero_le _, rfl, T, S5.out, ⟨rfl, fun id => by simp⟩, OL5.out, C5.out⟩
            case round =>
              obtain ⟨q, hq, rfl, hh⟩ := hrel
              clear S5 OL5 C5
              obtain ⟨T1, s, d, ol, bg⟩ := hh.out
              have S6 := Lib.hid s
              have HD := Lib.hid d
              have OL6 := Lib.hid ol
              have C6 := Lib.hid bg
              clear hh s d ol bg
              by_cases hlt : q < L
              · obtain ⟨id, x, hid, hx⟩ := lid_at (T := T) (q := q) (by rw [HLE.out]; exact hlt)
                have HLK := Lib.hid (HD.out.look hid hx)
                obtain ⟨k', rfl, h1k, hxl⟩ := lookT_some HLK.out
                have hk4 : k' < 4000 := by have h1 := (List.getElem?_eq_some_iff.1 h1k).1; have h2 := S6.out.n1.le; omega
                obtain ⟨bl, cl', e', _, _, _⟩ := own_cells OL6.out (by omega)
                injection e' with e1 e2 e3
                subst e1 e3
                have d0 := (lrow OL6.out hlt hid hx).1
                have HID := Lib.hid hid
                have HX := Lib.hid hx
                have HD7 := Lib.hid (HD.out.step hid h1k)
                have HDL := Lib.hid (gv_deliver S6.out.n1 (by omega) (by omega) HLK.out)
                clear hid hx h1k hxl HLK HD
                go_wp2_with fail
                refine HDL.out.mono ?_
                rintro e w7 ⟨A9, c9, rfl, o7, n7, f7⟩
                have S7 := Lib.hid (S6.out.one n7 f7)
                have OL7 := Lib.hid (own_off OL6.out f7 (S6.out.n1.off _ (by decide)))
                have C7 := Lib.hid (C6.out.gm S6.out.n1 f7)
                have V7 := Lib.hid (own_base (base' := 0) o7 (fun _ _ => Nat.zero_le _))
                clear o7 n7 f7 HDL S6 OL6 C6 d0
                go_upto_region 21 with fail
                refine abs_wp (fun W => Hid (BgS w W g mb gc mbc R (kill T1 k' x) T (k + q + 1) k) ∧ Hid (W.ownsRow 0 65 4 (.slice (some ⟨bl, 0, none⟩) L cl) L (lcells T (lids T))) ∧ Hid (BgC W bc L T q) ∧ Hid (Blk W w7.heap.size 51 #[.int .i64 (x.f : Nat), .int .i64 (x.t : Nat), .slice A9 x.bs.length c9]) ∧ Hid (W.ownsRow 0 5 1 (.slice A9 x.bs.length c9) x.bs.length (bv x.bs)))
                  ⟨S7.out.far ((Fr.refl _ _).alloc _), own_fa OL7.out ((Fr.refl _ _).alloc _), C7.out.far ((Fr.refl _ _).alloc _), Blk.new _ _ _, own_fa V7.out ((Fr.refl _ _).alloc _)⟩ ?_
                rintro w8 ⟨S8, OL8, C8, M8, V8⟩
                have m0 : w8.cell? ⟨w7.heap.size, 0, none⟩ = some (.int .i64 (x.f : Nat)) := M8.out.cell 0
                have m1 : w8.cell? ⟨w7.heap.size, 1, none⟩ = some (.int .i64 (x.t : Nat)) := M8.out.cell 1
                have m2 : w8.cell? ⟨w7.heap.size, 2, none⟩ = some (.slice A9 x.bs.length c9) := M8.out.cell 2
                obtain ⟨d0, d1, d2, d3⟩ := lrow OL8.out hlt HID.out HX.out
                clear d0 S7 OL7 C7 V7
                go_quiet (fail)
                have FN := Lib.hid ((Fr.refl (fun _ => False) w8).drewN nq)
                have S9 := Lib.hid (S8.out.far FN.out)
                have OL9 := Lib.hid (own_fa OL8.out FN.out)
                have C9 := Lib.hid (C8.out.far FN.out)
                have M9 := Lib.hid (keepB M8.out FN.out)
                have V9 := Lib.hid (own_fa V8.out FN.out)
                clear m0 m1 m2 d1 d2 d3 FN S8 OL8 C8 M8 V8
                generalize w8.drewN nq = w9 at *
                have PUT := Lib.hid (C9.out.put hlt HID.out HX.out V9.out)
                obtain ⟨CB, hcb⟩ := C9.out.blk
                have HCB := Lib.hid hcb
                clear hcb C9 V9
                go_wp2_with (first
                  | (refine wpList_load_all rfl 51 _ rfl w7.heap.size rfl M9.out _ Try.underlying51 rfl tMsg_size ?_)
                  | (refine wpList_store_mid rfl 51 _ _ rfl bc (q * 3) #[.int .i64 (x.f : Nat), .int .i64 (x.t : Nat), .slice A9 x.bs.length c9] rfl rfl PUT.out.2.2 tMsg_size (by first | rfl | kernel_rfl) ?_))
                go_roundw
                case rel => exact ⟨q + 1, hlt, by go_num, _, S9.out.sto HCB.out HBC.out PUT.out.2.1, HD7.out, own_off OL9.out PUT.out.2.1 (fun k e => by have e' : k = bc := e; subst e'; exact .inl ⟨_, _, HCB.out, by decide⟩), PUT.out.1⟩
                case measure => simp [intOf]; omega
              · have hqL : L = q := by omega
                subst hqL
                have HE1 : Hid ((T1.filter (·.live)).length = 0 ∧ T1.length = T.length) := ⟨by have h := HD.out; rw [← HLE.out] at h; exact h.end_, HD.out.1⟩
                clear hq hlt HD
                go_wp2_with fail
                go_loopw [16] (fun kv wr => ∃ j : Nat, kv = .int .i64 j ∧ j ≤ 400 ∧ Hid (∃ T2, BgS w wr g mb gc mbc R T1 T2 (k + L) (k + j) ∧ Left T T2 j ∧ wr.ownsRow 0 65 4 (.slice Al L cl) L (lcells T (lids T)) ∧ BgC wr bc L T L)) (fun kv _ => 1000 - (intOf kv).toNat)
                case atStart => exact ⟨0, rfl, by omega, T, S6.out, ⟨rfl, fun _ _ h => h, rfl⟩, OL6.out, C6.out⟩
                case round =>
                  obtain ⟨j, rfl, hj, hh⟩ := hrel
                  clear S6 OL6 C6
                  obtain ⟨T2, s, l, ol, bg⟩ := hh.out
                  have S10 := Lib.hid s
                  have HLF := Lib.hid l
                  have OL10 := Lib.hid ol
                  have C10 := Lib.hid bg
                  clear hh s l ol bg
                  have HCN := Lib.hid (gv_count S10.out.n2)
                  obtain ⟨C2, hC2⟩ : ∃ C2, (T2.filter (·.live)).length = C2 := ⟨_, rfl⟩
                  have HC2 := Lib.hid hC2
                  rw [hC2] at HCN
                  clear hC2
                  have hC4 : C2 + j ≤ 400 := by have h1 := HLF.out.2.2; have h2 := HLL.out; have h3 := HC2.out; omega
                  by_cases h0 : C2 = 0
                  · have e0 : decide ((0 : Int) < (C2 : Int)) = false := decide_eq_false (by omega)
                    have HE2 : Hid ((T2.filter (·.live)).length = 0 ∧ T2.length = T.length) := ⟨by rw [HC2.out, h0], HLF.out.1⟩
                    go_wp2_with fail
                    refine HCN.out.mono ?_
                    rintro e w11 ⟨rfl, hw⟩
                    rw [hw]
                    clear hw w11
                    go_wp2_with fail
                    refine (gv_last S10.out.n1 (by omega) HR4.out HE1.out.1).mono ?_
                    rintro e w12 ⟨T3, ai, av, rfl, ha1, ha2, n3, hn3, f3⟩
                    have S12 := Lib.hid (S10.out.one n3 f3)
                    have HA := Lib.hid (And.intro ha1 (And.intro ha2 hn3))
                    clear n3 f3 ha1 ha2 hn3
                    go_wp2_with fail
                    refine (gv_last S12.out.n2 (by omega) HR4.out HE2.out.1).mono ?_
                    rintro e w13 ⟨T4, ai', av', rfl, hb1, hb2, n4, hn4', f4⟩
                    have hai : ai' = ai := by rw [hb1, HA.out.1, HE2.out.2, HE1.out.2]
                    have hav : av' = av := by rw [hb2, HA.out.2.1]
                    subst hai hav
                    have S13 := Lib.hid (S12.out.two n4 f4)
                    have HB4 := Lib.hid hn4'
                    clear n4 f4 hb1 hb2 hn4'
                    have K1 := Lib.hid (gv_count S13.out.n1)
                    have K2 := Lib.hid (gv_count S13.out.n2)
                    rw [HA.out.2.2] at K1
                    rw [HB4.out] at K2
                    obtain ⟨N, hN⟩ : ∃ N, lastN R = N := ⟨_, rfl⟩
                    rw [hN] at K1 K2
                    clear hN HA HB4
                    go_wp2_with fail
                    refine K1.out.mono ?_
                    rintro e w14 ⟨rfl, hw⟩
                    rw [hw]
                    clear hw w14
                    go_wp2_with fail
                    refine K2.out.mono ?_
                    rintro e w14 ⟨rfl, hw⟩
                    rw [hw]
                    clear hw w14
                    go_wp2_with fail
                    refine (awake_c w13).mono ?_
                    rintro e w15 ⟨rfl, f15⟩
                    have F15 : Hid (Fr (fun _ => False) w w15) := S13.out.fr.trans f15 (fun _ _ h => h)
                    clear f15
                    go_wp2_with fail
                    go_ret
                    exact ⟨rfl, F15.out⟩
                  · have e0 : decide ((0 : Int) < (C2 : Int)) = true := decide_eq_true (by omega)
                    have e1 : decide ((j : Int) < 1000) = true := decide_eq_true (by omega)
                    go_wp2_with fail
                    refine HCN.out.mono ?_
                    rintro e w11 ⟨rfl, hw⟩
                    rw [hw]
                    clear hw w11
                    have LT2 := Lib.hid S10.out.n2.lt
                    have HLT := Lib.hid (gv_letters S10.out.n2 (by omega) LT2.out.1 LT2.out.2)
                    have HL2 : Hid ((lids T2).length = C2) := by rw [← HC2.out]; exact lids_cnt T2
                    rw [HL2.out] at HLT
                    clear HCN LT2 e1
                    go_wp2_with fail
                    refine HLT.out.mono ?_
                    rintro e w11 ⟨v2, rfl, ol2, f11⟩
                    obtain ⟨bL, cL, rfl, _, _, _⟩ := own_cells ol2 (by omega)
                    have S11 := Lib.hid (S10.out.far f11)
                    have OL11 := Lib.hid (own_fa OL10.out f11)
                    have C11 := Lib.hid (C10.out.far f11)
                    have LO11 := Lib.hid (own_base (base' := 0) ol2 (fun _ _ => Nat.zero_le _))
                    clear ol2 f11 HLT S10 OL10 C10
                    have e2 : ((C2 : Int) == 0) = false := beq_eq_false_iff_ne.2 (by omega)
                    go_upto_region 30 with fail
                    iterate 8 go_step
                    go_cut [18] from 165 to 176 (fun v wx => (∃ k2 : Nat, v = .int .i64 k2 ∧ k2 < C2) ∧ wx = w11)
                    case first =>
                      by_cases h3 : j < no
                      · obtain ⟨y, hy⟩ : ∃ y, os[j]? = some y := by
                          have hl := HRO.out.1
                          rw [List.length_map] at hl
                          exact ⟨_, List.getElem?_eq_getElem (by omega)⟩
                        obtain ⟨p, rfl, hp⟩ := (HRO.out.far S11.out.fr).2 (by omega)
                        have c0 : w11.cell? (p.add j) = some (.int .i64 y) := hp j _ (by rw [List.getElem?_map, hy]; rfl)
                        obtain ⟨X, hX0, x0⟩ := mask_i64 y 65535 (by omega)
                        have x0 : bits .and .i64 y 65535 = (X : Int) := x0
                        obtain ⟨K, hK⟩ : ∃ K, K = X % C2 := ⟨_, rfl⟩
                        have hKn : K < C2 := by rw [hK]; exact Nat.mod_lt _ (by omega)
                        have hK2 : ((X : Int) % (C2 : Int)) = (K : Int) := by rw [hK]; omega
                        have hb0 : ¬ ((C2 : Int) = 0) := by omega
                        have e3 : decide ((j : Int) < (no : Int)) = true := decide_eq_true (by omega)
                        clear hp hy hK
                        go_wp2_with fail
                        try rw [hK2]
                        go_meet
                        exact ⟨⟨K, by first | rfl | go_num | rw [hK2], hKn⟩, rfl⟩
                      · have e3 : decide ((j : Int) < (no : Int)) = false := decide_eq_false (by omega)
                        go_wp2_with fail
                        go_meet
                        exact ⟨⟨0, rfl, by omega⟩, rfl⟩
                    case rest =>
                      obtain ⟨⟨at9, rfl, hK⟩, hwx⟩ := hcut
                      subst hwx
                      obtain ⟨id, x, hid, hx⟩ := lid_at (T := T2) (q := at9) (by rw [HL2.out]; exact hK)
                      obtain ⟨k', hidk, h2k, hxl⟩ := lookT_some hx
                      have hk4 : k' < 4000 := by have h1 := (List.getElem?_eq_some_iff.1 h2k).1; have h2 := S11.out.n2.le; omega
                      have HLT2 := Lib.hid (HLF.out.2.1 _ _ hx)
                      have HLF2 := Lib.hid (HLF.out.step h2k hxl)
                      have HID := Lib.hid hid
                      have HX := Lib.hid hx
                      have HAT := Lib.hid hK
                      have d0 := (lrow LO11.out hK hid hx).1
                      have hx' := hx
                      rw [hidk] at hx'
                      have hdl := gv_deliver S11.out.n2 (by omega) (by omega) hx'
                      rw [← hidk] at hdl
                      have HDL := Lib.hid hdl
                      clear hid hx hx' h2k hxl hidk hdl HLF
                      go_wp2_with fail
                      refine HDL.out.mono ?_
                      rintro e w12 ⟨A9, c9, rfl, o12, n12, f12⟩
                      have S12 := Lib.hid (S11.out.two n12 f12)
                      have OL12 := Lib.hid (own_off OL11.out f12 (S11.out.n2.off _ (by decide)))
                      have LO12 := Lib.hid (own_off LO11.out f12 (S11.out.n2.off _ (by decide)))
                      have C12 := Lib.hid (C11.out.gm S11.out.n2 f12)
                      have V12 := Lib.hid (own_base (base' := 0) o12 (fun _ _ => Nat.zero_le _))
                      clear o12 n12 f12 HDL S11 OL11 LO11 C11 d0
                      go_wp2_with fail
                      refine abs_wp (fun W => Hid (BgS w W g mb gc mbc R T1 (kill T2 k' x) (k + L) (k + j + 1)) ∧ Hid (W.ownsRow 0 65 4 (.slice Al L cl) L (lcells T (lids T))) ∧ Hid (W.ownsRow 0 65 4 (.slice (some ⟨bL, 0, none⟩) C2 cL) C2 (lcells T2 (lids T2))) ∧ Hid (BgC W bc L T L) ∧ Hid (Blk W w12.heap.size 51 #[.int .i64 (x.f : Nat), .int .i64 (x.t : Nat), .slice A9 x.bs.length c9]) ∧ Hid (W.ownsRow 0 5 1 (.slice A9 x.bs.length c9) x.bs.length (bv x.bs)))
                        ⟨S12.out.far ((Fr.refl _ _).alloc _), own_fa OL12.out ((Fr.refl _ _).alloc _), own_fa LO12.out ((Fr.refl _ _).alloc _), C12.out.far ((Fr.refl _ _).alloc _), Blk.new _ _ _, own_fa V12.out ((Fr.refl _ _).alloc _)⟩ ?_
                      rintro w13 ⟨S13, OL13, LO13, C13, M13, V13⟩
                      clear S12 OL12 LO12 C12 V12
                      go_loopw [21] (fun iv wr => ∃ i : Nat, iv = .int .i64 i ∧ i ≤ L ∧ Hid (Fr (fun _ => False) w13 wr)) (fun iv _ => L - (intOf iv).toNat)
                      case atStart => exact ⟨0, rfl, Nat.zero_le _, Fr.refl _ _⟩
                      case round =>
                        obtain ⟨p9, rfl, hi, HF⟩ := hrel
                        by_cases hlt : p9 < L
                        · obtain ⟨id2, y9, hid2, hx2⟩ := lid_at (T := T) (q := p9) (by rw [HLE.out]; exact hlt)
                          obtain ⟨bl, cl', e', _, _, _⟩ := own_cells OL13.out (by omega)
                          injection e' with e1 e2 e3
                          subst e1 e3
                          have D0 : Hid (wr.cell? ⟨bl, p9 * 4, none⟩ = some (.int .u64 (id2 : Nat))) := (lrow (own_fa OL13.out HF.out) hlt hid2 hx2).1
                          have D1 : Hid (wr.cell? ⟨bL, at9 * 4, none⟩ = some (.int .u64 (id : Nat))) := (lrow (own_fa LO13.out HF.out) HAT.out HID.out HX.out).1
                          have HI := Lib.hid hlt
                          by_cases heq : id2 = id
                          · have hx3 : lookT T id = some y9 := by rw [← heq]; exact hx2
                            have hxx : y9 = x := by have h := hx3.symm.trans HLT2.out; injection h
                            subst hxx
                            obtain ⟨gA, gc9, rg, ro⟩ := (C13.out.far HF.out).at_ hlt hid2 hx2
                            have RG := Lib.hid rg
                            have RB := Lib.hid (Rd.of_own ro)
                            have RA := Lib.hid (Rd.of_own (own_fa V13.out HF.out))
                            have KM := Lib.hid (keepB M13.out HF.out)
                            rw [heq] at D0
                            clear hid2 hx2 hx3 rg ro heq
                            go_upto_region 39 with fail
                            go_cut [214] from 195 to 213 (fun v wx => v = .bool false ∧ Hid (Fr (fun _ => False) wr wx))
                            case first =>
                              as_aux_lemma =>
                              refine (wpIn_wide (n := 9)).1 ?_
                              refine wpIn_region_factsG (ms := [0, 0, 3, 7, 15, 0, 0, 96, 224, 480, 1023, 2047, 4095, 4095, 4095, 28671, 61439, 131071, 262143, 524287]) (k := 19) (Fr (fun _ => False)) (b39X bl bL bc L C2 cl cL p9 at9 id y9.f y9.t y9.bs.length c9 gc9 A9 gA) (fun i v W => True) (by kernel_rfl) (by kernel_rfl) (Fr.refl _ _) (fun a b c h1 h2 => h1.trans h2 (fun _ _ h => h)) (fun i v w w' hg hx => b39X_far hg hx) ?walk39
                              case walk39 =>
                              have hdr : ∀ W, Fr (fun _ => False) wr.drew W → Fr (fun _ => False) wr W := fun W h => ((Fr.refl (fun _ => False) wr).drew).trans h (fun _ _ h => h)
                              have HDR := Lib.hid hdr
                              clear hdr
                              refine factWalkG_cons (fun W hW hf K hK => ?_) (fun x0 => ?_)
                              · skip
                                refine ⟨by kernel_rfl, ?_⟩
                                gi_step
                                exact hK _ _ (Fr.refl _ _) rfl trivial
                              simp only [Act.put, List.setIfInBounds_toArray, List.set_cons_succ, List.set_cons_zero]
                              refine factWalkG_cons (fun W hW hf K hK => ?_) (fun x1 => ?_)
                              · skip
                                refine ⟨by kernel_rfl, ?_⟩
                                gi_step
                                exact hK _ _ (Fr.refl _ _) rfl trivial
                              simp only [Act.put, List.setIfInBounds_toArray, List.set_cons_succ, List.set_cons_zero]
                              refine factWalkG_cons (fun W hW hf K hK => ?_) (fun x2 => ?_)
                              · skip
                                have e0 : x0 = .slice (some ⟨bl, 0, none⟩) L cl := hf 0 (by omega) (by kernel_rfl)
                                have e1 : x1 = .int .i64 (p9 : Nat) := hf 1 (by omega) (by kernel_rfl)
                                subst e0 e1
                                have hi := HI.out
                                refine ⟨by kernel_rfl, ?_⟩
                                gi_step
                                exact hK _ _ (Fr.refl _ _) rfl trivial
                              simp only [Act.put, List.setIfInBounds_toArray, List.set_cons_succ, List.set_cons_zero]
                              refine factWalkG_cons (fun W hW hf K hK => ?_) (fun x3 => ?_)
                              · skip
                                have e2 : x2 = .pointer (some ⟨bl, p9 * 4, none⟩) := hf 2 (by omega) (by kernel_rfl)
                                subst e2
                                refine ⟨by kernel_rfl, ?_⟩
                                gi_step
                                exact hK _ _ (Fr.refl _ _) rfl trivial
                              simp only [Act.put, List.setIfInBounds_toArray, List.set_cons_succ, List.set_cons_zero]
                              refine factWalkG_cons (fun W hW hf K hK => ?_) (fun x4 => ?_)
                              · skip
                                have e3 : x3 = .pointer (some ⟨bl, p9 * 4, none⟩) := hf 3 (by omega) (by kernel_rfl)
                                subst e3
                                have d0 : W.cell? ⟨bl, p9 * 4, none⟩ = some (.int .u64 (id : Nat)) := cell_fa D0.out (HDR.out W hW)
                                refine ⟨by kernel_rfl, ?_⟩
                                gi_step
                                exact hK _ _ (Fr.refl _ _) rfl trivial
                              simp only [Act.put, List.setIfInBounds_toArray, List.set_cons_succ, List.set_cons_zero]
                              refine factWalkG_cons (fun W hW hf K hK => ?_) (fun x5 => ?_)
                              · skip
                                refine ⟨by kernel_rfl, ?_⟩
                                gi_step
                                exact hK _ _ (Fr.refl _ _) rfl trivial
                              simp only [Act.put, List.setIfInBounds_toArray, List.set_cons_succ, List.set_cons_zero]
                              refine factWalkG_cons (fun W hW hf K hK => ?_) (fun x6 => ?_)
                              · skip
                                refine ⟨by kernel_rfl, ?_⟩
                                gi_step
                                exact hK _ _ (Fr.refl _ _) rfl trivial
                              simp only [Act.put, List.setIfInBounds_toArray, List.set_cons_succ, List.set_cons_zero]
                              refine factWalkG_cons (fun W hW hf K hK => ?_) (fun x7 => ?_)
                              · skip
                                have e5 : x5 = .slice (some ⟨bL, 0, none⟩) C2 cL := hf 5 (by omega) (by kernel_rfl)
                                have e6 : x6 = .int .i64 (at9 : Nat) := hf 6 (by omega) (by kernel_rfl)
                                subst e5 e6
                                have hat9 := HAT.out
                                refine ⟨by kernel_rfl, ?_⟩
                                gi_step
                                exact hK _ _ (Fr.refl _ _) rfl trivial
                              simp only [Act.put, List.setIfInBounds_toArray, List.set_cons_succ, List.set_cons_zero]
                              refine factWalkG_cons (fun W hW hf K hK => ?_) (fun x8 => ?_)
                              · skip
                                have e7 : x7 = .pointer (some ⟨bL, at9 * 4, none⟩) := hf 7 (by omega) (by kernel_rfl)
                                subst e7
                                refine ⟨by kernel_rfl, ?_⟩
                                gi_step
                                exact hK _ _ (Fr.refl _ _) rfl trivial
                              simp only [Act.put, List.setIfInBounds_toArray, List.set_cons_succ, List.set_cons_zero]
                              refine factWalkG_cons (fun W hW hf K hK => ?_) (fun x9 => ?_)
                              · skip
                                have e8 : x8 = .pointer (some ⟨bL, at9 * 4, none⟩) := hf 8 (by omega) (by kernel_rfl)
                                subst e8
                                have d1 : W.cell? ⟨bL, at9 * 4, none⟩ = some (.int .u64 (id : Nat)) := cell_fa D1.out (HDR.out W hW)
                                refine ⟨by kernel_rfl, ?_⟩
                                gi_step
                                exact hK _ _ (Fr.refl _ _) rfl trivial
                              simp only [Act.put, List.setIfInBounds_toArray, List.set_cons_succ, List.set_cons_zero]
                              refine factWalkG_cons (fun W hW hf K hK => ?_) (fun x10 => ?_)
                              · skip
                                have e4 : x4 = .int .u64 (id : Nat) := hf 4 (by omega) (by kernel_rfl)
                                have e9 : x9 = .int .u64 (id : Nat) := hf 9 (by omega) (by kernel_rfl)
                                subst e4 e9
                                refine ⟨by kernel_rfl, ?_⟩
                                gi_step
                                exact hK _ _ (Fr.refl _ _) rfl trivial
                              simp only [Act.put, List.setIfInBounds_toArray, List.set_cons_succ, List.set_cons_zero]
                              refine factWalkG_cons (fun W hW hf K hK => ?_) (fun x11 => ?_)
                              · skip
                                have e10 : x10 = .bool true := hf 10 (by omega) (by kernel_rfl)
                                subst e10
                                refine ⟨by kernel_rfl, ?_⟩
                                gi_step
                                exact hK _ _ (Fr.refl _ _) rfl trivial
                              simp only [Act.put, List.setIfInBounds_toArray, List.set_cons_succ, List.set_cons_zero]
                              refine factWalkG_cons (fun W hW hf K hK => ?_) (fun x12 => ?_)
                              · skip
                                have e11 : x11 = .bool true := hf 11 (by omega) (by kernel_rfl)
                                subst e11
                                have hM := keepB KM.out (HDR.out W hW)
                                have m0 : W.cell? ⟨w12.heap.size, 0, none⟩ = some (.int .i64 (y9.f : Nat)) := hM.cell 0
                                have m1 : W.cell? ⟨w12.heap.size, 1, none⟩ = some (.int .i64 (y9.t : Nat)) := hM.cell 1
                                have m2 : W.cell? ⟨w12.heap.size, 2, none⟩ = some (.slice A9 y9.bs.length c9) := hM.cell 2
                                refine ⟨by kernel_rfl, ?_⟩
                                gi_step
                                exact hK _ _ (Fr.refl _ _) rfl trivial
                              simp only [Act.put, List.setIfInBounds_toArray, List.set_cons_succ, List.set_cons_zero]
                              refine factWalkG_cons (fun W hW hf K hK => ?_) (fun x13 => ?_)
                              · skip
                                have e11 : x11 = .bool true := hf 11 (by omega) (by kernel_rfl)
                                subst e11
                                refine ⟨by kernel_rfl, ?_⟩
                                gi_step
                                exact hK _ _ (Fr.refl _ _) rfl trivial
                              simp only [Act.put, List.setIfInBounds_toArray, List.set_cons_succ, List.set_cons_zero]
                              refine factWalkG_cons (fun W hW hf K hK => ?_) (fun x14 => ?_)
                              · skip
                                have e11 : x11 = .bool true := hf 11 (by omega) (by kernel_rfl)
                                subst e11
                                refine ⟨by kernel_rfl, ?_⟩
                                gi_step
                                exact hK _ _ (Fr.refl _ _) rfl trivial
                              simp only [Act.put, List.setIfInBounds_toArray, List.set_cons_succ, List.set_cons_zero]
                              refine factWalkG_cons (fun W hW hf K hK => ?_) (fun x15 => ?_)
                              · skip
                                have e11 : x11 = .bool true := hf 11 (by omega) (by kernel_rfl)
                                have e13 : x13 = .slice (some ⟨bc, 0, none⟩) L L := hf 13 (by omega) (by kernel_rfl)
                                have e14 : x14 = .int .i64 (p9 : Nat) := hf 14 (by omega) (by kernel_rfl)
                                subst e11 e13 e14
                                have hi := HI.out
                                refine ⟨by kernel_rfl, ?_⟩
                                gi_step
                                exact hK _ _ (Fr.refl _ _) rfl trivial
                              simp only [Act.put, List.setIfInBounds_toArray, List.set_cons_succ, List.set_cons_zero]
                              refine factWalkG_cons (fun W hW hf K hK => ?_) (fun x16 => ?_)
                              · skip
                                have e11 : x11 = .bool true := hf 11 (by omega) (by kernel_rfl)
                                have e15 : x15 = .pointer (some ⟨bc, p9 * 3, none⟩) := hf 15 (by omega) (by kernel_rfl)
                                subst e11 e15
                                have g0 : W.cell? ⟨bc, p9 * 3, none⟩ = some (.int .i64 (y9.f : Nat)) := cell_fa (RG.out 0 _ rfl) (HDR.out W hW)
                                have g1 : W.cell? ⟨bc, p9 * 3 + 1, none⟩ = some (.int .i64 (y9.t : Nat)) := cell_fa (RG.out 1 _ rfl) (HDR.out W hW)
                                have g2 : W.cell? ⟨bc, p9 * 3 + 2, none⟩ = some (.slice gA y9.bs.length gc9) := cell_fa (RG.out 2 _ rfl) (HDR.out W hW)
                                refine ⟨by kernel_rfl, ?_⟩
                                gi_step
                                exact hK _ _ (Fr.refl _ _) rfl trivial
                              simp only [Act.put, List.setIfInBounds_toArray, List.set_cons_succ, List.set_cons_zero]
                              refine factWalkG_cons (fun W hW hf K hK => ?_) (fun x17 => ?_)
                              · skip
                                have e11 : x11 = .bool true := hf 11 (by omega) (by kernel_rfl)
                                have e12 : x12 = .agg #[.int .i64 (y9.f : Nat), .int .i64 (y9.t : Nat), .slice A9 y9.bs.length c9] := hf 12 (by omega) (by kernel_rfl)
                                have e16 : x16 = .agg #[.int .i64 (y9.f : Nat), .int .i64 (y9.t : Nat), .slice gA y9.bs.length gc9] := hf 16 (by omega) (by kernel_rfl)
                                subst e11 e12 e16
                                refine ⟨by kernel_rfl, ?_⟩
                                gi_step
                                refine ⟨trivial, ?_⟩
                                refine (callsIn_wide.2 (same_c W _ _ A9 gA y9.bs.length c9 gc9 y9.bs (RA.out.far (HDR.out W hW)) (RB.out.far (HDR.out W hW)))).mono ?_
                                rintro e W' ⟨rfl, f2⟩
                                dsimp only
                                exact hK _ _ f2 rfl trivial
                              simp only [Act.put, List.setIfInBounds_toArray, List.set_cons_succ, List.set_cons_zero]
                              refine factWalkG_cons (fun W hW hf K hK => ?_) (fun x18 => ?_)
                              · skip
                                have e11 : x11 = .bool true := hf 11 (by omega) (by kernel_rfl)
                                have e17 : x17 = .bool true := hf 17 (by omega) (by kernel_rfl)
                                subst e11 e17
                                refine ⟨by kernel_rfl, ?_⟩
                                gi_step
                                exact hK _ _ (Fr.refl _ _) rfl trivial
                              simp only [Act.put, List.setIfInBounds_toArray, List.set_cons_succ, List.set_cons_zero]
                              refine factWalkG_nil (fun W hW hf hmet => ?_)
                              have e11 : x11 = .bool true := hf 11 (by omega)
                              have e18 : x18 = .bool false := hf 18 (by omega)
                              subst e11 e18
                              have F8 : Fr (fun _ => False) wr W := HDR.out W hW
                              clear hf hmet hW HDR
                              change wpAnyIn _ _ _ _ _ _ 1 _ _ _
                              refine wpAnyIn_ready (rs := [19]) (by kernel_rfl) (by simp) ?_
                              refine AllReadyIn.cons rfl (fun K hK => ?_) AllReadyIn.nil
                              go_simp
                              refine hK _ _ ?_
                              refine wpAnyIn_done (by kernel_rfl) ?_ _
                              clear hK K
                              go_wp2_with fail
                              go_meet
                              exact ⟨rfl, F8⟩
                            case rest =>
                              obtain ⟨rfl, F39⟩ := hcut
                              go_wp2_with fail
                              go_roundw
                              case rel => exact ⟨p9 + 1, by go_num, hlt, HF.out.trans F39.out (fun _ _ h => h)⟩
                              case measure => simp [intOf]; omega
                          · have hne : (((id2 : Nat) : Int) == ((id : Nat) : Int)) = false := beq_eq_false_iff_ne.2 (by omega)
                            have d0 := D0.out
                            have d1 := D1.out
                            have hK := HAT.out
                            clear hid2 hx2 heq
                            go_upto_region 39 with fail
                            go_quiet (fail)
                            have F39 := Lib.hid ((Fr.refl (fun _ => False) wr).drewN nq)
                            clear d0 d1
                            generalize wr.drewN nq = w14 at *
                            go_wp2_with fail
                            go_roundw
                            case rel => exact ⟨p9 + 1, by go_num, hlt, HF.out.trans F39.out (fun _ _ h => h)⟩
                            case measure => simp [intOf]; omega
                        · go_wp2_with fail
                          go_roundw
                          case rel => exact ⟨j + 1, by go_num, by omega, _, S13.out.far HF.out, HLF2.out, own_fa OL13.out HF.out, C13.out.far HF.out⟩
                          case measure => simp [intOf]; omega
  · have HN := Lib.hid (new_bad w r hr4)
    clear hr4
    go_enter Try.func6, Try.ntmps6
    go_wp2_with fail
    refine HN.out.mono ?_
    rintro e w1 ⟨rfl, hw⟩
    rw [hw]
    clear hw w1
    go_wp2_with fail
    refine (awake_c w).mono ?_
    rintro e w2 ⟨rfl, f2⟩
    have F2 := Lib.hid f2
    clear f2
    go_wp2_with fail
    go_ret
    exact ⟨rfl, F2.out⟩
end Go.Proofs.Ytpgklhbbjbdejaa
