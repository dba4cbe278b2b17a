/-
  THE WALK of 'tidewracklaw22.NetOnce'.
-/
import Derived.Test.YtpgklhbbjbdejaaOnB2
import Derived.Shelf.RegionOpen
import Derived.Deep.CutRange
namespace Go.Proofs.Ytpgklhbbjbdejaa
set_option linter.unusedSimpArgs false
set_option linter.unusedVariables false
open Go Go.RowKit Go.Maps

theorem call_info : (Try.prog.info? 35).map (·.size) = some 5 := by kernel_rfl
theorem msg_info : (Try.prog.info? 51).map (fun i => (i.zero, i.size, i.bytes)) = some (some (.agg #[.int .i64 0, .int .i64 0, .slice none 0 0]), 3, 40) := by kernel_rfl
theorem int_info : (Try.prog.info? 3).map (fun i => (i.zero, i.size, i.bytes)) = some (some (.int .i64 0), 1, 8) := by kernel_rfl
theorem rng5 {W : World} {b o : Nat} {c0 c1 c2 c3 c4 : Value} (h0 : W.cell? ⟨b, o, none⟩ = some c0) (h1 : W.cell? ⟨b, o + 1, none⟩ = some c1) (h2 : W.cell? ⟨b, o + 2, none⟩ = some c2) (h3 : W.cell? ⟨b, o + 3, none⟩ = some c3) (h4 : W.cell? ⟨b, o + 4, none⟩ = some c4) : W.rangeAt b o [c0, c1, c2, c3, c4] := fun j v hv => by
  match j, hv with
  | 0, hv => injection hv with hv; subst hv; exact h0
  | 1, hv => injection hv with hv; subst hv; exact h1
  | 2, hv => injection hv with hv; subst hv; exact h2
  | 3, hv => injection hv with hv; subst hv; exact h3
  | 4, hv => injection hv with hv; subst hv; exact h4
  | (q + 5), hv => simp at hv

def o6X (bx bg j f t n N c5 gc cg : Nat) (A5 gA : Option Addr) (i : Nat) (v : Value) (W : World) : Prop := match i with
  | 0 => v = .int .i64 0
  | 1 => v = .bool true
  | 2 => v = .bool true
  | 3 => v = .bool false
  | 4 => v = .bool false
  | 5 => v = .bool true
  | 6 => v = .bool true
  | 7 => v = .agg #[.int .i64 (f : Nat), .int .i64 (t : Nat), .slice A5 n c5]
  | 8 => v = .slice (some ⟨bg, 0, none⟩) (N + 1) cg
  | 9 => v = .pointer (some ⟨bx, 3, none⟩)
  | 10 => v = .int .u64 ((j + 1 : Nat) : Int)
  | 11 => v = .pointer (some ⟨bg, (j + 1) * 3, none⟩)
  | 12 => v = .agg #[.int .i64 (f : Nat), .int .i64 (t : Nat), .slice gA n gc]
  | 13 => v = .bool true
  | 14 => v = .bool false
  | 15 => v = .bool false
  | _ => True
theorem o6X_far {bx bg j f t n N c5 gc cg : Nat} {A5 gA : Option Addr} {i : Nat} {v : Value} {W W' : World} (hg : Fr (fun _ => False) W W') (hx : o6X bx bg j f t n N c5 gc cg A5 gA i v W) : o6X bx bg j f t n N c5 gc cg A5 gA i v W' := by
  match i with
  | 0 => exact hx
  | 1 => exact hx
  | 2 => exact hx
  | 3 => exact hx
  | 4 => exact hx
  | 5 => exact hx
  | 6 => exact hx
  | 7 => exact hx
  | 8 => exact hx
  | 9 => exact hx
  | 10 => exact hx
  | 11 => exact hx
  | 12 => exact hx
  | 13 => exact hx
  | 14 => exact hx
  | 15 => exact hx
  | (n + 16) => exact hx
def o45X (bo bg q f t n N c5 gc cg co b9 : Nat) (A5 gA : Option Addr) (i : Nat) (v : Value) (W : World) : Prop := match i with
  | 0 => v = .int .i64 0
  | 1 => v = .bool true
  | 2 => v = .slice (some ⟨bo, 0, none⟩) (N + 1) co
  | 3 => v = .int .i64 ((q + 1 : Nat) : Int)
  | 4 => v = .pointer (some ⟨bo, q + 1, none⟩)
  | 5 => v = .int .i64 0
  | 6 => v = .bool true
  | 7 => v = .bool false
  | 8 => v = .bool false
  | 9 => v = .int .i64 0
  | 10 => v = .bool true
  | 11 => v = .bool true
  | 12 => v = .agg #[.int .i64 (f : Nat), .int .i64 (t : Nat), .slice A5 n c5]
  | 13 => v = .slice (some ⟨bg, 0, none⟩) (N + 1) cg
  | 14 => v = .int .i64 ((q + 1 : Nat) : Int)
  | 15 => v = .pointer (some ⟨bg, (q + 1) * 3, none⟩)
  | 16 => v = .agg #[.int .i64 (f : Nat), .int .i64 (t : Nat), .slice gA n gc]
  | 17 => v = .bool true
  | 18 => v = .bool false
  | 19 => v = .bool false
  | _ => True
theorem o45X_far {bo bg q f t n N c5 gc cg co b9 : Nat} {A5 gA : Option Addr} {i : Nat} {v : Value} {W W' : World} (hg : Fr (fun _ => False) W W') (hx : o45X bo bg q f t n N c5 gc cg co b9 A5 gA i v W) : o45X bo bg q f t n N c5 gc cg co b9 A5 gA i v W' := by
  match i with
  | 0 => exact hx
  | 1 => exact hx
  | 2 => exact hx
  | 3 => exact hx
  | 4 => exact hx
  | 5 => exact hx
  | 6 => exact hx
  | 7 => exact hx
  | 8 => exact hx
  | 9 => exact hx
  | 10 => exact hx
  | 11 => exact hx
  | 12 => exact hx
  | 13 => exact hx
  | 14 => exact hx
  | 15 => exact hx
  | 16 => exact hx
  | 17 => exact hx
  | 18 => exact hx
  | 19 => exact hx
  | (n + 20) => exact hx
set_option maxRecDepth 100000 in
set_option maxHeartbeats 40000000 in
theorem netOnce_c (w : World) (r : Int) (A : Option Addr) (n c : Nat) (xs : List Cx) (hr : RdC w A n xs) (hok : ∀ x ∈ xs, x.Ok w) (hn : n ≤ 140737488355328) :
    Calls Try.prog 5 #[.int .i64 r, .slice A n c] w fun e w' => e = .returned (.bool true) ∧ Fr (fun _ => False) w w' := by
  obtain ⟨i2, mi, mz0, mz1, mz2⟩ := info_parts msg_info
  obtain ⟨i3, ni, nz0, nz1, nz2⟩ := info_parts int_info
  by_cases hr4 : 1 ≤ r ∧ r ≤ 4
  · obtain ⟨R, rfl⟩ := Int.eq_ofNat_of_zero_le (show 0 ≤ r by omega)
    have HM : Hid (∀ W, Fr (fun _ => False) w W → Calls Try.prog 10 #[.slice A n c] W fun e w' => (e = .returned (.bool true) ∨ (e = .returned (.bool false) ∧ n ≤ 400)) ∧ w' = W) := fun W hW => many_c W A n c xs ⟨hr.1, fun hp => by
        obtain ⟨b, off, h1, h2⟩ := hr.2 hp
        exact ⟨b, off, h1, fun k h => ⟨cell_far (h2 k h).1 hW, cell_far (h2 k h).2.1 hW, cell_far (h2 k h).2.2.1 hW, cell_far (h2 k h).2.2.2.1 hW, cell_far (h2 k h).2.2.2.2 hW⟩⟩⟩ (fun x hx => (hok x hx).m1) hn
    have HR := Lib.hid hr
    have HOK := Lib.hid hok
    have HN := Lib.hid (new_g w R (by omega) (by omega))
    have HR4 : Hid (R ≤ 4) := by show R ≤ 4; omega
    clear hr hok hr4
    go_enter Try.func5, Try.ntmps5
    go_wp2_with fail
    refine HN.out.mono ?_
    rintro e w1 ⟨mb, g, rfl, net, f1, h3, h4⟩
    have NT := Lib.hid net
    have F1 := Lib.hid f1
    have HLO : Hid (w.heap.size ≤ g ∧ w.heap.size ≤ mb ∧ w.heap.size ≤ w1.heap.size) := ⟨h3, h4, f1.size⟩
    clear net f1 h3 h4 HN
    go_wp2_with fail
    refine (HM.out w1 F1.out).mono ?_
    rintro e w2 ⟨rfl | ⟨rfl, hn4⟩, hw⟩
    · rw [hw]
      clear hw w2
      go_wp2_with fail
      refine (awake_c w1).mono ?_
      rintro e w2 ⟨rfl, f2⟩
      have F2 : Hid (Fr (fun _ => False) w w2) := F1.out.trans f2 (fun _ _ h => h)
      clear f2
      go_wp2_with fail
      go_ret
      exact ⟨rfl, F2.out⟩
    · rw [hw]
      clear hw w2
      go_wp2_with fail
      refine abs_wp (fun W => Hid (Fr (fun _ => False) w1 W) ∧ Hid (W.ownsRow w1.heap.size 51 3 (.slice (some ⟨w1.heap.size, 0, none⟩) 1 1) 1 (gcells [])) ∧ Hid (W.ownsRow w1.heap.size 3 1 (.slice (some ⟨w1.heap.size + 1, 0, none⟩) 1 1) 1 (ocells [])))
        ⟨((Fr.refl _ w1).alloc _).alloc _, own_of_blk (n := 1) (size := 3) ((Blk.new w1 51 #[.int .i64 0, .int .i64 0, .slice none 0 0]).alloc _) rfl (Nat.le_refl _) (by unfold maxLen; decide), own_of_blk (n := 1) (size := 1) (Blk.new1 w1 _ 3 #[.int .i64 0]) rfl (by omega) (by unfold maxLen; decide)⟩ ?_
      rintro w2 ⟨F2, G2, V2⟩
      have ST : Hid (OnS w w1.heap.size g mb R 0 [] [] (.slice (some ⟨w1.heap.size, 0, none⟩) 1 1) (.slice (some ⟨w1.heap.size + 1, 0, none⟩) 1 1) w2) :=
        ⟨F1.out.trans F2.out (fun _ _ h => h), NT.out.far F2.out, G2.out, V2.out, rfl, fun _ _ _ h => by simp at h, HLO.out⟩
      obtain ⟨b0, hb0⟩ : ∃ b, w1.heap.size = b := ⟨_, rfl⟩
      rw [hb0] at ST ⊢
      clear hb0 F2 G2 V2 NT F1 HLO
      go_loopw [7, 8, 9] (fun gv ov iv wr => ∃ k : Nat, k ≤ n ∧ iv = .int .i64 k ∧ Hid (∃ T E, OnS w b0 g mb R k T E gv ov wr)) (fun _ _ iv _ => n - (intOf iv).toNat)
      case atStart => exact ⟨0, Nat.zero_le _, rfl, [], [], ST.out⟩
      case round =>
        obtain ⟨k, hk, rfl, hst⟩ := hrel
        obtain ⟨T, E, st⟩ := hst.out
        obtain ⟨bg, cg, rfl, hbg0, hbg1, hgc⟩ := own_cells st.giv (by omega)
        obtain ⟨bo, co, rfl, hbo0, hbo1, hoc⟩ := own_cells st.out (by omega)
        have S1 := Lib.hid st
        have hTk : T.length ≤ 400 := by have := st.net.le; omega
        have hEl : E.length = T.length := st.len
        clear hst ST
        by_cases hlt : k < n
        · obtain ⟨b, off, rfl, hxc⟩ := HR.out.2 (by omega)
          have hkl : k < xs.length := by rw [HR.out.1]; exact hlt
          obtain ⟨c0, c1, c2, c3, c4⟩ := hxc k hkl
          have xo := HOK.out xs[k] (List.getElem_mem _)
          generalize xs[k] = x at c0 c1 c2 c3 c4 xo
          have XO := Lib.hid xo
          have rng := rng5 (cell_far c0 st.fr) (cell_far c1 st.fr) (cell_far c2 st.fr) (cell_far c3 st.fr) (cell_far c4 st.fr)
          have hI := xo.i1
          obtain ⟨I, hxI⟩ : ∃ I, x.id = I := ⟨_, rfl⟩
          rw [hxI] at rng hI
          clear c0 c1 c2 c3 c4 xo hxc hgc hoc st
          go_upto_region 10 with (refine wpList_load_mid rfl 35 _ rfl b (off + k * 5) rfl _ _ rng Try.underlying35 rfl call_info ?_)
          refine abs_wp (fun W => Hid (Fr (fun _ => False) wr W) ∧ Hid (Blk W wr.heap.size 35 #[.int .i64 x.d, .int .i64 x.a, .int .i64 x.b, .int .u64 (I : Nat), .slice x.A x.m x.c])) ⟨(Fr.refl _ _).alloc _, Blk.new _ _ _⟩ ?_
          rintro w3 ⟨F3, X3⟩
          have S3 := Lib.hid (S1.out.far F3.out)
          clear S1 rng
          obtain ⟨bx, hbx⟩ : ∃ a, wr.heap.size = a := ⟨_, rfl⟩
          rw [hbx] at X3 ⊢
          have q3 : w3.cell? ⟨bx, 3, none⟩ = some (.int .u64 (I : Nat)) := X3.out.cell 3
          go_cut [11] (fun v wx => v = .bool (lookT T I).isSome ∧ wx = w3)
          case first =>
            as_aux_lemma =>
            have hw : IntKind.u64.wrap ((E.length + 1 : Nat) : Int) = ((E.length + 1 : Nat) : Int) := by rw [IntKind.wrap_u64]; omega
            rcases Nat.eq_zero_or_pos I with h0 | h0
            · subst h0
              go_wp2_with fail
              go_meet
              exact ⟨rfl, rfl⟩
            · obtain ⟨j, rfl⟩ : ∃ j, I = j + 1 := ⟨I - 1, by omega⟩
              have d1 : decide ((1 : Int) ≤ ((j + 1 : Nat) : Int)) = true := decide_eq_true (by omega)
              by_cases hj : j < T.length
              · have d2 : decide (((j + 1 : Nat) : Int) < ((E.length + 1 : Nat) : Int)) = true := decide_eq_true (by omega)
                obtain ⟨y, hy⟩ : ∃ y, T[j]? = some y := ⟨_, List.getElem?_eq_getElem hj⟩
                have co1 : w3.cell? ⟨bo, j + 1, none⟩ = some (ocell y) := by
                  obtain ⟨b', c', e', _, _, hc⟩ := own_cells S3.out.out (by omega)
                  injection e' with e' _ _
                  injection e' with e'
                  injection e' with e' _ _
                  rw [e']
                  exact hc (j + 1) _ (ocells_at T j y hy)
                have hlk : lookT T (j + 1) = if y.live then some y else none := by
                  show (match T[j]? with | some x => if x.live then some x else none | none => none) = _
                  rw [hy]
                unfold ocell at co1
                cases hyl : y.live
                · rw [hyl] at co1 hlk
                  simp only [Bool.false_eq_true, if_false] at co1 hlk
                  go_wp2_with fail
                  go_meet
                  exact ⟨by rw [hlk]; rfl, rfl⟩
                · rw [hyl] at co1 hlk
                  simp only [if_true] at co1 hlk
                  go_wp2_with fail
                  go_meet
                  exact ⟨by rw [hlk]; rfl, rfl⟩
              · have d2 : decide (((j + 1 : Nat) : Int) < ((E.length + 1 : Nat) : Int)) = false := decide_eq_false (by omega)
                have hlk : lookT T (j + 1) = none := by
                  show (match T[j]? with | some x => if x.live then some x else none | none => none) = _
                  rw [List.getElem?_eq_none (by omega)]
                go_wp2_with fail
                go_meet
                exact ⟨by rw [hlk]; rfl, rfl⟩
          case rest =>
            as_aux_lemma =>
            obtain ⟨rfl, rfl⟩ := hcut
            have S4 : Hid (OnS w b0 g mb R k T E (.slice (some ⟨bg, 0, none⟩) (T.length + 1) cg) (.slice (some ⟨bo, 0, none⟩) (T.length + 1) co) wc) := by have := S3.out; rwa [hEl] at this
            have HX : Hid (b0 ≤ bx) := by have := hbg0; show b0 ≤ bx; omega
            have HG : Hid (g < b0 ∧ mb < b0) := ⟨S4.out.net.gb, S4.out.net.mbb⟩
            have q0 : wc.cell? ⟨bx, 0, none⟩ = some (.int .i64 x.d) := X3.out.cell 0
            have q1 : wc.cell? ⟨bx, 1, none⟩ = some (.int .i64 x.a) := X3.out.cell 1
            have q2 : wc.cell? ⟨bx, 2, none⟩ = some (.int .i64 x.b) := X3.out.cell 2
            have q4 : wc.cell? ⟨bx, 4, none⟩ = some (.slice x.A x.m x.c) := X3.out.cell 4
            have hw : IntKind.u64.wrap ((T.length + 1 : Nat) : Int) = ((T.length + 1 : Nat) : Int) := by rw [IntKind.wrap_u64]; omega
            clear S3 hbx F3
            by_cases h0 : x.d = 0
            · as_aux_lemma =>
              have e0 : (x.d == 0) = true := by rw [h0]; rfl
              go_wp2_with fail
              refine (gh_send S4.out.net (by omega) HR4.out x.a x.b x.A x.m x.c x.bs (XO.out.rd.far S4.out.fr)).mono ?_
              rintro e w4 (⟨F, T', hF, hT, rfl, nt, f4⟩ | ⟨v, hv, rfl, f4⟩)
              · have NT := Lib.hid nt
                have HF := Lib.hid hF
                have HT := Lib.hid hT
                have F4 := Lib.hid f4
                have X4 := Lib.hid (X3.out.fr f4 (fun e => by have := HX.out; have := HG.out; rcases e with e | e <;> omega))
                have O5 := Lib.hid (fun o (w5 : World) f5 => S4.out.out5 f4 o (w5 := w5) f5)
                have G4 := Lib.hid (S4.out.giv4 f4)
                rw [hEl] at G4
                clear q0 q1 q2 q3 q4 nt f4 hF hT
                have q1 : w4.cell? ⟨bx, 1, none⟩ = some (.int .i64 x.a) := X4.out.cell 1
                have q2 : w4.cell? ⟨bx, 2, none⟩ = some (.int .i64 x.b) := X4.out.cell 2
                have q4 : w4.cell? ⟨bx, 4, none⟩ = some (.slice x.A x.m x.c) := X4.out.cell 4
                have HSZ : Hid (b0 ≤ w4.heap.size) := NT.out.sz
                go_wp2_with (first
                  | (refine wpList_app rfl (.tmp 89) (.tmp 97) _ _ rfl b0 51 i2 _ 3 40 Try.underlying60 mi mz0 mz1 mz2 rfl _ (T.length + 1) (gcells E) rfl (own_far G4.out ((Fr.refl _ _).alloc _)) _ 1 [.int .i64 x.a, .int .i64 x.b, .slice x.A x.m x.c] rfl
                       (src_blk Try.underlying60 1 (Blk.new w4 51 #[.int .i64 x.a, .int .i64 x.b, .slice x.A x.m x.c]) rfl (by intro u hu; simp at hu; rcases hu with rfl | rfl | rfl <;> rfl)) (by omega) (by unfold maxLen; omega) (by rw [World.size_alloc]; have := HSZ.out; omega) ?_
                     rintro gv5 w5 g5 fr5 hn5
                     obtain ⟨bg5, cg5, rfl, _, _, _⟩ := own_cells g5 (by omega)
                     have G5 := Lib.hid g5
                     have FR5 := Lib.hid fr5
                     have OUT5 := Lib.hid (O5.out _ w5 fr5)
                     have HSZ5 : Hid (b0 ≤ w5.heap.size) := Nat.le_trans HSZ.out (Nat.le_trans (by rw [World.size_alloc]; omega) fr5.size)
                     clear g5 fr5 hn5)
                  | (refine wpList_app rfl (.tmp 99) (.tmp 100) _ _ rfl b0 3 i3 _ 1 8 Try.underlying61 ni nz0 nz1 nz2 rfl _ (T.length + 1) (ocells T) rfl (own_far OUT5.out ((Fr.refl _ _).alloc _)) _ 1 [.int .i64 0] rfl
                       (src_blk Try.underlying61 1 (Blk.new w5 3 #[.int .i64 0]) rfl (by intro u hu; simp at hu; subst hu; rfl)) (by omega) (by unfold maxLen; omega) (by rw [World.size_alloc]; have := HSZ5.out; omega) ?_
                     rintro ov6 w6 o6 fr6 hn6
                     obtain ⟨bo6, co6, rfl, _, _, _⟩ := own_cells o6 (by omega)
                     have O6 := Lib.hid o6
                     have FR6 := Lib.hid fr6
                     clear o6 fr6 hn6))
                refine ⟨⟨k + 1, by omega, by go_num, T ++ [⟨F, T', x.bs, true⟩], E ++ [⟨F, T', x.A, x.m, x.c⟩], ?_⟩, by simp [intOf]; omega⟩
                have g5' := G5.out
                rw [HF.out, HT.out] at g5'
                have h := S4.out.add F4.out NT.out rfl _ (e := ⟨F, T', x.A, x.m, x.c⟩) g5' FR5.out _ O6.out FR6.out ⟨rfl, rfl, by show x.m = x.bs.length; rw [← XO.out.rd.1, bv_length], XO.out.rd⟩
                exact h
              · have F4 := Lib.hid f4
                have ev : (v == 0) = false := beq_eq_false_iff_ne.2 hv
                clear f4
                go_wp2_with fail
                refine ⟨⟨k + 1, by omega, by go_num, T, E, (S4.out.far F4.out).up⟩, by simp [intOf]; omega⟩
            · as_aux_lemma =>
              have e0 : (x.d == 0) = false := beq_eq_false_iff_ne.2 h0
              by_cases h3 : x.d = 3
              · as_aux_lemma =>
                have e3 : (x.d == 3) = true := by rw [h3]; rfl
                cases hL : lookT T I with
                | none =>
                  as_aux_lemma =>
                  go_wp2_with fail
                  refine (gh_double_none S4.out.net hI hL).mono ?_
                  rintro e w4 ⟨rfl, f4⟩
                  have F4 := Lib.hid f4
                  clear f4
                  go_wp2_with fail
                  refine ⟨⟨k + 1, by omega, by go_num, T, E, (S4.out.far F4.out).up⟩, by simp [intOf]; omega⟩
                | some y =>
                  as_aux_lemma =>
                  obtain ⟨j, rfl, hTj, hyl⟩ := lookT_some hL
                  have hj : j < T.length := (List.getElem?_eq_some_iff.1 hTj).1
                  obtain ⟨ge, hge⟩ : ∃ ge, E[j]? = some ge := ⟨_, List.getElem?_eq_getElem (by omega)⟩
                  have HE := Lib.hid (S4.out.each j ge y hge hTj)
                  have HTJ := Lib.hid hTj
                  have HGE := Lib.hid hge
                  have HIS : Hid ((lookT T (j + 1)).isSome = true) := by show (lookT T (j + 1)).isSome = true; rw [hL]; rfl
                  have his := HIS.out
                  have GD := Lib.hid (gh_double S4.out.net (by omega) hI hL)
                  clear hTj hge hL hyl
                  go_wp2_with fail
                  refine GD.out.mono ?_
                  rintro e w4 (⟨rfl, nt, f4⟩ | ⟨rfl, f4⟩)
                  · have NT := Lib.hid nt
                    have F4 := Lib.hid f4
                    have X4 := Lib.hid (X3.out.fr f4 (fun e => by have := HX.out; have := HG.out; rcases e with e | e <;> omega))
                    have O5 := Lib.hid (fun o (w5 : World) f5 => S4.out.out5 f4 o (w5 := w5) f5)
                    have G4 := Lib.hid (S4.out.giv4 f4)
                    rw [hEl] at G4
                    have RG : Hid (w4.rangeAt bg ((j + 1) * 3) (gcell ge)) := fun q v hv => by
                      have hq : q < 3 := (List.getElem?_eq_some_iff.1 hv).1
                      obtain ⟨b', c', e', _, _, hc⟩ := own_cells G4.out (by omega)
                      injection e' with e' _ _
                      injection e' with e'
                      injection e' with e' _ _
                      rw [e']
                      exact hc _ _ (by rw [gcells_at E j ge HGE.out q hq]; exact hv)
                    clear q0 q1 q2 q3 q4 nt f4
                    have q3 : w4.cell? ⟨bx, 3, none⟩ = some (.int .u64 ((j + 1 : Nat) : Int)) := X4.out.cell 3
                    have HSZ : Hid (b0 ≤ w4.heap.size) := NT.out.sz
                    go_wp2_with (first
                      | (refine wpList_load_mid rfl 51 _ rfl bg ((j + 1) * 3) rfl [.int .i64 (ge.f : Nat), .int .i64 (ge.t : Nat), .slice ge.A ge.m ge.c] _ RG.out Try.underlying51 rfl tMsg_size ?_)
                      | (refine wpList_app rfl (.tmp 122) (.tmp 128) _ _ rfl b0 51 i2 _ 3 40 Try.underlying60 mi mz0 mz1 mz2 rfl _ (T.length + 1) (gcells E) rfl (own_far G4.out ((Fr.refl _ _).alloc _)) _ 1 (gcell ge) rfl
                           (src_blk Try.underlying60 1 (Blk.new w4 51 #[.int .i64 (ge.f : Nat), .int .i64 (ge.t : Nat), .slice ge.A ge.m ge.c]) rfl (by intro u hu; simp at hu; rcases hu with rfl | rfl | rfl <;> rfl)) (by omega) (by unfold maxLen; omega) (by rw [World.size_alloc]; have := HSZ.out; omega) ?_
                         rintro gv5 w5 g5 fr5 hn5
                         obtain ⟨bg5, cg5, rfl, _, _, _⟩ := own_cells g5 (by omega)
                         have G5 := Lib.hid g5
                         have FR5 := Lib.hid fr5
                         have OUT5 := Lib.hid (O5.out _ w5 fr5)
                         have HSZ5 : Hid (b0 ≤ w5.heap.size) := Nat.le_trans HSZ.out (Nat.le_trans (by rw [World.size_alloc]; omega) fr5.size)
                         clear g5 fr5 hn5)
                      | (refine wpList_app rfl (.tmp 130) (.tmp 131) _ _ rfl b0 3 i3 _ 1 8 Try.underlying61 ni nz0 nz1 nz2 rfl _ (T.length + 1) (ocells T) rfl (own_far OUT5.out ((Fr.refl _ _).alloc _)) _ 1 [.int .i64 0] rfl
                           (src_blk Try.underlying61 1 (Blk.new w5 3 #[.int .i64 0]) rfl (by intro u hu; simp at hu; subst hu; rfl)) (by omega) (by unfold maxLen; omega) (by rw [World.size_alloc]; have := HSZ5.out; omega) ?_
                         rintro ov6 w6 o6 fr6 hn6
                         obtain ⟨bo6, co6, rfl, _, _, _⟩ := own_cells o6 (by omega)
                         have O6 := Lib.hid o6
                         have FR6 := Lib.hid fr6
                         clear o6 fr6 hn6))
                    refine ⟨⟨k + 1, by omega, by go_num, T ++ [⟨y.f, y.t, y.bs, true⟩], E ++ [ge], ?_⟩, by simp [intOf]; omega⟩
                    exact S4.out.add F4.out NT.out rfl _ (e := ge) G5.out FR5.out _ O6.out FR6.out HE.out
                  · have F4 := Lib.hid f4
                    clear f4
                    go_wp2_with fail
                    refine ⟨⟨k + 1, by omega, by go_num, T, E, (S4.out.far F4.out).up⟩, by simp [intOf]; omega⟩
              · as_aux_lemma =>
                have e3 : (x.d == 3) = false := beq_eq_false_iff_ne.2 h3
                by_cases h12 : x.d = 1 ∨ x.d = 2
                · cases hL : lookT T I with
                  | none =>
                    as_aux_lemma =>
                    have his : (lookT T I).isSome = false := by rw [hL]; rfl
                    have A1 := Lib.hid (gh_at_none S4.out.net hI hL)
                    have D1 : Hid (∀ W, Fr (fun _ => False) wc W → Calls Try.prog 16 #[.pointer (some ⟨g, 0, none⟩), .int .u64 (I : Nat)] W fun e w' => e = .returned (.tuple #[.agg #[.int .i64 0, .int .i64 0, .slice none 0 0], .int .i64 4]) ∧ Fr (fun _ => False) W w') := fun W hW => gh_deliver_none (S4.out.net.far hW) hI hL
                    have P1 : Hid (∀ W, Fr (fun _ => False) wc W → Calls Try.prog 19 #[.pointer (some ⟨g, 0, none⟩), .int .u64 (I : Nat)] W fun e w' => e = .returned (.int .i64 4) ∧ Fr (fun _ => False) W w') := fun W hW => gh_drop_none (S4.out.net.far hW) hI hL
                    clear hL
                    rcases h12 with h1 | h2
                    · as_aux_lemma =>
                      have e1 : (x.d == 1) = true := by rw [h1]; rfl
                      go_wp2_with fail
                      refine A1.out.mono ?_
                      rintro e w4 ⟨A9, n9, c9, rfl, f4⟩
                      have F4 := Lib.hid f4
                      have XA := ((keepB X3.out f4).alloc (.cells #[.int .i64 0, .int .i64 0, .slice A9 n9 c9] 51))
                      clear q0 q1 q2 q3 q4 f4
                      have q0 : (w4.alloc (.cells #[.int .i64 0, .int .i64 0, .slice A9 n9 c9] 51)).cell? ⟨bx, 0, none⟩ = some (.int .i64 x.d) := XA.cell 0
                      have q3 : (w4.alloc (.cells #[.int .i64 0, .int .i64 0, .slice A9 n9 c9] 51)).cell? ⟨bx, 3, none⟩ = some (.int .u64 (I : Nat)) := XA.cell 3
                      clear XA
                      go_wp2_with fail
                      refine (D1.out _ (F4.out.alloc _)).mono ?_
                      rintro e w5 ⟨rfl, f5⟩
                      have F5 : Hid (Fr (fun _ => False) wc w5) := (F4.out.alloc _).trans f5 (fun _ _ h => h)
                      have Y5 := Lib.hid (keepB (Blk.new w4 51 #[.int .i64 0, .int .i64 0, .slice A9 n9 c9]) f5)
                      clear q0 q3 f5
                      go_wp2_with (refine wpList_store_blk rfl 51 _ _ rfl w4.heap.size _ rfl rfl Y5.out rfl tMsg_size (by first | rfl | kernel_rfl) ?_
                                   rintro W6 b6 f6
                                   have F6 : Hid (Fr (fun _ => False) wc W6) := F5.out.trans f6 (fun q hq e => by have e' : q = w4.heap.size := e; have := F4.out.size; omega)
                                   clear b6 f6)
                      go_quiet (fail)
                      have F7 := Lib.hid (F6.out.drewN nq)
                      generalize W6.drewN nq = w7 at *
                      go_wp2_with fail
                      refine ⟨⟨k + 1, by omega, by go_num, T, E, (S4.out.far F7.out).up⟩, by simp [intOf]; omega⟩
                    · as_aux_lemma =>
                      have e1 : (x.d == 1) = false := by rw [h2]; rfl
                      have e2 : (x.d == 2) = true := by rw [h2]; rfl
                      go_wp2_with fail
                      refine A1.out.mono ?_
                      rintro e w4 ⟨A9, n9, c9, rfl, f4⟩
                      have F4 := Lib.hid f4
                      have XA := ((keepB X3.out f4).alloc (.cells #[.int .i64 0, .int .i64 0, .slice A9 n9 c9] 51))
                      clear q0 q1 q2 q3 q4 f4
                      have q0 : (w4.alloc (.cells #[.int .i64 0, .int .i64 0, .slice A9 n9 c9] 51)).cell? ⟨bx, 0, none⟩ = some (.int .i64 x.d) := XA.cell 0
                      have q3 : (w4.alloc (.cells #[.int .i64 0, .int .i64 0, .slice A9 n9 c9] 51)).cell? ⟨bx, 3, none⟩ = some (.int .u64 (I : Nat)) := XA.cell 3
                      clear XA
                      go_wp2_with fail
                      refine (P1.out _ (F4.out.alloc _)).mono ?_
                      rintro e w5 ⟨rfl, f5⟩
                      have F5 : Hid (Fr (fun _ => False) wc w5) := (F4.out.alloc _).trans f5 (fun _ _ h => h)
                      clear q0 q3 f5
                      go_wp2_with fail
                      go_quiet (fail)
                      have F7 := Lib.hid (F5.out.drewN nq)
                      generalize w5.drewN nq = w7 at *
                      go_wp2_with fail
                      refine ⟨⟨k + 1, by omega, by go_num, T, E, (S4.out.far F7.out).up⟩, by simp [intOf]; omega⟩
                  | some y =>
                    as_aux_lemma =>
                    obtain ⟨j, rfl, hTj, hyl⟩ := lookT_some hL
                    have hj : j < T.length := (List.getElem?_eq_some_iff.1 hTj).1
                    obtain ⟨ge, hge⟩ : ∃ ge, E[j]? = some ge := ⟨_, List.getElem?_eq_getElem (by omega)⟩
                    obtain ⟨gf, gt, gA, gm, gc⟩ := ge
                    obtain ⟨hef, het, hem, her⟩ := S4.out.each j _ y hge hTj
                    have hef : gf = y.f := hef
                    have het : gt = y.t := het
                    have hem : gm = y.bs.length := hem
                    subst hef het hem
                    have HER := Lib.hid her
                    have HTJ := Lib.hid hTj
                    have HGE := Lib.hid hge
                    have his : (lookT T (j + 1)).isSome = true := by rw [hL]; rfl
                    have A1 := Lib.hid (gh_at S4.out.net hI hL)
                    have D1 : Hid (∀ W, Fr (fun _ => False) wc W → Calls Try.prog 16 #[.pointer (some ⟨g, 0, none⟩), .int .u64 ((j + 1 : Nat) : Int)] W fun e w' => ∃ A c, e = .returned (.tuple #[.agg #[.int .i64 (y.f : Nat), .int .i64 (y.t : Nat), .slice A y.bs.length c], .int .i64 0]) ∧
                      w'.ownsRow W.heap.size 5 1 (.slice A y.bs.length c) y.bs.length (bv y.bs) ∧ NetAt w' b0 g mb R (kill T j y) (k + 1) ∧ Fr (Gm g mb) W w') := fun W hW => gh_deliver (S4.out.net.far hW) (by omega) hI hL
                    have P1 : Hid (∀ W, Fr (fun _ => False) wc W → Calls Try.prog 19 #[.pointer (some ⟨g, 0, none⟩), .int .u64 ((j + 1 : Nat) : Int)] W fun e w' => e = .returned (.int .i64 0) ∧ NetAt w' b0 g mb R (kill T j y) (k + 1) ∧ Fr (Gm g mb) W w') := fun W hW => gh_drop (S4.out.net.far hW) (by omega) hI hL
                    clear hL hyl hTj hge her
                    rcases h12 with h1 | h2
                    · as_aux_lemma =>
                      have e1 : (x.d == 1) = true := by rw [h1]; rfl
                      go_wp2_with fail
                      refine A1.out.mono ?_
                      rintro e w4 ⟨A9, c9, rfl, o4, f4⟩
                      have F4 := Lib.hid f4
                      have XA := Lib.hid ((keepB X3.out f4).alloc (.cells #[.int .i64 (y.f : Nat), .int .i64 (y.t : Nat), .slice A9 y.bs.length c9] 51))
                      clear q0 q1 q2 q3 q4 f4 o4
                      have q0 : (w4.alloc (.cells #[.int .i64 (y.f : Nat), .int .i64 (y.t : Nat), .slice A9 y.bs.length c9] 51)).cell? ⟨bx, 0, none⟩ = some (.int .i64 x.d) := XA.out.cell 0
                      have q3 : (w4.alloc (.cells #[.int .i64 (y.f : Nat), .int .i64 (y.t : Nat), .slice A9 y.bs.length c9] 51)).cell? ⟨bx, 3, none⟩ = some (.int .u64 ((j + 1 : Nat) : Int)) := XA.out.cell 3
                      go_wp2_with fail
                      refine (D1.out _ (F4.out.alloc _)).mono ?_
                      rintro e w5 ⟨A5, c5, rfl, o5, nt, f5⟩
                      have HWC : Hid (b0 ≤ wc.heap.size) := S4.out.net.sz
                      have HW4 : Hid (b0 ≤ w4.heap.size) := by have h1 := F4.out.size; have h2 := S4.out.net.sz; show b0 ≤ _; omega
                      have Y5 := Lib.hid ((Blk.new w4 51 #[.int .i64 (y.f : Nat), .int .i64 (y.t : Nat), .slice A9 y.bs.length c9]).fr f5 (fun e => by have := HW4.out; have := HG.out; rcases e with e | e <;> omega))
                      have X5 := Lib.hid (XA.out.fr f5 (fun e => by have := HX.out; have := HG.out; rcases e with e | e <;> omega))
                      have V5 := Lib.hid o5
                      have VB : Hid (∀ q, (Value.slice A5 y.bs.length c5).ownBlock = some q → w4.heap.size < q) := fun q hq => by have := (World.ownsRow.lt o5 q hq).1; rw [World.size_alloc] at this; omega
                      have NT := Lib.hid nt
                      have F5 : Hid (Fr (Gm g mb) wc w5) := ((F4.out.mono (fun _ _ h => h.elim)).alloc _).trans f5 (fun _ _ h => h)
                      clear q0 q3 f5 o5 nt XA
                      have q0 : w5.cell? ⟨bx, 0, none⟩ = some (.int .i64 x.d) := X5.out.cell 0
                      go_upto_region 36 with (
                        (refine wpList_store_blk rfl 51 _ _ rfl w4.heap.size _ rfl rfl Y5.out rfl tMsg_size (by first | rfl | kernel_rfl) ?_
                         rintro W6 b6 f6
                         have KM := Lib.hid b6
                         have F6 : Hid (Fr (Gm g mb) wc W6) := F5.out.trans f6 (fun q hq e => by have e' : q = w4.heap.size := e; have := F4.out.size; omega)
                         have NT6 := Lib.hid (NT.out.fr f6 (fun q e => by have e' : q = w4.heap.size := e; subst e'; exact ⟨_, _, Y5.out, by decide, by decide⟩))
                         have RA := Lib.hid (Rd.of_own (own_fr V5.out f6 (fun q hq e => by have e' : q = w4.heap.size := e; have := VB.out q hq; omega)))
                         clear b6 f6))
                      have KX : Hid (Blk W6 bx 35 #[.int .i64 x.d, .int .i64 x.a, .int .i64 x.b, .int .u64 ((j + 1 : Nat) : Int), .slice x.A x.m x.c]) := X3.out.fr F6.out (fun e => by have := HX.out; have := HG.out; rcases e with e | e <;> omega)
                      have G6 := Lib.hid (S4.out.giv4 F6.out)
                      rw [hEl] at G6
                      have RG : Hid (W6.rangeAt bg ((j + 1) * 3) (gcell ⟨y.f, y.t, gA, y.bs.length, gc⟩)) := fun q v hv => by
                        have hq : q < 3 := (List.getElem?_eq_some_iff.1 hv).1
                        obtain ⟨b', c', e', _, _, hc⟩ := own_cells G6.out (by omega)
                        injection e' with e' _ _
                        injection e' with e'
                        injection e' with e' _ _
                        rw [e']
                        exact hc _ _ (by rw [gcells_at E j _ HGE.out q hq]; exact hv)
                      have RB : Hid (Rd W6 gA y.bs.length (bv y.bs)) := HER.out.far (S4.out.fr4 F6.out)
                      have HJ := Lib.hid hj
                      go_cut [176] (fun v wx => v = .bool false ∧ Hid (Fr (fun _ => False) W6 wx))
                      case first =>
                        as_aux_lemma =>
                        try simp only [his]
                        refine (wpIn_wide (n := 9)).1 ?_
                        refine wpIn_region_factsG (ms := [0, 1, 0, 7, 15, 31, 63, 127, 127, 127, 639, 1919, 3967, 8191, 16383, 32767, 65535]) (k := 16) (Fr (fun _ => False)) (o6X bx bg j y.f y.t y.bs.length T.length c5 gc cg A5 gA) (fun i v W => True) (by kernel_rfl) (by kernel_rfl) (Fr.refl _ _) (fun a b c h1 h2 => h1.trans h2 (fun _ _ h => h)) (fun i v w w' hg hx => o6X_far hg hx) ?walk36
                        case walk36 =>
                        have hdr : ∀ W, Fr (fun _ => False) W6.drew W → Fr (fun _ => False) W6 W := fun W h => ((Fr.refl (fun _ => False) W6).drew).trans h (fun _ _ h => h)
                        have HDR := Lib.hid hdr
                        clear hdr
                        refine factWalkG_cons (fun W hW hf K hK => ?_) (fun x0 => ?_)
                        · skip
                          refine ⟨by kernel_rfl, ?_⟩
                          gi_step
                          exact hK _ _ (Fr.refl _ _) rfl trivial
                        simp only [Act.put, List.setIfInBounds_toArray, List.set_cons_succ, List.set_cons_zero]
                        refine factWalkG_cons (fun W hW hf K hK => ?_) (fun x1 => ?_)
                        · skip
                          have e0 : x0 = .int .i64 0 := hf 0 (by omega) (by kernel_rfl)
                          subst e0
                          refine ⟨by kernel_rfl, ?_⟩
                          gi_step
                          exact hK _ _ (Fr.refl _ _) rfl trivial
                        simp only [Act.put, List.setIfInBounds_toArray, List.set_cons_succ, List.set_cons_zero]
                        refine factWalkG_cons (fun W hW hf K hK => ?_) (fun x2 => ?_)
                        · skip
                          refine ⟨by kernel_rfl, ?_⟩
                          gi_step
                          exact hK _ _ (Fr.refl _ _) rfl trivial
                        simp only [Act.put, List.setIfInBounds_toArray, List.set_cons_succ, List.set_cons_zero]
                        refine factWalkG_cons (fun W hW hf K hK => ?_) (fun x3 => ?_)
                        · skip
                          have e1 : x1 = .bool true := hf 1 (by omega) (by kernel_rfl)
                          have e2 : x2 = .bool true := hf 2 (by omega) (by kernel_rfl)
                          subst e1 e2
                          refine ⟨by kernel_rfl, ?_⟩
                          gi_step
                          exact hK _ _ (Fr.refl _ _) rfl trivial
                        simp only [Act.put, List.setIfInBounds_toArray, List.set_cons_succ, List.set_cons_zero]
                        refine factWalkG_cons (fun W hW hf K hK => ?_) (fun x4 => ?_)
                        · skip
                          have e3 : x3 = .bool false := hf 3 (by omega) (by kernel_rfl)
                          subst e3
                          refine ⟨by kernel_rfl, ?_⟩
                          gi_step
                          exact hK _ _ (Fr.refl _ _) rfl trivial
                        simp only [Act.put, List.setIfInBounds_toArray, List.set_cons_succ, List.set_cons_zero]
                        refine factWalkG_cons (fun W hW hf K hK => ?_) (fun x5 => ?_)
                        · skip
                          have e4 : x4 = .bool false := hf 4 (by omega) (by kernel_rfl)
                          subst e4
                          refine ⟨by kernel_rfl, ?_⟩
                          gi_step
                          exact hK _ _ (Fr.refl _ _) rfl trivial
                        simp only [Act.put, List.setIfInBounds_toArray, List.set_cons_succ, List.set_cons_zero]
                        refine factWalkG_cons (fun W hW hf K hK => ?_) (fun x6 => ?_)
                        · skip
                          have e4 : x4 = .bool false := hf 4 (by omega) (by kernel_rfl)
                          have e5 : x5 = .bool true := hf 5 (by omega) (by kernel_rfl)
                          subst e4 e5
                          refine ⟨by kernel_rfl, ?_⟩
                          gi_step
                          exact hK _ _ (Fr.refl _ _) rfl trivial
                        simp only [Act.put, List.setIfInBounds_toArray, List.set_cons_succ, List.set_cons_zero]
                        refine factWalkG_cons (fun W hW hf K hK => ?_) (fun x7 => ?_)
                        · skip
                          have e6 : x6 = .bool true := hf 6 (by omega) (by kernel_rfl)
                          subst e6
                          have hM := keepB KM.out (HDR.out W hW)
                          have m0 : W.cell? ⟨w4.heap.size, 0, none⟩ = some (.int .i64 (y.f : Nat)) := hM.cell 0
                          have m1 : W.cell? ⟨w4.heap.size, 1, none⟩ = some (.int .i64 (y.t : Nat)) := hM.cell 1
                          have m2 : W.cell? ⟨w4.heap.size, 2, none⟩ = some (.slice A5 y.bs.length c5) := hM.cell 2
                          refine ⟨by kernel_rfl, ?_⟩
                          gi_step
                          exact hK _ _ (Fr.refl _ _) rfl trivial
                        simp only [Act.put, List.setIfInBounds_toArray, List.set_cons_succ, List.set_cons_zero]
                        refine factWalkG_cons (fun W hW hf K hK => ?_) (fun x8 => ?_)
                        · skip
                          have e6 : x6 = .bool true := hf 6 (by omega) (by kernel_rfl)
                          subst e6
                          refine ⟨by kernel_rfl, ?_⟩
                          gi_step
                          exact hK _ _ (Fr.refl _ _) rfl trivial
                        simp only [Act.put, List.setIfInBounds_toArray, List.set_cons_succ, List.set_cons_zero]
                        refine factWalkG_cons (fun W hW hf K hK => ?_) (fun x9 => ?_)
                        · skip
                          have e6 : x6 = .bool true := hf 6 (by omega) (by kernel_rfl)
                          subst e6
                          refine ⟨by kernel_rfl, ?_⟩
                          gi_step
                          exact hK _ _ (Fr.refl _ _) rfl trivial
                        simp only [Act.put, List.setIfInBounds_toArray, List.set_cons_succ, List.set_cons_zero]
                        refine factWalkG_cons (fun W hW hf K hK => ?_) (fun x10 => ?_)
                        · skip
                          have e6 : x6 = .bool true := hf 6 (by omega) (by kernel_rfl)
                          have e9 : x9 = .pointer (some ⟨bx, 3, none⟩) := hf 9 (by omega) (by kernel_rfl)
                          subst e6 e9
                          have q3 : W.cell? ⟨bx, 3, none⟩ = some (.int .u64 ((j + 1 : Nat) : Int)) := (keepB KX.out (HDR.out W hW)).cell 3
                          refine ⟨by kernel_rfl, ?_⟩
                          gi_step
                          exact hK _ _ (Fr.refl _ _) rfl trivial
                        simp only [Act.put, List.setIfInBounds_toArray, List.set_cons_succ, List.set_cons_zero]
                        refine factWalkG_cons (fun W hW hf K hK => ?_) (fun x11 => ?_)
                        · skip
                          have e6 : x6 = .bool true := hf 6 (by omega) (by kernel_rfl)
                          have e8 : x8 = .slice (some ⟨bg, 0, none⟩) (T.length + 1) cg := hf 8 (by omega) (by kernel_rfl)
                          have e10 : x10 = .int .u64 ((j + 1 : Nat) : Int) := hf 10 (by omega) (by kernel_rfl)
                          subst e6 e8 e10
                          have hj := HJ.out
                          refine ⟨by kernel_rfl, ?_⟩
                          gi_step
                          exact hK _ _ (Fr.refl _ _) rfl trivial
                        simp only [Act.put, List.setIfInBounds_toArray, List.set_cons_succ, List.set_cons_zero]
                        refine factWalkG_cons (fun W hW hf K hK => ?_) (fun x12 => ?_)
                        · skip
                          have e6 : x6 = .bool true := hf 6 (by omega) (by kernel_rfl)
                          have e11 : x11 = .pointer (some ⟨bg, (j + 1) * 3, none⟩) := hf 11 (by omega) (by kernel_rfl)
                          subst e6 e11
                          have g0 : W.cell? ⟨bg, (j + 1) * 3, none⟩ = some (.int .i64 (y.f : Nat)) := cell_far (RG.out 0 _ rfl) (HDR.out W hW)
                          have g1 : W.cell? ⟨bg, (j + 1) * 3 + 1, none⟩ = some (.int .i64 (y.t : Nat)) := cell_far (RG.out 1 _ rfl) (HDR.out W hW)
                          have g2 : W.cell? ⟨bg, (j + 1) * 3 + 2, none⟩ = some (.slice gA y.bs.length gc) := cell_far (RG.out 2 _ rfl) (HDR.out W hW)
                          refine ⟨by kernel_rfl, ?_⟩
                          gi_step
                          exact hK _ _ (Fr.refl _ _) rfl trivial
                        simp only [Act.put, List.setIfInBounds_toArray, List.set_cons_succ, List.set_cons_zero]
                        refine factWalkG_cons (fun W hW hf K hK => ?_) (fun x13 => ?_)
                        · skip
                          have e6 : x6 = .bool true := hf 6 (by omega) (by kernel_rfl)
                          have e7 : x7 = .agg #[.int .i64 (y.f : Nat), .int .i64 (y.t : Nat), .slice A5 y.bs.length c5] := hf 7 (by omega) (by kernel_rfl)
                          have e12 : x12 = .agg #[.int .i64 (y.f : Nat), .int .i64 (y.t : Nat), .slice gA y.bs.length gc] := hf 12 (by omega) (by kernel_rfl)
                          subst e6 e7 e12
                          refine ⟨by kernel_rfl, ?_⟩
                          gi_step
                          refine ⟨trivial, ?_⟩
                          refine (callsIn_wide.2 (same_c W _ _ A5 gA y.bs.length c5 gc y.bs (RA.out.far (HDR.out W hW)) (RB.out.far (HDR.out W hW)))).mono ?_
                          rintro e W' ⟨rfl, f2⟩
                          dsimp only
                          exact hK _ _ f2 rfl trivial
                        simp only [Act.put, List.setIfInBounds_toArray, List.set_cons_succ, List.set_cons_zero]
                        refine factWalkG_cons (fun W hW hf K hK => ?_) (fun x14 => ?_)
                        · skip
                          have e6 : x6 = .bool true := hf 6 (by omega) (by kernel_rfl)
                          have e13 : x13 = .bool true := hf 13 (by omega) (by kernel_rfl)
                          subst e6 e13
                          refine ⟨by kernel_rfl, ?_⟩
                          gi_step
                          exact hK _ _ (Fr.refl _ _) rfl trivial
                        simp only [Act.put, List.setIfInBounds_toArray, List.set_cons_succ, List.set_cons_zero]
                        refine factWalkG_cons (fun W hW hf K hK => ?_) (fun x15 => ?_)
                        · skip
                          have e4 : x4 = .bool false := hf 4 (by omega) (by kernel_rfl)
                          have e6 : x6 = .bool true := hf 6 (by omega) (by kernel_rfl)
                          have e14 : x14 = .bool false := hf 14 (by omega) (by kernel_rfl)
                          subst e4 e6 e14
                          refine ⟨by kernel_rfl, ?_⟩
                          gi_step
                          exact hK _ _ (Fr.refl _ _) rfl trivial
                        simp only [Act.put, List.setIfInBounds_toArray, List.set_cons_succ, List.set_cons_zero]
                        refine factWalkG_nil (fun W hW hf hmet => ?_)
                        have e4 : x4 = .bool false := hf 4 (by omega)
                        have e15 : x15 = .bool false := hf 15 (by omega)
                        subst e4 e15
                        have F8 : Fr (fun _ => False) W6 W := HDR.out W hW
                        clear hf hmet hW HDR
                        change wpAnyIn _ _ _ _ _ _ 1 _ _ _
                        refine wpAnyIn_ready (rs := [16]) (by kernel_rfl) (by simp) ?_
                        refine AllReadyIn.cons rfl (fun K hK => ?_) AllReadyIn.nil
                        go_simp
                        refine hK _ _ ?_
                        refine wpAnyIn_done (by kernel_rfl) ?_ _
                        clear hK K
                        go_wp2_with fail
                        go_meet
                        exact ⟨rfl, F8⟩
                      case rest =>
                        as_aux_lemma =>
                        obtain ⟨rfl, F7⟩ := hcut
                        have q3 : wc.cell? ⟨bx, 3, none⟩ = some (.int .u64 ((j + 1 : Nat) : Int)) := (keepB KX.out F7.out).cell 3
                        have O7 := Lib.hid (own_far (S4.out.out4 F6.out) F7.out)
                        have oc : wc.cell? ⟨bo, j + 1, none⟩ = some (ocell y) := by
                          obtain ⟨b', c', e', _, _, hc⟩ := own_cells O7.out (by omega)
                          injection e' with e' _ _
                          injection e' with e'
                          injection e' with e' _ _
                          rw [e']
                          exact hc _ _ (ocells_at T j y HTJ.out)
                        have ofz : wc.frozen? ⟨bo, j + 1, none⟩ = false := by
                          obtain ⟨cs, hb⟩ := row_blk O7.out rfl
                          exact hb.frozen _
                        go_wp2_with fail
                        have hL : (kill T j y).length = T.length := by unfold kill; rw [List.length_set]
                        refine ⟨⟨k + 1, by omega, by go_num, kill T j y, E, S4.out.kill F6.out NT6.out HTJ.out F7.out⟩, by simp [intOf]; omega⟩
                    · as_aux_lemma =>
                      have e1 : (x.d == 1) = false := by rw [h2]; rfl
                      have e2 : (x.d == 2) = true := by rw [h2]; rfl
                      go_wp2_with fail
                      refine A1.out.mono ?_
                      rintro e w4 ⟨A9, c9, rfl, o4, f4⟩
                      have F4 := Lib.hid f4
                      have XA := Lib.hid ((keepB X3.out f4).alloc (.cells #[.int .i64 (y.f : Nat), .int .i64 (y.t : Nat), .slice A9 y.bs.length c9] 51))
                      have O4 := Lib.hid (own_far o4 ((Fr.refl (fun _ => False) w4).alloc (.cells #[.int .i64 (y.f : Nat), .int .i64 (y.t : Nat), .slice A9 y.bs.length c9] 51)))
                      clear q0 q1 q2 q3 q4 f4 o4
                      have q0 : (w4.alloc (.cells #[.int .i64 (y.f : Nat), .int .i64 (y.t : Nat), .slice A9 y.bs.length c9] 51)).cell? ⟨bx, 0, none⟩ = some (.int .i64 x.d) := XA.out.cell 0
                      have q3 : (w4.alloc (.cells #[.int .i64 (y.f : Nat), .int .i64 (y.t : Nat), .slice A9 y.bs.length c9] 51)).cell? ⟨bx, 3, none⟩ = some (.int .u64 ((j + 1 : Nat) : Int)) := XA.out.cell 3
                      go_wp2_with fail
                      refine (P1.out _ (F4.out.alloc _)).mono ?_
                      rintro e W6 ⟨rfl, nt, f5⟩
                      have HWC : Hid (b0 ≤ wc.heap.size) := S4.out.net.sz
                      have HW4 : Hid (b0 ≤ w4.heap.size) := by have h1 := F4.out.size; have h2 := S4.out.net.sz; show b0 ≤ _; omega
                      have KM := Lib.hid ((Blk.new w4 51 #[.int .i64 (y.f : Nat), .int .i64 (y.t : Nat), .slice A9 y.bs.length c9]).fr f5 (fun e => by have := HW4.out; have := HG.out; rcases e with e | e <;> omega))
                      have RA := Lib.hid (Rd.of_own (own_fr O4.out f5 (fun q hq e => by have := (World.ownsRow.lt O4.out q hq).1; have := HWC.out; have := HG.out; rcases e with e | e <;> omega)))
                      have NT6 := Lib.hid nt
                      have F6 : Hid (Fr (Gm g mb) wc W6) := ((F4.out.mono (fun _ _ h => h.elim)).alloc _).trans f5 (fun _ _ h => h)
                      clear q0 q3 f5 nt XA
                      go_upto_region 36 with fail
                      have KX : Hid (Blk W6 bx 35 #[.int .i64 x.d, .int .i64 x.a, .int .i64 x.b, .int .u64 ((j + 1 : Nat) : Int), .slice x.A x.m x.c]) := X3.out.fr F6.out (fun e => by have := HX.out; have := HG.out; rcases e with e | e <;> omega)
                      have G6 := Lib.hid (S4.out.giv4 F6.out)
                      rw [hEl] at G6
                      have RG : Hid (W6.rangeAt bg ((j + 1) * 3) (gcell ⟨y.f, y.t, gA, y.bs.length, gc⟩)) := fun q v hv => by
                        have hq : q < 3 := (List.getElem?_eq_some_iff.1 hv).1
                        obtain ⟨b', c', e', _, _, hc⟩ := own_cells G6.out (by omega)
                        injection e' with e' _ _
                        injection e' with e'
                        injection e' with e' _ _
                        rw [e']
                        exact hc _ _ (by rw [gcells_at E j _ HGE.out q hq]; exact hv)
                      have RB : Hid (Rd W6 gA y.bs.length (bv y.bs)) := HER.out.far (S4.out.fr4 F6.out)
                      have HJ := Lib.hid hj
                      go_cut [176] (fun v wx => v = .bool false ∧ Hid (Fr (fun _ => False) W6 wx))
                      case first =>
                        as_aux_lemma =>
                        try simp only [his]
                        refine (wpIn_wide (n := 9)).1 ?_
                        refine wpIn_region_factsG (ms := [0, 1, 0, 7, 15, 31, 63, 127, 127, 127, 639, 1919, 3967, 8191, 16383, 32767, 65535]) (k := 16) (Fr (fun _ => False)) (o6X bx bg j y.f y.t y.bs.length T.length c9 gc cg A9 gA) (fun i v W => True) (by kernel_rfl) (by kernel_rfl) (Fr.refl _ _) (fun a b c h1 h2 => h1.trans h2 (fun _ _ h => h)) (fun i v w w' hg hx => o6X_far hg hx) ?walk36
                        case walk36 =>
                        have hdr : ∀ W, Fr (fun _ => False) W6.drew W → Fr (fun _ => False) W6 W := fun W h => ((Fr.refl (fun _ => False) W6).drew).trans h (fun _ _ h => h)
                        have HDR := Lib.hid hdr
                        clear hdr
                        refine factWalkG_cons (fun W hW hf K hK => ?_) (fun x0 => ?_)
                        · skip
                          refine ⟨by kernel_rfl, ?_⟩
                          gi_step
                          exact hK _ _ (Fr.refl _ _) rfl trivial
                        simp only [Act.put, List.setIfInBounds_toArray, List.set_cons_succ, List.set_cons_zero]
                        refine factWalkG_cons (fun W hW hf K hK => ?_) (fun x1 => ?_)
                        · skip
                          have e0 : x0 = .int .i64 0 := hf 0 (by omega) (by kernel_rfl)
                          subst e0
                          refine ⟨by kernel_rfl, ?_⟩
                          gi_step
                          exact hK _ _ (Fr.refl _ _) rfl trivial
                        simp only [Act.put, List.setIfInBounds_toArray, List.set_cons_succ, List.set_cons_zero]
                        refine factWalkG_cons (fun W hW hf K hK => ?_) (fun x2 => ?_)
                        · skip
                          refine ⟨by kernel_rfl, ?_⟩
                          gi_step
                          exact hK _ _ (Fr.refl _ _) rfl trivial
                        simp only [Act.put, List.setIfInBounds_toArray, List.set_cons_succ, List.set_cons_zero]
                        refine factWalkG_cons (fun W hW hf K hK => ?_) (fun x3 => ?_)
                        · skip
                          have e1 : x1 = .bool true := hf 1 (by omega) (by kernel_rfl)
                          have e2 : x2 = .bool true := hf 2 (by omega) (by kernel_rfl)
                          subst e1 e2
                          refine ⟨by kernel_rfl, ?_⟩
                          gi_step
                          exact hK _ _ (Fr.refl _ _) rfl trivial
                        simp only [Act.put, List.setIfInBounds_toArray, List.set_cons_succ, List.set_cons_zero]
                        refine factWalkG_cons (fun W hW hf K hK => ?_) (fun x4 => ?_)
                        · skip
                          have e3 : x3 = .bool false := hf 3 (by omega) (by kernel_rfl)
                          subst e3
                          refine ⟨by kernel_rfl, ?_⟩
                          gi_step
                          exact hK _ _ (Fr.refl _ _) rfl trivial
                        simp only [Act.put, List.setIfInBounds_toArray, List.set_cons_succ, List.set_cons_zero]
                        refine factWalkG_cons (fun W hW hf K hK => ?_) (fun x5 => ?_)
                        · skip
                          have e4 : x4 = .bool false := hf 4 (by omega) (by kernel_rfl)
                          subst e4
                          refine ⟨by kernel_rfl, ?_⟩
                          gi_step
                          exact hK _ _ (Fr.refl _ _) rfl trivial
                        simp only [Act.put, List.setIfInBounds_toArray, List.set_cons_succ, List.set_cons_zero]
                        refine factWalkG_cons (fun W hW hf K hK => ?_) (fun x6 => ?_)
                        · skip
                          have e4 : x4 = .bool false := hf 4 (by omega) (by kernel_rfl)
                          have e5 : x5 = .bool true := hf 5 (by omega) (by kernel_rfl)
                          subst e4 e5
                          refine ⟨by kernel_rfl, ?_⟩
                          gi_step
                          exact hK _ _ (Fr.refl _ _) rfl trivial
                        simp only [Act.put, List.setIfInBounds_toArray, List.set_cons_succ, List.set_cons_zero]
                        refine factWalkG_cons (fun W hW hf K hK => ?_) (fun x7 => ?_)
                        · skip
                          have e6 : x6 = .bool true := hf 6 (by omega) (by kernel_rfl)
                          subst e6
                          have hM := keepB KM.out (HDR.out W hW)
                          have m0 : W.cell? ⟨w4.heap.size, 0, none⟩ = some (.int .i64 (y.f : Nat)) := hM.cell 0
                          have m1 : W.cell? ⟨w4.heap.size, 1, none⟩ = some (.int .i64 (y.t : Nat)) := hM.cell 1
                          have m2 : W.cell? ⟨w4.heap.size, 2, none⟩ = some (.slice A9 y.bs.length c9) := hM.cell 2
                          refine ⟨by kernel_rfl, ?_⟩
                          gi_step
                          exact hK _ _ (Fr.refl _ _) rfl trivial
                        simp only [Act.put, List.setIfInBounds_toArray, List.set_cons_succ, List.set_cons_zero]
                        refine factWalkG_cons (fun W hW hf K hK => ?_) (fun x8 => ?_)
                        · skip
                          have e6 : x6 = .bool true := hf 6 (by omega) (by kernel_rfl)
                          subst e6
                          refine ⟨by kernel_rfl, ?_⟩
                          gi_step
                          exact hK _ _ (Fr.refl _ _) rfl trivial
                        simp only [Act.put, List.setIfInBounds_toArray, List.set_cons_succ, List.set_cons_zero]
                        refine factWalkG_cons (fun W hW hf K hK => ?_) (fun x9 => ?_)
                        · skip
                          have e6 : x6 = .bool true := hf 6 (by omega) (by kernel_rfl)
                          subst e6
                          refine ⟨by kernel_rfl, ?_⟩
                          gi_step
                          exact hK _ _ (Fr.refl _ _) rfl trivial
                        simp only [Act.put, List.setIfInBounds_toArray, List.set_cons_succ, List.set_cons_zero]
                        refine factWalkG_cons (fun W hW hf K hK => ?_) (fun x10 => ?_)
                        · skip
                          have e6 : x6 = .bool true := hf 6 (by omega) (by kernel_rfl)
                          have e9 : x9 = .pointer (some ⟨bx, 3, none⟩) := hf 9 (by omega) (by kernel_rfl)
                          subst e6 e9
                          have q3 : W.cell? ⟨bx, 3, none⟩ = some (.int .u64 ((j + 1 : Nat) : Int)) := (keepB KX.out (HDR.out W hW)).cell 3
                          refine ⟨by kernel_rfl, ?_⟩
                          gi_step
                          exact hK _ _ (Fr.refl _ _) rfl trivial
                        simp only [Act.put, List.setIfInBounds_toArray, List.set_cons_succ, List.set_cons_zero]
                        refine factWalkG_cons (fun W hW hf K hK => ?_) (fun x11 => ?_)
                        · skip
                          have e6 : x6 = .bool true := hf 6 (by omega) (by kernel_rfl)
                          have e8 : x8 = .slice (some ⟨bg, 0, none⟩) (T.length + 1) cg := hf 8 (by omega) (by kernel_rfl)
                          have e10 : x10 = .int .u64 ((j + 1 : Nat) : Int) := hf 10 (by omega) (by kernel_rfl)
                          subst e6 e8 e10
                          have hj := HJ.out
                          refine ⟨by kernel_rfl, ?_⟩
                          gi_step
                          exact hK _ _ (Fr.refl _ _) rfl trivial
                        simp only [Act.put, List.setIfInBounds_toArray, List.set_cons_succ, List.set_cons_zero]
                        refine factWalkG_cons (fun W hW hf K hK => ?_) (fun x12 => ?_)
                        · skip
                          have e6 : x6 = .bool true := hf 6 (by omega) (by kernel_rfl)
                          have e11 : x11 = .pointer (some ⟨bg, (j + 1) * 3, none⟩) := hf 11 (by omega) (by kernel_rfl)
                          subst e6 e11
                          have g0 : W.cell? ⟨bg, (j + 1) * 3, none⟩ = some (.int .i64 (y.f : Nat)) := cell_far (RG.out 0 _ rfl) (HDR.out W hW)
                          have g1 : W.cell? ⟨bg, (j + 1) * 3 + 1, none⟩ = some (.int .i64 (y.t : Nat)) := cell_far (RG.out 1 _ rfl) (HDR.out W hW)
                          have g2 : W.cell? ⟨bg, (j + 1) * 3 + 2, none⟩ = some (.slice gA y.bs.length gc) := cell_far (RG.out 2 _ rfl) (HDR.out W hW)
                          refine ⟨by kernel_rfl, ?_⟩
                          gi_step
                          exact hK _ _ (Fr.refl _ _) rfl trivial
                        simp only [Act.put, List.setIfInBounds_toArray, List.set_cons_succ, List.set_cons_zero]
                        refine factWalkG_cons (fun W hW hf K hK => ?_) (fun x13 => ?_)
                        · skip
                          have e6 : x6 = .bool true := hf 6 (by omega) (by kernel_rfl)
                          have e7 : x7 = .agg #[.int .i64 (y.f : Nat), .int .i64 (y.t : Nat), .slice A9 y.bs.length c9] := hf 7 (by omega) (by kernel_rfl)
                          have e12 : x12 = .agg #[.int .i64 (y.f : Nat), .int .i64 (y.t : Nat), .slice gA y.bs.length gc] := hf 12 (by omega) (by kernel_rfl)
                          subst e6 e7 e12
                          refine ⟨by kernel_rfl, ?_⟩
                          gi_step
                          refine ⟨trivial, ?_⟩
                          refine (callsIn_wide.2 (same_c W _ _ A9 gA y.bs.length c9 gc y.bs (RA.out.far (HDR.out W hW)) (RB.out.far (HDR.out W hW)))).mono ?_
                          rintro e W' ⟨rfl, f2⟩
                          dsimp only
                          exact hK _ _ f2 rfl trivial
                        simp only [Act.put, List.setIfInBounds_toArray, List.set_cons_succ, List.set_cons_zero]
                        refine factWalkG_cons (fun W hW hf K hK => ?_) (fun x14 => ?_)
                        · skip
                          have e6 : x6 = .bool true := hf 6 (by omega) (by kernel_rfl)
                          have e13 : x13 = .bool true := hf 13 (by omega) (by kernel_rfl)
                          subst e6 e13
                          refine ⟨by kernel_rfl, ?_⟩
                          gi_step
                          exact hK _ _ (Fr.refl _ _) rfl trivial
                        simp only [Act.put, List.setIfInBounds_toArray, List.set_cons_succ, List.set_cons_zero]
                        refine factWalkG_cons (fun W hW hf K hK => ?_) (fun x15 => ?_)
                        · skip
                          have e4 : x4 = .bool false := hf 4 (by omega) (by kernel_rfl)
                          have e6 : x6 = .bool true := hf 6 (by omega) (by kernel_rfl)
                          have e14 : x14 = .bool false := hf 14 (by omega) (by kernel_rfl)
                          subst e4 e6 e14
                          refine ⟨by kernel_rfl, ?_⟩
                          gi_step
                          exact hK _ _ (Fr.refl _ _) rfl trivial
                        simp only [Act.put, List.setIfInBounds_toArray, List.set_cons_succ, List.set_cons_zero]
                        refine factWalkG_nil (fun W hW hf hmet => ?_)
                        have e4 : x4 = .bool false := hf 4 (by omega)
                        have e15 : x15 = .bool false := hf 15 (by omega)
                        subst e4 e15
                        have F8 : Fr (fun _ => False) W6 W := HDR.out W hW
                        clear hf hmet hW HDR
                        change wpAnyIn _ _ _ _ _ _ 1 _ _ _
                        refine wpAnyIn_ready (rs := [16]) (by kernel_rfl) (by simp) ?_
                        refine AllReadyIn.cons rfl (fun K hK => ?_) AllReadyIn.nil
                        go_simp
                        refine hK _ _ ?_
                        refine wpAnyIn_done (by kernel_rfl) ?_ _
                        clear hK K
                        go_wp2_with fail
                        go_meet
                        exact ⟨rfl, F8⟩
                      case rest =>
                        as_aux_lemma =>
                        obtain ⟨rfl, F7⟩ := hcut
                        have q3 : wc.cell? ⟨bx, 3, none⟩ = some (.int .u64 ((j + 1 : Nat) : Int)) := (keepB KX.out F7.out).cell 3
                        have O7 := Lib.hid (own_far (S4.out.out4 F6.out) F7.out)
                        have oc : wc.cell? ⟨bo, j + 1, none⟩ = some (ocell y) := by
                          obtain ⟨b', c', e', _, _, hc⟩ := own_cells O7.out (by omega)
                          injection e' with e' _ _
                          injection e' with e'
                          injection e' with e' _ _
                          rw [e']
                          exact hc _ _ (ocells_at T j y HTJ.out)
                        have ofz : wc.frozen? ⟨bo, j + 1, none⟩ = false := by
                          obtain ⟨cs, hb⟩ := row_blk O7.out rfl
                          exact hb.frozen _
                        go_wp2_with fail
                        have hL : (kill T j y).length = T.length := by unfold kill; rw [List.length_set]
                        refine ⟨⟨k + 1, by omega, by go_num, kill T j y, E, S4.out.kill F6.out NT6.out HTJ.out F7.out⟩, by simp [intOf]; omega⟩
                · as_aux_lemma =>
                  have e1 : (x.d == 1) = false := beq_eq_false_iff_ne.2 (fun h => h12 (.inl h))
                  have e2 : (x.d == 2) = false := beq_eq_false_iff_ne.2 (fun h => h12 (.inr h))
                  go_wp2_with fail
                  refine ⟨⟨k + 1, by omega, by go_num, T, E, S4.out.up⟩, by simp [intOf]; omega⟩
        · as_aux_lemma =>
          have hkn : k = n := by omega
          subst hkn
          rw [hEl] at S1 ⊢
          clear hgc hoc st
          go_wp2_with fail
          obtain ⟨wq, rfl⟩ : ∃ wq, wq = wr := ⟨_, rfl⟩
          go_loopw [19, 20] (fun lv iv wr => ∃ q : Nat, q ≤ T.length ∧ iv = .int .i64 ((q + 1 : Nat) : Int) ∧ lv = .int .i64 (((T.take q).filter (·.live)).length : Nat) ∧ Hid (Fr (fun _ => False) wq wr)) (fun _ iv _ => T.length + 1 - (intOf iv).toNat)
          case atStart => exact ⟨0, Nat.zero_le _, rfl, rfl, Fr.refl _ _⟩
          case round =>
            obtain ⟨q, hq, rfl, rfl, F2⟩ := hrel
            have S2 := Lib.hid (S1.out.far F2.out)
            by_cases hlt2 : q < T.length
            · as_aux_lemma =>
              obtain ⟨y, hy⟩ : ∃ y, T[q]? = some y := ⟨_, List.getElem?_eq_getElem hlt2⟩
              obtain ⟨ge, hge⟩ : ∃ ge, E[q]? = some ge := ⟨_, List.getElem?_eq_getElem (by omega)⟩
              obtain ⟨gf, gt, gA, gm, gc⟩ := ge
              obtain ⟨hef, het, hem, her⟩ := S2.out.each q _ y hge hy
              have hef : gf = y.f := hef
              have het : gt = y.t := het
              have hem : gm = y.bs.length := hem
              subst hef het hem
              have HER := Lib.hid her
              have HTJ := Lib.hid hy
              have HGE := Lib.hid hge
              have HQ : Hid (q < T.length) := hlt2
              have hcn : ((T.take (q + 1)).filter (·.live)).length = ((T.take q).filter (·.live)).length + (if y.live then 1 else 0) := by
                rw [List.take_add_one, hy, List.filter_append, List.length_append]
                congr 1
                show (List.filter (fun x => x.live) [y]).length = _
                rw [List.filter_cons]
                split <;> rfl
              have hcl : ((T.take q).filter (·.live)).length ≤ 400 := by
                have h1 := List.length_filter_le (fun x : Ms => x.live) (T.take q)
                have h2 := List.length_take_le q T
                omega
              obtain ⟨cn, hcq⟩ : ∃ cn, ((T.take q).filter (·.live)).length = cn := ⟨_, rfl⟩
              rw [hcq] at hcn hcl ⊢
              have HCN := Lib.hid hcn
              have hlk : lookT T (q + 1) = if y.live then some y else none := by
                show (match T[q]? with | some x => if x.live then some x else none | none => none) = _
                rw [hy]
              have hw : IntKind.u64.wrap ((q + 1 : Nat) : Int) = ((q + 1 : Nat) : Int) := by rw [IntKind.wrap_u64]; omega
              have hwc : IntKind.u64.wrap ((q : Int) + 1) = ((q + 1 : Nat) : Int) := by rw [IntKind.wrap_u64]; omega
              have O2 : Hid (ocell y = .int .i64 (if y.live then 0 else 1)) := rfl
              clear hcn hcq hy hge her
              cases hyl : y.live
              · as_aux_lemma =>
                rw [hyl] at hlk
                have O3 : Hid (ocell y = .int .i64 1) := by have := O2.out; rw [hyl] at this; exact this
                have hlk' : lookT T (q + 1) = none := hlk
                have A1 := Lib.hid (gh_at_none S2.out.net (by omega) hlk')
                have HCN2 : Hid (((T.take (q + 1)).filter (·.live)).length = cn) := by have := HCN.out; rw [hyl] at this; exact this
                clear hlk hlk' hyl O2 HCN
                go_wp2_with fail
                refine A1.out.mono ?_
                rintro e w5 ⟨A9, n9, c9, rfl, f5⟩
                have F5 := Lib.hid f5
                clear f5
                go_upto_region 45 with fail
                refine abs_wp (fun W => Hid (Fr (fun _ => False) wr W) ∧ Hid (Blk W w5.heap.size 51 #[.int .i64 0, .int .i64 0, .slice A9 n9 c9])) ⟨F5.out.alloc _, Blk.new _ _ _⟩ ?_
                rintro W6 ⟨F6, KM⟩
                have oc : W6.cell? ⟨bo, q + 1, none⟩ = some (.int .i64 1) := by
                  obtain ⟨b', c', e', _, _, hc⟩ := own_cells (own_far S2.out.out F6.out) (by omega)
                  injection e' with e' _ _
                  injection e' with e'
                  injection e' with e' _ _
                  rw [e']
                  exact (hc _ _ (ocells_at T q y HTJ.out)).trans (congrArg some O3.out)
                go_quiet (fail)
                have F7 := Lib.hid (F6.out.drewN nq)
                have oc7 : (W6.drewN nq).cell? ⟨bo, q + 1, none⟩ = some (.int .i64 1) := oc
                generalize W6.drewN nq = w7 at *
                go_wp2_with fail
                go_roundw
                case rel => exact ⟨q + 1, by have := HQ.out; omega, by go_num, by rw [HCN2.out], F2.out.trans F7.out (fun _ _ h => h)⟩
                case measure => have := HQ.out; simp [intOf]; omega
              · as_aux_lemma =>
                rw [hyl] at hlk
                have O3 : Hid (ocell y = .int .i64 0) := by have := O2.out; rw [hyl] at this; exact this
                have hlk' : lookT T (q + 1) = some y := hlk
                have A1 := Lib.hid (gh_at S2.out.net (by omega) hlk')
                have HCN2 : Hid (((T.take (q + 1)).filter (·.live)).length = cn + 1) := by have := HCN.out; rw [hyl] at this; exact this
                clear hlk hlk' hyl O2 HCN
                go_wp2_with fail
                refine A1.out.mono ?_
                rintro e w5 ⟨A9, c9, rfl, o5, f5⟩
                have F5 := Lib.hid f5
                have V5 := Lib.hid o5
                clear f5 o5
                go_upto_region 45 with fail
                refine abs_wp (fun W => Hid (Fr (fun _ => False) wr W) ∧ Hid (Blk W w5.heap.size 51 #[.int .i64 (y.f : Nat), .int .i64 (y.t : Nat), .slice A9 y.bs.length c9]) ∧ Hid (Rd W A9 y.bs.length (bv y.bs))) ⟨F5.out.alloc _, Blk.new _ _ _, (Rd.of_own V5.out).far ((Fr.refl _ _).alloc _)⟩ ?_
                rintro W6 ⟨F6, KM, RA⟩
                have OC : Hid (W6.cell? ⟨bo, q + 1, none⟩ = some (.int .i64 0)) := by
                  obtain ⟨b', c', e', _, _, hc⟩ := own_cells (own_far S2.out.out F6.out) (by omega)
                  injection e' with e' _ _
                  injection e' with e'
                  injection e' with e' _ _
                  rw [e']
                  exact (hc _ _ (ocells_at T q y HTJ.out)).trans (congrArg some O3.out)
                have G6 := Lib.hid (own_far S2.out.giv F6.out)
                rw [hEl] at G6
                have RG : Hid (W6.rangeAt bg ((q + 1) * 3) (gcell ⟨y.f, y.t, gA, y.bs.length, gc⟩)) := fun r v hv => by
                  have hr : r < 3 := (List.getElem?_eq_some_iff.1 hv).1
                  obtain ⟨b', c', e', _, _, hc⟩ := own_cells G6.out (by omega)
                  injection e' with e' _ _
                  injection e' with e'
                  injection e' with e' _ _
                  rw [e']
                  exact hc _ _ (by rw [gcells_at E q _ HGE.out r hr]; exact hv)
                have RB : Hid (Rd W6 gA y.bs.length (bv y.bs)) := HER.out.far (S2.out.fr.trans F6.out (fun _ _ h => h))
                go_cut [215] (fun v wx => v = .bool false ∧ Hid (Fr (fun _ => False) W6 wx))
                case first =>
                  as_aux_lemma =>
                  refine (wpIn_wide (n := 9)).1 ?_
                  refine wpIn_region_factsG (ms := [0, 1, 0, 0, 12, 28, 60, 127, 255, 511, 1023, 2047, 4095, 4095, 4095, 28671, 61439, 131071, 262143, 524287, 1048575]) (k := 20) (Fr (fun _ => False)) (o45X bo bg q y.f y.t y.bs.length T.length c9 gc cg co w5.heap.size A9 gA) (fun i v W => True) (by kernel_rfl) (by kernel_rfl) (Fr.refl _ _) (fun a b c h1 h2 => h1.trans h2 (fun _ _ h => h)) (fun i v w w' hg hx => o45X_far hg hx) ?walk45
                  case walk45 =>
                  have hdr : ∀ W, Fr (fun _ => False) W6.drew W → Fr (fun _ => False) W6 W := fun W h => ((Fr.refl (fun _ => False) W6).drew).trans h (fun _ _ h => h)
                  have HDR := Lib.hid hdr
                  clear hdr
                  refine factWalkG_cons (fun W hW hf K hK => ?_) (fun x0 => ?_)
                  · skip
                    refine ⟨by kernel_rfl, ?_⟩
                    gi_step
                    exact hK _ _ (Fr.refl _ _) rfl trivial
                  simp only [Act.put, List.setIfInBounds_toArray, List.set_cons_succ, List.set_cons_zero]
                  refine factWalkG_cons (fun W hW hf K hK => ?_) (fun x1 => ?_)
                  · skip
                    have e0 : x0 = .int .i64 0 := hf 0 (by omega) (by kernel_rfl)
                    subst e0
                    refine ⟨by kernel_rfl, ?_⟩
                    gi_step
                    exact hK _ _ (Fr.refl _ _) rfl trivial
                  simp only [Act.put, List.setIfInBounds_toArray, List.set_cons_succ, List.set_cons_zero]
                  refine factWalkG_cons (fun W hW hf K hK => ?_) (fun x2 => ?_)
                  · skip
                    refine ⟨by kernel_rfl, ?_⟩
                    gi_step
                    exact hK _ _ (Fr.refl _ _) rfl trivial
                  simp only [Act.put, List.setIfInBounds_toArray, List.set_cons_succ, List.set_cons_zero]
                  refine factWalkG_cons (fun W hW hf K hK => ?_) (fun x3 => ?_)
                  · skip
                    refine ⟨by kernel_rfl, ?_⟩
                    gi_step
                    exact hK _ _ (Fr.refl _ _) rfl trivial
                  simp only [Act.put, List.setIfInBounds_toArray, List.set_cons_succ, List.set_cons_zero]
                  refine factWalkG_cons (fun W hW hf K hK => ?_) (fun x4 => ?_)
                  · skip
                    have e2 : x2 = .slice (some ⟨bo, 0, none⟩) (T.length + 1) co := hf 2 (by omega) (by kernel_rfl)
                    have e3 : x3 = .int .i64 ((q + 1 : Nat) : Int) := hf 3 (by omega) (by kernel_rfl)
                    subst e2 e3
                    have hq := HQ.out
                    refine ⟨by kernel_rfl, ?_⟩
                    gi_step
                    exact hK _ _ (Fr.refl _ _) rfl trivial
                  simp only [Act.put, List.setIfInBounds_toArray, List.set_cons_succ, List.set_cons_zero]
                  refine factWalkG_cons (fun W hW hf K hK => ?_) (fun x5 => ?_)
                  · skip
                    have e4 : x4 = .pointer (some ⟨bo, q + 1, none⟩) := hf 4 (by omega) (by kernel_rfl)
                    subst e4
                    have oc : W.cell? ⟨bo, q + 1, none⟩ = some (.int .i64 0) := cell_far OC.out (HDR.out W hW)
                    refine ⟨by kernel_rfl, ?_⟩
                    gi_step
                    exact hK _ _ (Fr.refl _ _) rfl trivial
                  simp only [Act.put, List.setIfInBounds_toArray, List.set_cons_succ, List.set_cons_zero]
                  refine factWalkG_cons (fun W hW hf K hK => ?_) (fun x6 => ?_)
                  · skip
                    have e5 : x5 = .int .i64 0 := hf 5 (by omega) (by kernel_rfl)
                    subst e5
                    refine ⟨by kernel_rfl, ?_⟩
                    gi_step
                    exact hK _ _ (Fr.refl _ _) rfl trivial
                  simp only [Act.put, List.setIfInBounds_toArray, List.set_cons_succ, List.set_cons_zero]
                  refine factWalkG_cons (fun W hW hf K hK => ?_) (fun x7 => ?_)
                  · skip
                    have e1 : x1 = .bool true := hf 1 (by omega) (by kernel_rfl)
                    have e6 : x6 = .bool true := hf 6 (by omega) (by kernel_rfl)
                    subst e1 e6
                    refine ⟨by kernel_rfl, ?_⟩
                    gi_step
                    exact hK _ _ (Fr.refl _ _) rfl trivial
                  simp only [Act.put, List.setIfInBounds_toArray, List.set_cons_succ, List.set_cons_zero]
                  refine factWalkG_cons (fun W hW hf K hK => ?_) (fun x8 => ?_)
                  · skip
                    have e7 : x7 = .bool false := hf 7 (by omega) (by kernel_rfl)
                    subst e7
                    refine ⟨by kernel_rfl, ?_⟩
                    gi_step
                    exact hK _ _ (Fr.refl _ _) rfl trivial
                  simp only [Act.put, List.setIfInBounds_toArray, List.set_cons_succ, List.set_cons_zero]
                  refine factWalkG_cons (fun W hW hf K hK => ?_) (fun x9 => ?_)
                  · skip
                    have e8 : x8 = .bool false := hf 8 (by omega) (by kernel_rfl)
                    subst e8
                    refine ⟨by kernel_rfl, ?_⟩
                    gi_step
                    exact hK _ _ (Fr.refl _ _) rfl trivial
                  simp only [Act.put, List.setIfInBounds_toArray, List.set_cons_succ, List.set_cons_zero]
                  refine factWalkG_cons (fun W hW hf K hK => ?_) (fun x10 => ?_)
                  · skip
                    have e8 : x8 = .bool false := hf 8 (by omega) (by kernel_rfl)
                    have e9 : x9 = .int .i64 0 := hf 9 (by omega) (by kernel_rfl)
                    subst e8 e9
                    refine ⟨by kernel_rfl, ?_⟩
                    gi_step
                    exact hK _ _ (Fr.refl _ _) rfl trivial
                  simp only [Act.put, List.setIfInBounds_toArray, List.set_cons_succ, List.set_cons_zero]
                  refine factWalkG_cons (fun W hW hf K hK => ?_) (fun x11 => ?_)
                  · skip
                    have e8 : x8 = .bool false := hf 8 (by omega) (by kernel_rfl)
                    have e10 : x10 = .bool true := hf 10 (by omega) (by kernel_rfl)
                    subst e8 e10
                    refine ⟨by kernel_rfl, ?_⟩
                    gi_step
                    exact hK _ _ (Fr.refl _ _) rfl trivial
                  simp only [Act.put, List.setIfInBounds_toArray, List.set_cons_succ, List.set_cons_zero]
                  refine factWalkG_cons (fun W hW hf K hK => ?_) (fun x12 => ?_)
                  · skip
                    have e11 : x11 = .bool true := hf 11 (by omega) (by kernel_rfl)
                    subst e11
                    have hM := keepB KM.out (HDR.out W hW)
                    have m0 : W.cell? ⟨w5.heap.size, 0, none⟩ = some (.int .i64 (y.f : Nat)) := hM.cell 0
                    have m1 : W.cell? ⟨w5.heap.size, 1, none⟩ = some (.int .i64 (y.t : Nat)) := hM.cell 1
                    have m2 : W.cell? ⟨w5.heap.size, 2, none⟩ = some (.slice A9 y.bs.length c9) := hM.cell 2
                    refine ⟨by kernel_rfl, ?_⟩
                    gi_step
                    exact hK _ _ (Fr.refl _ _) rfl trivial
                  simp only [Act.put, List.setIfInBounds_toArray, List.set_cons_succ, List.set_cons_zero]
                  refine factWalkG_cons (fun W hW hf K hK => ?_) (fun x13 => ?_)
                  · skip
                    have e11 : x11 = .bool true := hf 11 (by omega) (by kernel_rfl)
                    subst e11
                    refine ⟨by kernel_rfl, ?_⟩
                    gi_step
                    exact hK _ _ (Fr.refl _ _) rfl trivial
                  simp only [Act.put, List.setIfInBounds_toArray, List.set_cons_succ, List.set_cons_zero]
                  refine factWalkG_cons (fun W hW hf K hK => ?_) (fun x14 => ?_)
                  · skip
                    have e11 : x11 = .bool true := hf 11 (by omega) (by kernel_rfl)
                    subst e11
                    refine ⟨by kernel_rfl, ?_⟩
                    gi_step
                    exact hK _ _ (Fr.refl _ _) rfl trivial
                  simp only [Act.put, List.setIfInBounds_toArray, List.set_cons_succ, List.set_cons_zero]
                  refine factWalkG_cons (fun W hW hf K hK => ?_) (fun x15 => ?_)
                  · skip
                    have e11 : x11 = .bool true := hf 11 (by omega) (by kernel_rfl)
                    have e13 : x13 = .slice (some ⟨bg, 0, none⟩) (T.length + 1) cg := hf 13 (by omega) (by kernel_rfl)
                    have e14 : x14 = .int .i64 ((q + 1 : Nat) : Int) := hf 14 (by omega) (by kernel_rfl)
                    subst e11 e13 e14
                    have hq := HQ.out
                    refine ⟨by kernel_rfl, ?_⟩
                    gi_step
                    exact hK _ _ (Fr.refl _ _) rfl trivial
                  simp only [Act.put, List.setIfInBounds_toArray, List.set_cons_succ, List.set_cons_zero]
                  refine factWalkG_cons (fun W hW hf K hK => ?_) (fun x16 => ?_)
                  · skip
                    have e11 : x11 = .bool true := hf 11 (by omega) (by kernel_rfl)
                    have e15 : x15 = .pointer (some ⟨bg, (q + 1) * 3, none⟩) := hf 15 (by omega) (by kernel_rfl)
                    subst e11 e15
                    have g0 : W.cell? ⟨bg, (q + 1) * 3, none⟩ = some (.int .i64 (y.f : Nat)) := cell_far (RG.out 0 _ rfl) (HDR.out W hW)
                    have g1 : W.cell? ⟨bg, (q + 1) * 3 + 1, none⟩ = some (.int .i64 (y.t : Nat)) := cell_far (RG.out 1 _ rfl) (HDR.out W hW)
                    have g2 : W.cell? ⟨bg, (q + 1) * 3 + 2, none⟩ = some (.slice gA y.bs.length gc) := cell_far (RG.out 2 _ rfl) (HDR.out W hW)
                    refine ⟨by kernel_rfl, ?_⟩
                    gi_step
                    exact hK _ _ (Fr.refl _ _) rfl trivial
                  simp only [Act.put, List.setIfInBounds_toArray, List.set_cons_succ, List.set_cons_zero]
                  refine factWalkG_cons (fun W hW hf K hK => ?_) (fun x17 => ?_)
                  · skip
                    have e11 : x11 = .bool true := hf 11 (by omega) (by kernel_rfl)
                    have e12 : x12 = .agg #[.int .i64 (y.f : Nat), .int .i64 (y.t : Nat), .slice A9 y.bs.length c9] := hf 12 (by omega) (by kernel_rfl)
                    have e16 : x16 = .agg #[.int .i64 (y.f : Nat), .int .i64 (y.t : Nat), .slice gA y.bs.length gc] := hf 16 (by omega) (by kernel_rfl)
                    subst e11 e12 e16
                    refine ⟨by kernel_rfl, ?_⟩
                    gi_step
                    refine ⟨trivial, ?_⟩
                    refine (callsIn_wide.2 (same_c W _ _ A9 gA y.bs.length c9 gc y.bs (RA.out.far (HDR.out W hW)) (RB.out.far (HDR.out W hW)))).mono ?_
                    rintro e W' ⟨rfl, f2⟩
                    dsimp only
                    exact hK _ _ f2 rfl trivial
                  simp only [Act.put, List.setIfInBounds_toArray, List.set_cons_succ, List.set_cons_zero]
                  refine factWalkG_cons (fun W hW hf K hK => ?_) (fun x18 => ?_)
                  · skip
                    have e11 : x11 = .bool true := hf 11 (by omega) (by kernel_rfl)
                    have e17 : x17 = .bool true := hf 17 (by omega) (by kernel_rfl)
                    subst e11 e17
                    refine ⟨by kernel_rfl, ?_⟩
                    gi_step
                    exact hK _ _ (Fr.refl _ _) rfl trivial
                  simp only [Act.put, List.setIfInBounds_toArray, List.set_cons_succ, List.set_cons_zero]
                  refine factWalkG_cons (fun W hW hf K hK => ?_) (fun x19 => ?_)
                  · skip
                    have e8 : x8 = .bool false := hf 8 (by omega) (by kernel_rfl)
                    have e11 : x11 = .bool true := hf 11 (by omega) (by kernel_rfl)
                    have e18 : x18 = .bool false := hf 18 (by omega) (by kernel_rfl)
                    subst e8 e11 e18
                    refine ⟨by kernel_rfl, ?_⟩
                    gi_step
                    exact hK _ _ (Fr.refl _ _) rfl trivial
                  simp only [Act.put, List.setIfInBounds_toArray, List.set_cons_succ, List.set_cons_zero]
                  refine factWalkG_nil (fun W hW hf hmet => ?_)
                  have e8 : x8 = .bool false := hf 8 (by omega)
                  have e19 : x19 = .bool false := hf 19 (by omega)
                  subst e8 e19
                  have F8 : Fr (fun _ => False) W6 W := HDR.out W hW
                  clear hf hmet hW HDR
                  change wpAnyIn _ _ _ _ _ _ 1 _ _ _
                  refine wpAnyIn_ready (rs := [20]) (by kernel_rfl) (by simp) ?_
                  refine AllReadyIn.cons rfl (fun K hK => ?_) AllReadyIn.nil
                  go_simp
                  refine hK _ _ ?_
                  refine wpAnyIn_done (by kernel_rfl) ?_ _
                  clear hK K
                  go_wp2_with fail
                  go_meet
                  exact ⟨rfl, F8⟩
                case rest =>
                  as_aux_lemma =>
                  obtain ⟨rfl, F7⟩ := hcut
                  have oc7 : wc.cell? ⟨bo, q + 1, none⟩ = some (.int .i64 0) := cell_far OC.out F7.out
                  go_wp2_with fail
                  go_roundw
                  case rel => exact ⟨q + 1, by have := HQ.out; omega, by go_num, by rw [HCN2.out]; go_num, F2.out.trans (F6.out.trans F7.out (fun _ _ h => h)) (fun _ _ h => h)⟩
                  case measure => have := HQ.out; simp [intOf]; omega
            · as_aux_lemma =>
              have hqT : q = T.length := by omega
              subst hqT
              rw [List.take_length]
              go_wp2_with fail
              refine (gh_count S2.out.net).mono ?_
              rintro e w5 ⟨rfl, hw⟩
              rw [hw]
              clear hw w5
              go_wp2_with fail
              refine (awake_c wr).mono ?_
              rintro e w6 ⟨rfl, f6⟩
              have F6 := Lib.hid f6
              clear f6
              go_wp2_with fail
              go_ret
              exact ⟨rfl, S2.out.fr.trans F6.out (fun _ _ h => h)⟩
  · have HN := Lib.hid (new_bad w r hr4)
    clear hr hok hr4
    go_enter Try.func5, Try.ntmps5
    go_wp2_with fail
    refine HN.out.mono ?_
    rintro e w1 ⟨rfl, hw⟩
    rw [hw]
    clear hw w1
    go_wp2_with fail
    refine (awake_c w).mono ?_
    rintro e w2 ⟨rfl, f2⟩
    have F2 := Lib.hid f2
    clear f2
    go_wp2_with fail
    go_ret
    exact ⟨rfl, F2.out⟩
end Go.Proofs.Ytpgklhbbjbdejaa
