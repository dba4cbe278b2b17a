/-
  Letters of a net with no base. Written by gen_gv.py.
-/
import Derived.Test.YtpgklhbbjbdejaaGv
import Derived.Test.YtpgklhbbjbdejaaLetH
namespace Go.Proofs.Ytpgklhbbjbdejaa
set_option linter.unusedSimpArgs false
set_option linter.unusedVariables false
open Go Go.RowKit Go.Maps
set_option maxRecDepth 100000 in
set_option maxHeartbeats 4000000 in
theorem gv_letters {w : World} {g mb r i : Nat} {T : List Ms} (h : NetV w g mb r T i) (hi4 : i ≤ 4000) (hg : g < w.heap.size) (hmb : mb < w.heap.size) :
    Calls Try.prog 22 #[.pointer (some ⟨g, 0, none⟩)] w fun e w' => ∃ v, e = .returned v ∧ w'.ownsRow w.heap.size 65 4 v (lids T).length (lcells T (lids T)) ∧ Fr (fun _ => False) w w' := by
  obtain ⟨lk, D, n, hB, hO, h1, h2, h3, h4, h5, h6, _⟩ := h.ex
  have hkey : ∀ k : Nat, Maps.has D (ky k) = true ↔ (lookT T k).isSome = true := by
    intro k
    cases hx : lookT T k with
    | none => have := gone_of h4 h5 h6 hx; rw [this.1]; simp
    | some x =>
      obtain ⟨j, rfl, hj, hl⟩ := lookT_some hx
      have := ((h4 j x hj).2.1 hl).1
      rw [this]; simp
  have HKEY := Lib.hid hkey
  have HV : Hid (∀ (k : Nat) (x : Ms), lookT T k = some x → k ≤ 4000 ∧ (x.f < 5 ∧ x.t < 5 ∧ x.bs.length ≤ 16384) ∧ ∃ A c, D.atKey (ky k) (.held zM) = .held (.agg #[.int .i64 (x.f : Nat), .int .i64 (x.t : Nat), .slice A x.bs.length c])) := fun k x hx => by
    obtain ⟨j, rfl, hj, hl⟩ := lookT_some hx
    obtain ⟨e0, e1, _⟩ := h4 j x hj
    obtain ⟨_, A, c, e2, _⟩ := e1 hl
    have := (List.getElem?_eq_some_iff.1 hj).1
    have := h.le
    exact ⟨by omega, e0, A, c, e2⟩
  have hszD : Maps.size D ≤ 4000 := by
    have := List.length_filter_le (fun x : Ms => x.live) T
    have := h.le
    rw [h3]
    omega
  have HB := Lib.hid hB
  have HO := Lib.hid hO
  have HSZ := Lib.hid hszD
  have HLT := Lib.hid (And.intro hg hmb)
  have HLE : Hid ((lids T).length ≤ 4000) := by have := lids_len T; have := h.le; show _ ≤ _; omega
  have c2 : w.cell? ⟨g, 2, none⟩ = some (.map (some mb)) := hB.cell 2
  clear hkey hB hO h1 h2 h3 h4 h5 h6 h hszD hg hmb hi4
  obtain ⟨i0, hi, hz0, hz1, hz2⟩ := info_parts u64_info
  obtain ⟨i1, ki, kz0, kz1, kz2⟩ := info_parts letter_info
  go_enter Try.func22, Try.ntmps22
  go_wp2_with fail
  refine (made_yes w _ _ _ _ _ HB.out).mono ?_
  rintro e w2 ⟨rfl, hw⟩
  rw [hw]
  clear hw w2
  go_wp2_with (at_range
               refine wpList_range_own _ rfl _ 42 rfl 32 51 K64 Try.underlying42 RH mb n _ rfl HO.out ?_
               rintro w0 rg0 g0 s0)
  go_frame
  go_loopw [3] (fun ids wr => Hid (∃ xs left cnt, LsG w mb n D ids wr xs left cnt)) (fun _ wr => wr.rangeLeft mb w.heap.size)
  case atStart => exact ⟨[], _, _, (Fr.refl _ w).grown g0 (fun k e _ => by cases e), rg0, World.ownsRow_nil _ _ _ _, List.nodup_nil, by simp, fun k => by simp, fun k hk => by cases hk⟩
  case round =>
    obtain ⟨xs, left, cnt, st⟩ := hrel.out
    obtain ⟨A3, cc3, rfl, hcc1, hcc2⟩ := own_slice st.own
    have ST := Lib.hid st
    have hrg := st.rg
    have hxl : xs.length ≤ 4000 := by have := st.sz; have := HSZ.out; omega
    clear hrel rg0 g0 s0 st
    by_cases hc0 : cnt = 0
    · go_wp2_with (at_next
                   refine wpList_next_ranges _ rfl _ rfl 32 K64 RH (Value.int .u64) (fun v : Value => v) (fun key kl hk => by obtain ⟨x, rfl, _⟩ := Maps.keyOf_int_inv Try.underlying32 hk; exact ⟨x, rfl⟩) (fun v y _ => ⟨v, rfl⟩) mb w.heap.size n _ _ _ rfl hrg ?_ (fun x v kl y w1 cnt1 _ _ _ _ _ hlt => absurd hlt (by omega))
                   rintro _ hall
                   have HALL := Lib.hid hall
                   clear hall hrg)
      have hmem : ∀ k, k ∈ xs ↔ k ∈ lids T := fun k => by
        rw [mem_lids, ← HKEY.out k]
        constructor
        · exact ST.out.hs k
        · intro hk
          by_cases hx : k ∈ xs
          · exact hx
          · have := (ST.out.lf k).2 ⟨hk, hx⟩
            rw [HALL.out] at this
            cases this
      have hperm : xs.Perm (lids T) := (List.perm_ext_iff_of_nodup ST.out.nd (lids_nodup T)).2 hmem
      have hlen := hperm.length_eq
      have HO3 : Hid (MapI wr mb n D) := ST.out.rg.owns
      have SORT : Hid (Calls Try.prog 35 #[.slice A3 xs.length cc3] wr fun e w' => e = .returned (.tuple #[]) ∧ Fr (fun _ => False) w w' ∧ MapI w' mb n D ∧ Rd w' A3 xs.length ((lids T).map eU)) := by
        rcases Nat.eq_zero_or_pos xs.length with h0 | hpos
        · have hx0 : xs = [] := List.eq_nil_of_length_eq_zero h0
          have hl0 : lids T = [] := List.eq_nil_of_length_eq_zero (by omega)
          rw [h0]
          refine (zero_sort _ _ _).mono ?_
          rintro e w' ⟨rfl, hw⟩
          rw [hw, hl0]
          exact ⟨rfl, ST.out.fr, HO3.out, Rd.none_ _ _⟩
        · have own := ST.out.own
          rcases own.2 with ⟨_, h0⟩ | ⟨gg, cap, cur, hv, hbg, hg, hnc, hcm, hcs, htk⟩
          · omega
          · injection hv with hv _ hcc
            subst hv hcc
            have hU : RowU wr gg xs.toArray (cur.toList.drop xs.length) := by
              unfold RowU
              rw [show xs.toArray.toList = xs from rfl, ← htk, Nat.mul_one, List.take_append_drop]
              exact hg
            have hs := sort_c wr gg cc3 xs.toArray _ hU (by simp; omega)
            simp only [List.size_toArray] at hs
            refine hs.mono ?_
            rintro e w' ⟨rfl, d', ⟨p1, p2⟩, f', u', s'⟩
            have hd := sorted_is (d := xs.toArray) (n := xs.length) (by simp) p1 p2 (lids_lt T) hperm
            refine ⟨rfl, ST.out.fr.trans f' (fun k hk e => by omega), MapI.fr HO3.out f' (fun e => by have := HLT.out; omega), ?_⟩
            refine ⟨by rw [List.length_map]; omega, fun _ => ⟨_, rfl, fun j u hu => ?_⟩⟩
            rw [Addr.add_lit, Nat.zero_add]
            unfold RowU at u'
            rw [u'.cell, List.getElem?_toArray, hd, List.getElem?_append_left (by rw [List.length_map]; have := (List.getElem?_eq_some_iff.1 hu).1; simpa using this)]
            exact hu
      rw [hlen] at SORT ⊢
      clear hmem hperm ST HALL hc0
      go_wp2_with fail
      refine SORT.out.mono ?_
      rintro e w5 ⟨rfl, f5, o5, rd5⟩
      have HF5 := Lib.hid f5
      have HO5 := Lib.hid o5
      have HC5 := Lib.hid rd5
      clear f5 o5 rd5 SORT
      obtain ⟨L, hL⟩ : ∃ L, (lids T).length = L := ⟨_, rfl⟩
      rw [hL]
      have HLL := Lib.hid hL
      have hL4 : L ≤ 4000 := by have := HLE.out; omega
      clear hL hlen
      go_wp2_with fail
      go_loopw [5, 29] (fun out k wr => ∃ q : Nat, k = .int .i64 q ∧ q ≤ L ∧ Hid (Fr (fun _ => False) w5 wr ∧ wr.ownsRow w5.heap.size 65 4 out q (lcells T ((lids T).take q)))) (fun _ k _ => L - (intOf k).toNat)
      case atStart => exact ⟨0, rfl, Nat.zero_le _, Fr.refl _ _, World.ownsRow_nil _ _ _ _⟩
      case round =>
        obtain ⟨q, rfl, hq, hh⟩ := hrel
        obtain ⟨fr, own⟩ := hh.out
        obtain ⟨A6, c6, rfl, hc61, hc62⟩ := own_slice own
        have OW := Lib.hid own
        have HF6 := Lib.hid fr
        clear hh own fr
        by_cases hlt : q < L
        · obtain ⟨b3, o3, rfl, hc3⟩ := HC5.out.lit (by have := HLL.out; omega)
          obtain ⟨id, hid⟩ : ∃ id, (lids T)[q]? = some id := ⟨_, List.getElem?_eq_getElem (by rw [HLL.out]; exact hlt)⟩
          obtain ⟨x, hx⟩ := Option.isSome_iff_exists.1 (mem_lids.1 (List.mem_of_getElem? hid))
          obtain ⟨e0, ⟨e1, e2, e3⟩, A, c, e4⟩ := HV.out id x hx
          have hl := look1_c (k := id) (MapI.fr HO5.out HF6.out (fun h => h)) (by omega) e4
          have d0 : wr.cell? ⟨b3, o3 + q, none⟩ = some (.int .u64 (id : Nat)) := by
            have h7 := (HC5.out.far HF6.out).2 (by have := HLL.out; omega)
            obtain ⟨ad, e8, h8⟩ := h7
            injection e8 with e8
            subst e8
            have := h8 q (eU id) (by rw [List.getElem?_map, hid]; rfl)
            rwa [Addr.add_lit] at this
          have g2 : wr.cell? ⟨g, 2, none⟩ = some (.map (some mb)) := (keepB HB.out (HF5.out.trans HF6.out (fun _ _ h => h))).cell 2
          have HW : Hid (w5.heap.size ≤ wr.heap.size) := HF6.out.size
          have HTK : Hid (lcells T ((lids T).take (q + 1)) = lcells T ((lids T).take q) ++ [.int .u64 (id : Nat), .int .i64 (x.f : Nat), .int .i64 (x.t : Nat), .int .i64 (x.bs.length : Nat)]) := by
            rw [List.take_add_one, hid]
            show lcells T ((lids T).take q ++ [id]) = _
            rw [lcells_add]
            unfold lcell
            rw [hx]
          have kq : (q : Int) < (L : Int) := by omega
          clear e4 hc3 hid hx
          go_wp2_with (refine wpList_app rfl (.tmp 39) (.tmp 49) _ _ rfl w5.heap.size 65 i1 _ 4 32 Try.underlying57 ki kz0 kz1 kz2 rfl _ q (lcells T ((lids T).take q)) rfl (own_fa OW.out (((Fr.refl _ wr).alloc _).alloc _)) _ 1 [.int .u64 (id : Nat), .int .i64 (x.f : Nat), .int .i64 (x.t : Nat), .int .i64 (x.bs.length : Nat)] rfl
                         (src_blk Try.underlying57 1 (Blk.new1 wr _ 65 #[.int .u64 (id : Nat), .int .i64 (x.f : Nat), .int .i64 (x.t : Nat), .int .i64 (x.bs.length : Nat)]) rfl (by intro u hu; simp at hu; rcases hu with rfl | rfl | rfl | rfl <;> rfl)) (by omega) (by unfold maxLen; omega) (by rw [World.size_alloc, World.size_alloc]; have := HW.out; omega) ?_
                       rintro v1 w6 own1 hf1 hn1
                       have HV1 := Lib.hid own1
                       have HFW := Lib.hid hf1
                       clear own1 hf1 hn1)
          go_roundw
          case rel => exact ⟨q + 1, by go_num, hlt, ((HF6.out.alloc _).alloc _).trans HFW.out (fun k hk e => by have := (World.ownsRow.lt OW.out k e).1; omega), by rw [HTK.out]; exact HV1.out⟩
          case measure => simp [intOf]; omega
        · obtain rfl : q = L := by omega
          go_wp2_with fail
          go_ret
          refine ⟨_, rfl, ?_, HF5.out.trans HF6.out (fun _ _ h => h)⟩
          have h9 := OW.out
          rw [show (lids T).take q = lids T from by rw [← HLL.out, List.take_length]] at h9
          rw [HLL.out]
          exact own_base h9 (fun k hk => Nat.le_trans HF5.out.size (World.ownsRow.lt h9 k hk).1)
    · go_wp2_with (first
        | (at_next
           refine wpList_next_ranges _ rfl _ rfl 32 K64 RH (Value.int .u64) (fun v : Value => v) (fun key kl hk => by obtain ⟨x, rfl, _⟩ := Maps.keyOf_int_inv Try.underlying32 hk; exact ⟨x, rfl⟩) (fun v y _ => ⟨v, rfl⟩) mb w.heap.size n _ _ _ rfl hrg (fun h0 _ => absurd h0 hc0) ?_
           rintro x v kl y w1 cnt1 hk hl hv hat hrg1 hlt hg1 hs1 hen
           obtain ⟨x', ex, ekl, hwf⟩ := Maps.keyOf_int_inv Try.underlying32 hk
           injection ex with _ ex
           subst ex
           obtain ⟨k, rfl⟩ := Int.eq_ofNat_of_zero_le (bounds_u64 hwf).1
           subst ekl
           have f1 : Fr (fun _ => False) w w1 := ST.out.fr.grown hg1 (fun k e hk => by injection e with e; omega)
           have own1 : w1.ownsRow (w.heap.size + 1) 32 1 (.slice A3 xs.length cc3) xs.length (xs.map eU) := own_fr ST.out.own ((Fr.refl (fun q => q = w.heap.size) wr).grown hg1 (fun k e hk => by injection e with e; exact e.symm)) (fun q hq e => by have := (World.ownsRow.lt ST.out.own q hq).1; omega)
           have W1S : Hid (w.heap.size + 1 ≤ w1.heap.size) := by have := hrg1.lt; show _ ≤ _; omega
           have OW1 := Lib.hid own1
           have HRG1 := Lib.hid hrg1
           have HRG := Lib.hid hrg
           have HLF := Lib.hid hl
           have HLT2 := Lib.hid hlt
           have HF1 := Lib.hid f1
           clear hk hl hv hat hrg1 hrg hlt hg1 hs1 f1 own1 hwf)
        | (refine wpList_app rfl (.tmp 21) (.tmp 23) _ _ rfl (w.heap.size + 1) 32 i0 _ 1 8 Try.underlying72 hi hz0 hz1 hz2 rfl _ xs.length (xs.map eU) rfl (own_fa OW1.out ((Fr.refl _ w1).alloc _)) _ 1 [.int .u64 (k : Nat)] rfl (src_blk Try.underlying72 1 (Blk.new w1 32 #[.int .u64 (k : Nat)]) rfl (by intro u hu; simp at hu; subst hu; rfl)) (by omega) (by unfold maxLen; omega) (by rw [World.size_alloc]; have := W1S.out; omega) ?_
           intro v1 w2 own1 hf1 hn1
           have ST2 := Lib.hid (ST.out.step HLT.out.2 HLF.out HF1.out HRG1.out HLT2.out _ own1 hf1)
           clear own1 hf1 hn1))
      go_roundw
      case rel => exact ⟨_, _, _, ST2.out⟩
      case measure => rw [ST2.out.rg.left_eq, HRG.out.left_eq]; exact HLT2.out
end Go.Proofs.Ytpgklhbbjbdejaa
