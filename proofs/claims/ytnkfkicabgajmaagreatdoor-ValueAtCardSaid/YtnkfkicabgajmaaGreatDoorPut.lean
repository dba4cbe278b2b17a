/-
  CONTRACT of value.Put. Written by gen_put.py.
-/
import Derived.Test.YtnkfkicabgajmaaGreatDoorPutM
import Derived.Test.YtnkfkicabgajmaaGreatDoorParse
import Derived.Test.YtnkfkicabgajmaaGreatDoorGBase
import Derived.Deep.RegionHeld3
namespace Go.Proofs.YtnkfkicabgajmaaGreatDoor
set_option linter.unusedSimpArgs false
set_option linter.unusedVariables false
open Go Go.RowKit

theorem wpList_load_valg {P : Program} {ops : Array Oper} {rest : List Oper} {op : Oper} {a : Act} {w : World} {Q : Exit → Act → World → Prop} (ty : TypeId) (x : Operand) (ho : op.op = .load ty x) (hw : Region.wanted op (yielded ops a.tmps) = true)
    (g off : Nat) (hx : a.eval x = .pointer (some ⟨g, off, none⟩)) (C : Array Value) (hr : w.rangeAt g off C.toList) (d : TypeDesc) (hu : P.underlying ty = some d) (hd : d.isRow = true) (hi : (P.info? ty).map (·.size) = some C.size)
    (h : wpList P ops Q rest (a.put op.dst (.agg C)) w) : wpList P ops Q (op :: rest) a w :=
  wpList_step fun K hK => by rw [if_pos hw]; exact wp_load_mid ty x ho g off hx C.toList d hr hu hd (by rw [Array.length_toList]; exact hi) (hK _ _ (by rw [Array.toArray_toList]; exact h))
theorem bsearch_c (w : World) {A : Option Addr} {ks : List (List UInt8)} (c : Nat) (key : List UInt8) (ha : Rd w A ks.length (strs ks)) (hl : ks.length ≤ 140737488355328) :
    Calls Tryz.prog 34 #[.slice A ks.length c, .string (strOf key)] w fun e w' => e = .returned (.tuple #[.int .i64 ((posK ks key : Nat) : Int), .bool (hasK ks key)]) ∧ Fr (fun _ => False) w w' := by
  rcases Nat.eq_zero_or_pos ks.length with h0 | h0
  · obtain rfl : ks = [] := List.length_eq_zero_iff.1 h0
    refine (Any2.slices_BinarySearch_string_empty Tryz.laysNm226 A c (strOf key) w).mono ?_
    rintro e w' ⟨rfl, rfl⟩
    exact ⟨rfl, Fr.refl _ _⟩
  · obtain ⟨b, off, rfl, hc⟩ := ha.lit h0
    refine (Any2.slices_BinarySearch_string Tryz.laysNm226 b off ks.length c (fun t => strOf (ks.getD t [])) (strOf key) w (by omega) (fun j hj => ?_)).mono ?_
    · rw [hc j hj, strs_get ks j hj]
      simp [hj]
    · rintro e w' ⟨rfl, q, rfl⟩
      refine ⟨?_, (Fr.refl _ w).drewN q⟩
      have e1 : (fun t => Op.bytesLess (strOf (ks.getD t [])).toList (strOf key).toList) = fun t => kl (ks.getD t []) key := by
        funext t
        rw [strOf_toList, strOf_toList]
        rfl
      rw [e1]
      unfold hasK posK
      congr 1
      congr 1
      congr 1
      congr 1
      congr 1
      congr 1
      rw [decide_eq_decide]
      constructor
      · rintro ⟨a, b⟩; exact ⟨a, strOf_inj b⟩
      · rintro ⟨a, b⟩; exact ⟨a, by rw [b]⟩
theorem bs_val (W : World) (k n : Int) (t : List UInt8) (A : Option Addr) (nl cl : Nat) (K : Option Addr) (nk ck : Nat) : (Instr.buildSlice 22 1 #[(0, .agg (vcs k n t A nl cl K nk ck))]).run Tryz.prog W = .ok (.slice (some ⟨W.heap.size, 0, none⟩) 1 1) (W.alloc (.cells (vcs k n t A nl cl K nk ck) 25)) := by kernel_rfl
theorem own_setMid {W : World} {rb n c p : Nat} {xs : List Value} {C' : Array Value} (o : W.ownsRow 0 25 5 (.slice (some ⟨rb, 0, none⟩) n c) n xs) (hp : p < n) (h5 : C'.size = 5) :
    W.there rb (p * 5) C'.size ∧ (W.setCells rb (p * 5) C'.toList).ownsRow 0 25 5 (.slice (some ⟨rb, 0, none⟩) n c) n (xs.take (p * 5) ++ C'.toList ++ xs.drop (p * 5 + C'.toList.length)) ∧ Fr (fun q => (Value.slice (some ⟨rb, 0, none⟩) n c).ownBlock = some q) W (W.setCells rb (p * 5) C'.toList) := by
  have hxl := o.1
  rcases o.2 with ⟨hv, _⟩ | ⟨g', cap, cur, hv, hb, hh, h1, h2, h3, h4⟩
  · cases hv
  injection hv with hv _ hc
  injection hv with hv
  injection hv with hv _ _
  subst hv hc
  have hl5 : C'.toList.length = 5 := by rw [Array.length_toList, h5]
  have hB : Blk W rb 25 cur := hh
  have hfit : p * 5 + C'.toList.length ≤ cur.size := by rw [hl5, h3]; omega
  obtain ⟨b2, f2⟩ := blk_setCells hB (p * 5) C'.toList hfit
  refine ⟨fun j hj => ?_, ⟨?_, .inr ⟨rb, c, _, rfl, hb, b2, h1, h2, ?_, ?_⟩⟩, f2.mono (fun q _ h => by rw [h]; rfl)⟩
  · have hj5 : j < 5 := by rw [← h5]; exact hj
    have := hB.there (p * 5 + j) (by rw [h3]; omega)
    simpa using this
  · simp only [List.length_append, List.length_take, List.length_drop, hl5, hxl]
    omega
  · simp only [List.size_toArray, List.length_append, List.length_take, List.length_drop, hl5, Array.length_toList, h3]
    omega
  · rw [List.toList_toArray, ← h4]
    have hcl : cur.toList.length = c * 5 := by rw [Array.length_toList, h3]
    rw [List.append_assoc, List.append_assoc, List.take_append, List.take_append]
    have l1 : (List.take (p * 5) cur.toList).length = p * 5 := by rw [List.length_take]; omega
    rw [List.take_of_length_le (by rw [l1]; omega), l1, List.take_of_length_le (l := C'.toList) (by omega), hl5]
    congr 1
    · rw [List.take_take, Nat.min_eq_left (by omega)]
    · congr 1
      rw [List.drop_take]
      congr 1
      all_goals omega
theorem ksz_len : ∀ ks : List (List UInt8), ks.length ≤ ksz ks
  | [] => Nat.le_refl _
  | s :: ks => by
    have := ksz_len ks
    rw [ksz, List.length_cons]
    omega
theorem may_kl {n : Int} {t : List UInt8} {l : List V} {ks : List (List UInt8)} (h : mayV (.mk 6 n t l ks) = true) : ks.length ≤ 512 ∧ l.length ≤ 512 := by
  have ho := (uses_iff.1 (fields_kids (may_fields h).1).1).obj rfl
  unfold mayV at h
  simp only [Bool.and_eq_true, decide_eq_true_eq] at h
  have h1 := h.2
  unfold psz at h1
  have e : ownSz 6 n t l.length ks = 2 + (l.length - 1) + ksz ks := by unfold ownSz; simp
  rw [e] at h1
  have := ksz_len ks
  omega
theorem OwnL.one_ {w : World} {F : Nat → Prop} {l : List V} {Al : Option Addr} {cl : Nat} {css : List (Array Value)} {Fs : Nat → Nat → Prop} (h : OwnL w F l Al cl css Fs) : ∀ u ∈ flat css, u.oneCell' = true := by
  intro u hu
  unfold flat at hu
  rw [List.mem_flatMap] at hu
  obtain ⟨C, hC, hu⟩ := hu
  obtain ⟨i, hi, rfl⟩ := List.getElem_of_mem hC
  have hil : i < l.length := by rw [← h.cn]; exact hi
  exact (h.el i _ _ (List.getElem?_eq_getElem hi) (List.getElem?_eq_getElem hil)).rd.one u hu
theorem PSt.start {lo : Nat} {W : World} {k n : Int} {t : List UInt8} {l : List V} {ks : List (List UInt8)} {A K : Option Addr} {c kc : Nat} (o : OwnV W (fun b => lo ≤ b ∧ b < W.heap.size) (vcs k n t A l.length c K ks.length kc) (.mk k n t l ks)) :
    VB k n t l.length ks ∧ ∃ css Fs, PSt lo W.heap.size (W.alloc (.cells (vcs k n t A l.length c K ks.length kc) 25)) k n t l ks A c K kc css Fs := by
  obtain ⟨k', n', t', l', ks', A', c', K', kc', css, Fs, e, ec, hb, hk, hl, ha⟩ := o.inv
  injection e with e1 e2 e3 e4 e5
  subst e1 e2 e3 e4 e5
  simp only [vcs, Array.mk.injEq, List.cons.injEq, Value.slice.injEq, and_true, true_and] at ec
  obtain ⟨⟨rfl, rfl⟩, rfl, rfl⟩ := ec
  have fr : Fr (fun _ => False) W (W.alloc (.cells (vcs k n t A l.length c K ks.length kc) 25)) := (Fr.refl _ W).alloc _
  have hm : ∀ b, (lo ≤ b ∧ b < W.heap.size) → Fp lo W.heap.size (W.alloc (.cells (vcs k n t A l.length c K ks.length kc) 25)) b := fun b h => ⟨h.1, by omega, by rw [World.size_alloc]; omega⟩
  exact ⟨hb, css, Fs, ⟨(hk.far fr).row, fun q hq => hm q (hk.rf q hq)⟩, (hl.far fr).mono hm, ha, Blk.new W _ _, hb.ks⟩
def ptX6 (g rb L c p9 bx lo2 : Nat) (C3 : Array Value) (x : V) (i : Nat) (v : Value) (W : World) : Prop := match i with
  | 0 => v = .pointer (some ⟨g, 3, none⟩)
  | 1 => v = .slice (some ⟨rb, 0, none⟩) L c
  | 2 => v = .int .i64 (p9 : Nat)
  | 3 => v = .agg C3
  | 4 => ∃ C : Array Value, v = .agg C ∧ OwnV W (fun b => lo2 ≤ b) C x
  | 5 => v = .pointer (some ⟨rb, p9 * 5, none⟩)
  | _ => True
theorem ptX6_far {g rb L c p9 bx lo2 : Nat} {C3 : Array Value} {x : V} {i : Nat} {v : Value} {W W' : World} (hg : Fr (fun _ => False) W W') (hx : ptX6 g rb L c p9 bx lo2 C3 x i v W) : ptX6 g rb L c p9 bx lo2 C3 x i v W' := by
  match i with
  | 0 => exact hx
  | 1 => exact hx
  | 2 => exact hx
  | 3 => exact hx
  | 4 => (obtain ⟨C, hv, ho⟩ := hx; exact ⟨C, hv, ho.far hg⟩)
  | 5 => exact hx
  | (n + 6) => exact hx
def ptX8 (g L c p9 bx lo2 : Nat) (A : Option Addr) (C3 : Array Value) (x : V) (i : Nat) (v : Value) (W : World) : Prop := match i with
  | 0 => v = .pointer (some ⟨g, 3, none⟩)
  | 1 => v = .slice A L c
  | 2 => v = .int .i64 (p9 : Nat)
  | 3 => v = .agg C3
  | 4 => ∃ C : Array Value, v = .agg C ∧ OwnV W (fun b => lo2 ≤ b) C x
  | 5 => ∃ (vb : Nat) (C : Array Value), v = .slice (some ⟨vb, 0, none⟩) 1 1 ∧ Blk W vb 25 C ∧ OwnV W (fun b => lo2 ≤ b) C x ∧ lo2 ≤ vb
  | _ => True
theorem ptX8_far {g L c p9 bx lo2 : Nat} {A : Option Addr} {C3 : Array Value} {x : V} {i : Nat} {v : Value} {W W' : World} (hg : Fr (fun _ => False) W W') (hx : ptX8 g L c p9 bx lo2 A C3 x i v W) : ptX8 g L c p9 bx lo2 A C3 x i v W' := by
  match i with
  | 0 => exact hx
  | 1 => exact hx
  | 2 => exact hx
  | 3 => exact hx
  | 4 => (obtain ⟨C, hv, ho⟩ := hx; exact ⟨C, hv, ho.far hg⟩)
  | 5 => (obtain ⟨vb, C, hv, hb, ho, hl⟩ := hx; exact ⟨vb, C, hv, keepB hb hg, ho.far hg, hl⟩)
  | (n + 6) => exact hx
def PutQ (v : V) (key : List UInt8) (x : V) (w : World) (e : Ending) (w' : World) : Prop :=
  ∃ C, e = .returned (.tuple #[.agg C, .int .i64 (if (putO v key x).isSome then 0 else 1)]) ∧ OwnV w' (fun q => w.heap.size ≤ q ∧ q < w'.heap.size) C ((putO v key x).getD V.zero) ∧ Fr (fun _ => False) w w'
/-- From the object in its box on: is it good? -/
def PutEnd : Prop := True
set_option maxRecDepth 100000 in
set_option maxHeartbeats 8000000 in
theorem put_c (v x : V) (w : World) {D E : Nat → Prop} {C1 C3 : Array Value} (r1 : RdV D w C1 v) (r3 : RdV E w C3 x) (s1 : Sm v) (s3 : Sm x) (hL : LaidOk w) (key : List UInt8) (hk : key.length ≤ 1000000) :
    Calls Tryz.prog 14 #[.agg C1, .string (strOf key), .agg C3] w (PutQ v key x w) := by
  have hres := results_vi (P := Tryz.prog) (fn := Tryz.f14) (p := 6) (q := 7) (ty := 25) Tryz.results14
  have R1 := Lib.hid r1.lts
  have R3 := Lib.hid r3.lts
  have HL := Lib.hid hL
  have HS1' := Lib.hid s1
  have HS3' := Lib.hid s3
  have HS3 := Lib.hid (szV r3)
  obtain ⟨k, n, t, l, ks, Al, cl, Ak, ck, css0, ev, rfl, vp⟩ := r1.inv
  have HVB := Lib.hid vp.b
  have HS1 := Lib.hid (szV r1)
  obtain ⟨bx, hbx⟩ : ∃ bx, w.heap.size = bx := ⟨_, rfl⟩
  have HBX := Lib.hid hbx
  have HEV := Lib.hid ev
  clear hL s1 s3 r1 r3 hbx vp ev
  go_enter Tryz.func14, Tryz.ntmps14
  go_upto_region 1 with fail
  refine abs_world (fun W => Hid (Blk W w.heap.size 25 (vcs k n t Al l.length cl Ak ks.length ck)) ∧ Hid (Blk W (w.heap.size + 1) 25 C3) ∧ Hid (Blk W (w.heap.size + 1 + 1) 25 (vcs 0 0 [] none 0 0 none 0 0)) ∧ Hid (Fr (fun _ => False) w W)) ⟨((Blk.new w _ _).alloc _).alloc _, (Blk.new1 w _ _ _).alloc _, Blk.new2 w _ _ _ _, (((Fr.refl _ w).alloc _).alloc _).alloc _⟩ ?_
  rintro W1 ⟨B1, B3, RR, F1⟩
  rw [HBX.out] at B1 B3 RR ⊢
  have A1 := Lib.hid (blk_all B1.out)
  have A3x := Lib.hid (blk_all B3.out)
  have c0 : W1.cell? ⟨bx, 0, none⟩ = some (.int .i64 k) := B1.out.cell 0
  by_cases h6 : k = 6
  case neg =>
    have d1 : (k == 6) = false := by simpa using h6
    have hv6 : v.k ≠ 6 := by rw [HEV.out]; exact h6
    have HQ : Hid (putO v key x = none) := Lib.hid (by unfold putO; rw [if_neg (fun h => hv6 h.1)])
    have S1 := Lib.hid (show (Tryz.prog.info? 25).map (·.size) = some (vcs 0 0 [] none 0 0 none 0 0).size from lw5)
    have HO1 := Lib.hid (show (vcs 0 0 [] none 0 0 none 0 0).all (·.oneCell') = true by simp [vcs, Value.oneCell'])
    go_wp2_with (refine wpList_store_blk rfl 25 _ _ rfl (bx + 1 + 1) (vcs 0 0 [] none 0 0 none 0 0) rfl rfl RR.out rfl S1.out HO1.out ?_
                 intro W9 q9 f9
                 have F9 := Lib.hid f9
                 have Q9 := Lib.hid q9
                 clear q9 f9)
    refine bodyPost_ret (v := .tuple #[.agg (vcs 0 0 [] none 0 0 none 0 0), .int .i64 1]) (hres _ W9 (bx + 1 + 1) 25 _ _ _ rfl rfl Q9.out Tryz.underlying25 rfl S1.out) rfl ?_
    have hb := HBX.out
    unfold PutQ
    rw [HQ.out]
    exact ⟨_, rfl, OwnV.zero _ _, F1.out.trans F9.out (fun q hq he => by omega)⟩
  subst h6
  have MAY := Lib.hid (may_c v W1 _ _ (R1.out.far F1.out) HS1'.out (HL.out.far F1.out))
  go_wp2_with (refine wpList_load_valg 25 _ rfl ?_ bx _ rfl _ A1.out _ Tryz.underlying25 rfl HS1.out ?_; · kernel_rfl)
  refine MAY.out.mono ?_
  rintro e W2 ⟨rfl, f2⟩
  have B1 := Lib.hid (keepB B1.out f2)
  have B3 := Lib.hid (keepB B3.out f2)
  have RR := Lib.hid (keepB RR.out f2)
  have F2 : Hid (Fr (fun _ => False) w W2) := Lib.hid (F1.out.trans f2 (fun _ _ h => h))
  have A1 := Lib.hid (blk_all B1.out)
  have A3x := Lib.hid (blk_all B3.out)
  clear f2 MAY c0 F1
  cases hm : mayV v with
  | false =>
    have HM := Lib.hid hm
    clear hm
    have HQ : Hid (putO v key x = none) := Lib.hid (by unfold putO; rw [if_neg (fun h => by rw [HM.out] at h; exact absurd h.2.1 (by decide))])
    have S1 := Lib.hid (show (Tryz.prog.info? 25).map (·.size) = some (vcs 0 0 [] none 0 0 none 0 0).size from lw5)
    have HO1 := Lib.hid (show (vcs 0 0 [] none 0 0 none 0 0).all (·.oneCell') = true by simp [vcs, Value.oneCell'])
    go_wp2_with (refine wpList_store_blk rfl 25 _ _ rfl (bx + 1 + 1) (vcs 0 0 [] none 0 0 none 0 0) rfl rfl RR.out rfl S1.out HO1.out ?_
                 intro W9 q9 f9
                 have F9 := Lib.hid f9
                 have Q9 := Lib.hid q9
                 clear q9 f9)
    refine bodyPost_ret (v := .tuple #[.agg (vcs 0 0 [] none 0 0 none 0 0), .int .i64 1]) (hres _ W9 (bx + 1 + 1) 25 _ _ _ rfl rfl Q9.out Tryz.underlying25 rfl S1.out) rfl ?_
    have hb := HBX.out
    unfold PutQ
    rw [HQ.out]
    exact ⟨_, rfl, OwnV.zero _ _, F2.out.trans F9.out (fun q hq he => by omega)⟩
  | true =>
  have HM1 := Lib.hid hm
  clear hm
  have MAY := Lib.hid (may_c x W2 _ _ (R3.out.far F2.out) HS3'.out (HL.out.far F2.out))
  go_wp2_with (refine wpList_load_valg 25 _ rfl ?_ (bx + 1) _ rfl _ A3x.out _ Tryz.underlying25 rfl HS3.out ?_; · kernel_rfl)
  refine MAY.out.mono ?_
  rintro e W3 ⟨rfl, f3⟩
  have B1 := Lib.hid (keepB B1.out f3)
  have B3 := Lib.hid (keepB B3.out f3)
  have RR := Lib.hid (keepB RR.out f3)
  have F3 : Hid (Fr (fun _ => False) w W3) := Lib.hid (F2.out.trans f3 (fun _ _ h => h))
  have A1 := Lib.hid (blk_all B1.out)
  clear f3 MAY F2 A3x
  cases hm : mayV x with
  | false =>
    have HM := Lib.hid hm
    clear hm
    have HQ : Hid (putO v key x = none) := Lib.hid (by unfold putO; rw [if_neg (fun h => by rw [HM.out] at h; exact absurd h.2.2.1 (by decide))])
    have S1 := Lib.hid (show (Tryz.prog.info? 25).map (·.size) = some (vcs 0 0 [] none 0 0 none 0 0).size from lw5)
    have HO1 := Lib.hid (show (vcs 0 0 [] none 0 0 none 0 0).all (·.oneCell') = true by simp [vcs, Value.oneCell'])
    go_wp2_with (refine wpList_store_blk rfl 25 _ _ rfl (bx + 1 + 1) (vcs 0 0 [] none 0 0 none 0 0) rfl rfl RR.out rfl S1.out HO1.out ?_
                 intro W9 q9 f9
                 have F9 := Lib.hid f9
                 have Q9 := Lib.hid q9
                 clear q9 f9)
    refine bodyPost_ret (v := .tuple #[.agg (vcs 0 0 [] none 0 0 none 0 0), .int .i64 1]) (hres _ W9 (bx + 1 + 1) 25 _ _ _ rfl rfl Q9.out Tryz.underlying25 rfl S1.out) rfl ?_
    have hb := HBX.out
    unfold PutQ
    rw [HQ.out]
    exact ⟨_, rfl, OwnV.zero _ _, F3.out.trans F9.out (fun q hq he => by omega)⟩
  | true =>
  have HM3 := Lib.hid hm
  clear hm
  have OW := Lib.hid (own_c v W3 _ _ (R1.out.far F3.out) HS1'.out)
  go_wp2_with (refine wpList_load_val rfl 25 _ rfl bx _ rfl _ A1.out _ Tryz.underlying25 rfl HS1.out ?_)
  refine OW.out.mono ?_
  rintro e W4 ⟨C4, rfl, o4, f4⟩
  obtain ⟨k4, n4, t4, l4, ks4, A, c, K, kc, -, -, e4, rfl, -, -, -, -⟩ := o4.inv
  have hev := HEV.out.symm
  rw [e4] at hev
  injection hev with i1 i2 i3 i4 i5
  subst i1 i2 i3 i4 i5
  rw [e4] at o4
  obtain ⟨hvb, css, Fs, pst⟩ := PSt.start o4
  have PS := Lib.hid pst
  have BRR := Lib.hid (keepB RR.out f4)
  have BB3 := Lib.hid (keepB B3.out f4)
  have FF4 : Hid (Fr (fun _ => False) w W4) := Lib.hid (F3.out.trans f4 (fun _ _ h => h))
  have s34 := RR.out.lt
  have s44 := f4.size
  have SZ := Lib.hid (show bx + 1 + 1 < W3.heap.size ∧ W3.heap.size ≤ W4.heap.size from ⟨s34, s44⟩)
  clear o4 f4 pst e4 OW RR B3 B1 A1 F3 s34 s44 hvb
  go_upto_region 4 with fail
  obtain ⟨lo, hlo⟩ : ∃ lo, W3.heap.size = lo := ⟨_, rfl⟩
  rw [hlo] at PS SZ
  obtain ⟨g, hg⟩ : ∃ g, W4.heap.size = g := ⟨_, rfl⟩
  refine abs_world (fun W => Hid (PSt lo W4.heap.size W 6 n t l ks A c K kc css Fs) ∧ Hid (Blk W (bx + 1) 25 C3) ∧ Hid (Blk W (bx + 1 + 1) 25 (vcs 0 0 [] none 0 0 none 0 0)) ∧ Hid (Fr (fun _ => False) w W)) ⟨PS.out, BB3.out.alloc _, BRR.out.alloc _, FF4.out.alloc _⟩ ?_
  rintro V5 ⟨PS, B3, RR, F5⟩
  rw [hg] at PS SZ ⊢
  have HLO := Lib.hid hlo
  clear hlo hg BB3 BRR FF4
  have c4 : V5.cell? ⟨g, 4, none⟩ = some (.slice K ks.length kc) := PS.out.box.cell 4
  have BS := Lib.hid (bsearch_c V5 kc key (Rd.of_own PS.out.hk.row) HVB.out.kl)
  obtain ⟨p, hpp⟩ : ∃ p, posK ks key = p := ⟨_, rfl⟩
  rw [hpp] at BS
  have HP := Lib.hid hpp
  cases hh : hasK ks key with
  | true =>
    rw [hh] at BS
    have hh2 := hh
    unfold hasK at hh2
    rw [decide_eq_true_eq, hpp] at hh2
    have HH := Lib.hid hh
    have hobj := (uses_iff.1 (fields_kids (may_fields (HEV.out ▸ HM1.out)).1).1).obj rfl
    have hpl : p < l.length := by rw [← hobj]; exact hh2.1
    have HPL := Lib.hid hpl
    clear hh hh2 hpp hobj hpl
    go_wp2_with fail
    refine BS.out.mono ?_
    rintro e W5 ⟨rfl, f6⟩
    replace PS := Lib.hid (PS.out.far f6)
    replace B3 := Lib.hid (keepB B3.out f6)
    replace RR := Lib.hid (keepB RR.out f6)
    replace F5 : Hid (Fr (fun _ => False) w W5) := Lib.hid (F5.out.trans f6 (fun _ _ h => h))
    clear f6 BS c4
    clear V5
    obtain ⟨rb, cc, hA, -, -⟩ := PS.out.hl.row.form (show 0 < l.length by have := HPL.out; omega)
    injection hA with hA _ hc
    subst hA
    have A3 := Lib.hid (show W5.cell? ⟨g, 3, none⟩ = some (.slice (some ⟨rb, 0, none⟩) l.length c) from PS.out.box.cell 3)
    have RG3 := Lib.hid (blk_all B3.out)
    have HOWN := Lib.hid (fun W (hW : Fr (fun _ => False) W5 W) => own_c x W _ C3 (R3.out.far (F5.out.trans hW (fun _ _ h => h))) HS3'.out)
    have HLT := Lib.hid (show (0 : Int) ≤ (p : Int) ∧ (p : Int) < (l.length : Int) by have := HPL.out; omega)
    clear hc
    go_upto_region 6 with fail
    refine (wpIn_wide (n := 9)).1 ?_
    refine wpIn_region_factsG (ms := [0, 1, 0, 0, 8, 31, 63]) (k := 6) (Fr (fun _ => False)) (ptX6 g rb l.length c p (bx + 1) W5.heap.size C3 x) (fun i v W => True) (by kernel_rfl) (by kernel_rfl) (Fr.refl _ _) (fun a b c h1 h2 => h1.trans h2 (fun _ _ h => h)) (fun i v w w' hg hx => ptX6_far hg hx) ?walk6
    case walk6 =>
    have hdr : ∀ W, Fr (fun _ => False) W5.drew W → Fr (fun _ => False) W5 W := fun W h => ((Fr.refl (fun _ => False) W5).drew).trans h (fun _ _ h => h)
    have HDR := Lib.hid hdr
    clear hdr
    refine factWalkG_cons (fun W hW hf K hK => ?_) (fun x0 => ?_)
    · skip
      refine ⟨by kernel_rfl, ?_⟩
      gi_step
      exact hK _ _ (Fr.refl _ _) rfl trivial
    simp only [Act.put, List.setIfInBounds_toArray, List.set_cons_succ, List.set_cons_zero]
    refine factWalkG_cons (fun W hW hf K hK => ?_) (fun x1 => ?_)
    · skip
      have e0 : x0 = .pointer (some ⟨g, 3, none⟩) := hf 0 (by omega) (by kernel_rfl)
      subst e0
      have a3 : W.cell? ⟨g, 3, none⟩ = some (.slice (some ⟨rb, 0, none⟩) l.length c) := cell_far A3.out (HDR.out W hW)
      refine ⟨by kernel_rfl, ?_⟩
      gi_step
      exact hK _ _ (Fr.refl _ _) rfl trivial
    simp only [Act.put, List.setIfInBounds_toArray, List.set_cons_succ, List.set_cons_zero]
    refine factWalkG_cons (fun W hW hf K hK => ?_) (fun x2 => ?_)
    · skip
      refine ⟨by kernel_rfl, ?_⟩
      gi_step
      exact hK _ _ (Fr.refl _ _) rfl trivial
    simp only [Act.put, List.setIfInBounds_toArray, List.set_cons_succ, List.set_cons_zero]
    refine factWalkG_cons (fun W hW hf K hK => ?_) (fun x3 => ?_)
    · skip
      have hld := load_val (P := Tryz.prog) W (bx + 1) 0 C3 (rng_far RG3.out (HDR.out W hW)) 25 _ Tryz.underlying25 rfl HS3.out
      refine ⟨by kernel_rfl, ?_⟩
      refine operIn_load 25 _ rfl _ rfl hld ?_
      exact hK _ _ (Fr.refl _ _) rfl trivial
    simp only [Act.put, List.setIfInBounds_toArray, List.set_cons_succ, List.set_cons_zero]
    refine factWalkG_cons (fun W hW hf K hK => ?_) (fun x4 => ?_)
    · skip
      have e3 : x3 = .agg C3 := hf 3 (by omega) (by kernel_rfl)
      subst e3
      refine ⟨by kernel_rfl, ?_⟩
      gi_step
      refine ⟨trivial, ?_⟩
      refine (callsIn_wide.2 (HOWN.out W (HDR.out W hW))).mono ?_
      rintro e W' ⟨C6, rfl, o6, f2⟩
      dsimp only
      exact hK _ _ f2 ⟨C6, rfl, o6.mono (fun b hb => Nat.le_trans (HDR.out W hW).size hb.1)⟩ trivial
    simp only [Act.put, List.setIfInBounds_toArray, List.set_cons_succ, List.set_cons_zero]
    refine factWalkG_cons (fun W hW hf K hK => ?_) (fun x5 => ?_)
    · skip
      have e1 : x1 = .slice (some ⟨rb, 0, none⟩) l.length c := hf 1 (by omega) (by kernel_rfl)
      have e2 : x2 = .int .i64 (p : Nat) := hf 2 (by omega) (by kernel_rfl)
      subst e1 e2
      have hl1 := HLT.out
      refine ⟨by kernel_rfl, ?_⟩
      gi_step
      exact hK _ _ (Fr.refl _ _) (by first | rfl | simp) trivial
    simp only [Act.put, List.setIfInBounds_toArray, List.set_cons_succ, List.set_cons_zero]
    refine factWalkG_nil (fun W7 hW hf hmet => ?_)
    have e5 : x5 = .pointer (some ⟨rb, p * 5, none⟩) := hf 5 (by omega)
    obtain ⟨C', e4, o4⟩ : ∃ C : Array Value, x4 = .agg C ∧ OwnV W7 (fun b => W5.heap.size ≤ b) C x := hf 4 (by omega)
    subst e4 e5
    have D7 := Lib.hid (HDR.out W7 hW)
    have O4 := Lib.hid o4.lts
    have h5 := o4.rd.size
    have hs5 := szV o4.rd
    have ho5 := oneV o4.rd
    obtain ⟨hth, hrow, hfr⟩ := own_setMid (PS.out.far (HDR.out W7 hW)).hl.row HPL.out h5
    have hst := run_storeAt_mid (P := Tryz.prog) W7 rb (p * 5) 25 C' hth hs5 ho5
    have HST := Lib.hid hst
    rw [← flat_set css p C' PS.out.hl.c5 h5 (by rw [PS.out.hl.cn]; exact HPL.out)] at hrow
    obtain ⟨Fs7, ps7⟩ := PSt.set0 PS.out (HDR.out W7 hW) (by have := SZ.out; have := PS.out.box.lt; omega) HPL.out O4.out hrow hfr
    have PS8 := Lib.hid ps7
    have FR8 := Lib.hid hfr
    have RF8 := Lib.hid (PS.out.hl.rf rb rfl)
    have RR8 := Lib.hid (keepB RR.out (HDR.out W7 hW))
    have F8 : Hid (Fr (fun _ => False) w W7) := Lib.hid (F5.out.trans (HDR.out W7 hW) (fun _ _ h => h))
    clear hf hmet hW HDR o4 h5 hs5 ho5 hth hrow hfr hst ps7
    change wpAnyIn _ _ _ _ _ _ 1 _ _ _
    refine wpAnyIn_ready (rs := [6]) (by kernel_rfl) (by simp) ?_
    refine AllReadyIn.cons rfl (fun K9 hK => ?_) AllReadyIn.nil
    refine operIn_store rfl 25 _ _ rfl _ _ rfl rfl HST.out ?_
    refine hK _ _ ?_
    clear hK
    refine wpAnyIn_done (by kernel_rfl) ?_ _
    refine abs_exit (fun W => Hid (PSt lo g W 6 n t (l.set p x) ks (some ⟨rb, 0, none⟩) c K kc (css.set p C') Fs7) ∧ Hid (Blk W (bx + 1 + 1) 25 (vcs 0 0 [] none 0 0 none 0 0)) ∧ Hid (Fr (fun _ => False) w W)) ⟨PS8.out, RR8.out.fr FR8.out (fun e => by
      have h1 : rb = bx + 1 + 1 := by simpa [Value.ownBlock] using e
      have := RF8.out.1
      have := SZ.out
      omega), F8.out.trans FR8.out (fun q hq e => by
      have h1 : rb = q := by simpa [Value.ownBlock] using e
      have := RF8.out.1
      have := SZ.out
      have := HBX.out
      omega)⟩ ?_
    clear HST PS8 FR8 RF8 RR8 F8 PS RR O4 D7
    rintro W9 ⟨PS, RR, F9⟩
    have HV : Hid (putV v key x = .mk 6 n t (l.set p x) ks) := Lib.hid (by rw [HEV.out, put_mk, if_pos HH.out, HP.out])
    have LL : Hid ((l.set p x).length = l.length) := Lib.hid (by simp)
    have HLK : Hid (ks.length ≤ 140737488355328 ∧ (l.set p x).length ≤ 140737488355328) := Lib.hid ⟨HVB.out.kl, by rw [LL.out]; exact HVB.out.ll⟩
    have SM : Hid (Sm (.mk 6 n t (l.set p x) ks)) := Lib.hid (by
      have hs := HS1'.out
      rw [HEV.out] at hs
      have i := hs.inv
      exact .mk i.tl (by rw [LL.out]; exact i.ll) i.kl i.ks (fun y hy => by
        rcases List.mem_or_eq_of_mem_set hy with hy | rfl
        · exact i.el y hy
        · exact HS3'.out))
    obtain ⟨Lv, hLv⟩ : ∃ Lv, l.set p x = Lv := ⟨_, rfl⟩
    rw [hLv] at PS HV HLK SM
    clear LL hLv
    have HLN : Hid (VB 6 n t (Lv).length (ks)) := Lib.hid ⟨by decide, by decide, HVB.out.n0, HVB.out.n1, HVB.out.tl, HLK.out.2, HLK.out.1, PS.out.ml⟩
    have OV : Hid (OwnV W9 (Fp lo g W9) (vcs 6 n t (some ⟨rb, 0, none⟩) (Lv).length c K (ks).length kc) (.mk 6 n t (Lv) (ks))) := Lib.hid (PS.out.own (by decide) (by decide) HVB.out.n0 HVB.out.n1 HVB.out.tl HLK.out.2 HLK.out.1)
    have MAY := Lib.hid (may_c _ W9 _ _ OV.out.rd SM.out (HL.out.far F9.out))
    have BA := Lib.hid (blk_all PS.out.box)
    have SZ1 := Lib.hid (szV OV.out.rd)
    have ON1 := Lib.hid (oneV OV.out.rd)
    go_wp2_with (refine wpList_load_val rfl 25 _ rfl g _ rfl _ BA.out _ Tryz.underlying25 rfl SZ1.out ?_)
    refine MAY.out.mono ?_
    rintro e W10 ⟨rfl, f10⟩
    have RR := Lib.hid (keepB RR.out f10)
    have BX := Lib.hid (keepB PS.out.box f10)
    have BA := Lib.hid (blk_all BX.out)
    have OV10 := Lib.hid (OV.out.far f10)
    have F10 : Hid (Fr (fun _ => False) w W10) := Lib.hid (F9.out.trans f10 (fun _ _ h => h))
    have S10 := Lib.hid f10.size
    clear f10 MAY
    cases hm : mayV (.mk 6 n t Lv ks) with
    | false =>
      have HM := Lib.hid hm
      clear hm
      have HQ : Hid (putO v key x = none) := Lib.hid (by unfold putO; rw [if_neg (fun h => by rw [HV.out, HM.out] at h; exact absurd h.2.2.2 (by decide))])
      have S1 := Lib.hid (show (Tryz.prog.info? 25).map (·.size) = some (vcs 0 0 [] none 0 0 none 0 0).size from lw5)
      have HO1 := Lib.hid (show (vcs 0 0 [] none 0 0 none 0 0).all (·.oneCell') = true by simp [vcs, Value.oneCell'])
      go_wp2_with (refine wpList_store_blk rfl 25 _ _ rfl (bx + 1 + 1) (vcs 0 0 [] none 0 0 none 0 0) rfl rfl RR.out rfl S1.out HO1.out ?_
                   intro W9 q9 f9
                   have F9 := Lib.hid f9
                   have Q9 := Lib.hid q9
                   clear q9 f9)
      refine bodyPost_ret (v := .tuple #[.agg (vcs 0 0 [] none 0 0 none 0 0), .int .i64 1]) (hres _ W9 (bx + 1 + 1) 25 _ _ _ rfl rfl Q9.out Tryz.underlying25 rfl S1.out) rfl ?_
      have hb := HBX.out
      unfold PutQ
      rw [HQ.out]
      exact ⟨_, rfl, OwnV.zero _ _, F10.out.trans F9.out (fun q hq he => by omega)⟩
    | true =>
      have HQ : Hid (putO v key x = some (.mk 6 n t Lv ks)) := Lib.hid (by unfold putO; rw [if_pos ⟨by rw [HEV.out]; rfl, HM1.out, HM3.out, by rw [HV.out]; exact hm⟩, HV.out])
      clear hm
      go_wp2_with (first
        | (refine wpList_load_val rfl 25 _ rfl g _ rfl _ BA.out _ Tryz.underlying25 rfl SZ1.out ?_)
        | (refine wpList_store_blk rfl 25 _ _ rfl (bx + 1 + 1) _ rfl rfl RR.out rfl SZ1.out ON1.out ?_
           intro W11 q11 f11
           have F11 := Lib.hid f11
           have Q11 := Lib.hid q11
           clear q11 f11))
      refine bodyPost_ret (v := .tuple #[.agg _, .int .i64 0]) (hres _ W11 (bx + 1 + 1) 25 _ _ _ rfl rfl Q11.out Tryz.underlying25 rfl SZ1.out) rfl ?_
      have hb := HBX.out
      have hs := SZ.out
      have h11 := F11.out.size
      unfold PutQ
      rw [HQ.out]
      exact ⟨_, rfl, (OV10.out.fr F11.out (fun q hq he => by
        have h1 : q = bx + 1 + 1 := he
        have := hq.1
        omega)).mono (fun q hq => ⟨by have := hq.1; omega, by have := hq.2.2; have := S10.out; omega⟩), F10.out.trans F11.out (fun q hq he => by
        have h1 : q = bx + 1 + 1 := he
        omega)⟩
  | false =>
    rw [hh] at BS
    have hp1 : p ≤ ks.length := by rw [← hpp]; exact (posK_spec (fields_kids (may_fields (HEV.out ▸ HM1.out)).1).2.2.1 key).1
    have HH := Lib.hid hh
    have hobj := (uses_iff.1 (fields_kids (may_fields (HEV.out ▸ HM1.out)).1).1).obj rfl
    have hpl : p ≤ l.length := by rw [← hobj]; exact hp1
    have hsm := HS1'.out
    rw [HEV.out] at hsm
    have SMI := Lib.hid hsm.inv
    have HKL := Lib.hid hsm.inv.kl
    have HLL := Lib.hid hsm.inv.ll
    have HPL := Lib.hid hpl
    have HP1 := Lib.hid hp1
    clear hh hpp hsm hobj hpl hp1
    go_wp2_with fail
    refine BS.out.mono ?_
    rintro e V6 ⟨rfl, f6⟩
    replace PS := Lib.hid (PS.out.far f6)
    replace B3 := Lib.hid (keepB B3.out f6)
    replace RR := Lib.hid (keepB RR.out f6)
    replace F5 : Hid (Fr (fun _ => False) w V6) := Lib.hid (F5.out.trans f6 (fun _ _ h => h))
    clear f6 BS c4
    clear V5
    have c4 : V6.cell? ⟨g, 4, none⟩ = some (.slice K ks.length kc) := PS.out.box.cell 4
    have fa : Fr (fun _ => False) V6 (V6.alloc (.cells #[.string (strOf key)] 9)) := (Fr.refl _ V6).alloc _
    have INS := Lib.hid (insS_c (V6.alloc (.cells #[.string (strOf key)] 9)) 0 p ks.length V6.heap.size (.slice K ks.length kc) (strs ks) [.string (strOf key)] (PS.out.far fa).hk.row rfl (strs_one ks) (fun u hu => by
      rw [List.mem_singleton] at hu
      rw [hu]; rfl) HP1.out (Nat.zero_le _) (by have := HKL.out; omega) (Blk.new V6 _ _) (fun e => by
      have := (PS.out.hk.rf _ e).2.2
      omega))
    have FA := Lib.hid fa
    have HBG := Lib.hid PS.out.box.lt
    clear fa
    go_wp2_with fail
    refine INS.out.mono ?_
    rintro e W6 ⟨v7, rfl, o7, f7, n7⟩
    obtain ⟨K7, kc7, rfl, -, -⟩ := own_slice o7
    have hks7 : (strs ks).take (p * 1) ++ [Value.string (strOf key)] ++ (strs ks).drop (p * 1) = strs (ks.take p ++ key :: ks.drop p) := by
      simp [strs]
    have hlk7 : (ks.take p ++ key :: ks.drop p).length = ks.length + 1 := by have := HP1.out; simp; omega
    have o7' : W6.ownsRow 0 9 1 (.slice K7 (ks.take p ++ key :: ks.drop p).length kc7) (ks.take p ++ key :: ks.drop p).length (strs (ks.take p ++ key :: ks.drop p)) := by
      rw [hlk7, ← hks7]
      exact o7
    have hbox := (PS.out.far FA.out).box.fr f7 (fun e => (PS.out.hk.rf g e).2.1 rfl)
    have c4' : W6.cell? ⟨g, 4, none⟩ = some (.slice K ks.length kc) := hbox.cell 4
    have z4' : W6.frozen? ⟨g, 4, none⟩ = false := hbox.frozen 4
    have O7 := Lib.hid o7'
    have F7 := Lib.hid f7
    have N7 := Lib.hid n7
    have HBX7 := Lib.hid hbox
    have HLK7 := Lib.hid hlk7
    clear o7 o7' f7 n7 hbox hks7 c4 INS hlk7
    go_upto_region 8 with fail
    have PS9 : Hid (PSt lo g (W6.setCell ⟨g, 4, none⟩ (.slice K7 (ks.length + 1) kc7)) 6 n t l (ks.take p ++ key :: ks.drop p) A c K7 kc7 css Fs) := Lib.hid (by
      have hs := SZ.out
      refine PSt.keys (PS.out.far FA.out) (by have := FA.out.size; have := HBG.out; omega) (by have := FA.out.size; have := HBG.out; omega) O7.out F7.out (by rw [HLK7.out]; exact N7.out) ?_ (by rw [HLK7.out]; exact HBX7.out.set_ 4 _) ((Fr.refl (fun q => q = g) W6).setCell (p := ⟨g, 4, none⟩) (fun _ => rfl) _)
      intro s hs
      rcases List.mem_append.1 hs with h | h
      · exact HVB.out.ks s (List.mem_of_mem_take h)
      · rcases List.mem_cons.1 h with rfl | h
        · omega
        · exact HVB.out.ks s (List.mem_of_mem_drop h))
    refine abs_world (fun W => Hid (PSt lo g W 6 n t l (ks.take p ++ key :: ks.drop p) A c K7 kc7 css Fs) ∧ Hid (Blk W (bx + 1) 25 C3) ∧ Hid (Blk W (bx + 1 + 1) 25 (vcs 0 0 [] none 0 0 none 0 0)) ∧ Hid (Fr (fun _ => False) w W)) (by
      have hs := SZ.out
      have hb := HBX.out
      have hq : ∀ q, (Value.slice K ks.length kc).ownBlock = some q → lo ≤ q := fun q h => (PS.out.hk.rf q h).1
      have hg3 : lo ≤ g := by omega
      refine ⟨PS9.out, ((B3.out.alloc _).fr F7.out (fun e => by have := hq _ e; omega)).far (by show bx + 1 ≠ g; omega) _, ((RR.out.alloc _).fr F7.out (fun e => by have := hq _ e; omega)).far (by show bx + 1 + 1 ≠ g; omega) _, ?_⟩
      exact ((F5.out.alloc _).trans F7.out (fun q h1 h2 => by have := hq _ h2; omega)).trans ((Fr.refl (fun q => q = g) W6).setCell (p := ⟨g, 4, none⟩) (fun _ => rfl) _) (fun q h1 h2 => by have h3 : q = g := h2; omega)) ?_
    clear c4' z4' O7 F7 N7 HBX7 PS9 PS B3 RR F5 FA HBG
    rintro W5 ⟨PS, B3, RR, F5⟩
    have A3 := Lib.hid (show W5.cell? ⟨g, 3, none⟩ = some (.slice A l.length c) from PS.out.box.cell 3)
    have RG3 := Lib.hid (blk_all B3.out)
    have HOWN := Lib.hid (fun W (hW : Fr (fun _ => False) W5 W) => own_c x W _ C3 (R3.out.far (F5.out.trans hW (fun _ _ h => h))) HS3'.out)
    refine (wpIn_wide (n := 9)).1 ?_
    refine wpIn_region_factsG (ms := [0, 1, 0, 0, 8, 24, 63, 127, 255]) (k := 6) (Fr (fun _ => False)) (ptX8 g l.length c p (bx + 1) W5.heap.size A C3 x) (fun i v W => True) (by kernel_rfl) (by kernel_rfl) (Fr.refl _ _) (fun a b c h1 h2 => h1.trans h2 (fun _ _ h => h)) (fun i v w w' hg hx => ptX8_far hg hx) ?walk8
    case walk8 =>
    have hdr : ∀ W, Fr (fun _ => False) W5.drew W → Fr (fun _ => False) W5 W := fun W h => ((Fr.refl (fun _ => False) W5).drew).trans h (fun _ _ h => h)
    have HDR := Lib.hid hdr
    clear hdr
    refine factWalkG_cons (fun W hW hf K hK => ?_) (fun x0 => ?_)
    · skip
      refine ⟨by kernel_rfl, ?_⟩
      gi_step
      exact hK _ _ (Fr.refl _ _) rfl trivial
    simp only [Act.put, List.setIfInBounds_toArray, List.set_cons_succ, List.set_cons_zero]
    refine factWalkG_cons (fun W hW hf K hK => ?_) (fun x1 => ?_)
    · skip
      have e0 : x0 = .pointer (some ⟨g, 3, none⟩) := hf 0 (by omega) (by kernel_rfl)
      subst e0
      have a3 : W.cell? ⟨g, 3, none⟩ = some (.slice A l.length c) := cell_far A3.out (HDR.out W hW)
      refine ⟨by kernel_rfl, ?_⟩
      gi_step
      exact hK _ _ (Fr.refl _ _) rfl trivial
    simp only [Act.put, List.setIfInBounds_toArray, List.set_cons_succ, List.set_cons_zero]
    refine factWalkG_cons (fun W hW hf K hK => ?_) (fun x2 => ?_)
    · skip
      refine ⟨by kernel_rfl, ?_⟩
      gi_step
      exact hK _ _ (Fr.refl _ _) rfl trivial
    simp only [Act.put, List.setIfInBounds_toArray, List.set_cons_succ, List.set_cons_zero]
    refine factWalkG_cons (fun W hW hf K hK => ?_) (fun x3 => ?_)
    · skip
      have hld := load_val (P := Tryz.prog) W (bx + 1) 0 C3 (rng_far RG3.out (HDR.out W hW)) 25 _ Tryz.underlying25 rfl HS3.out
      refine ⟨by kernel_rfl, ?_⟩
      refine operIn_load 25 _ rfl _ rfl hld ?_
      exact hK _ _ (Fr.refl _ _) rfl trivial
    simp only [Act.put, List.setIfInBounds_toArray, List.set_cons_succ, List.set_cons_zero]
    refine factWalkG_cons (fun W hW hf K hK => ?_) (fun x4 => ?_)
    · skip
      have e3 : x3 = .agg C3 := hf 3 (by omega) (by kernel_rfl)
      subst e3
      refine ⟨by kernel_rfl, ?_⟩
      gi_step
      refine ⟨trivial, ?_⟩
      refine (callsIn_wide.2 (HOWN.out W (HDR.out W hW))).mono ?_
      rintro e W' ⟨C6, rfl, o6, f2⟩
      dsimp only
      exact hK _ _ f2 ⟨C6, rfl, o6.mono (fun b hb => Nat.le_trans (HDR.out W hW).size hb.1)⟩ trivial
    simp only [Act.put, List.setIfInBounds_toArray, List.set_cons_succ, List.set_cons_zero]
    refine factWalkG_cons (fun W hW hf K hK => ?_) (fun x5 => ?_)
    · skip
      obtain ⟨C4, e4, o4⟩ : ∃ C : Array Value, x4 = .agg C ∧ OwnV W (fun b => W5.heap.size ≤ b) C x := hf 4 (by omega) (by kernel_rfl)
      subst e4
      obtain ⟨k6, n6, t6, l6, ks6, Al6, cl6, Ak6, ck6, css6, Fs6, rfl, rfl, -⟩ := o4.inv
      refine ⟨by kernel_rfl, ?_⟩
      refine operIn_bs1 22 1 0 _ rfl _ rfl (bs_val W _ _ _ _ _ _ _ _ _) ?_
      exact hK _ _ ((Fr.refl _ W).alloc _) ⟨_, _, rfl, Blk.new W _ _, o4.far ((Fr.refl _ W).alloc _), Nat.le_trans (HDR.out W hW).size (Nat.le_refl _)⟩ trivial
    simp only [Act.put, List.setIfInBounds_toArray, List.set_cons_succ, List.set_cons_zero]
    refine factWalkG_nil (fun W7 hW hf hmet => ?_)
    have e1 : x1 = .slice A l.length c := hf 1 (by omega)
    have e2 : x2 = .int .i64 (p : Nat) := hf 2 (by omega)
    obtain ⟨vb, C', e5, b5, o5, l5⟩ : ∃ (vb : Nat) (C : Array Value), x5 = .slice (some ⟨vb, 0, none⟩) 1 1 ∧ Blk W7 vb 25 C ∧ OwnV W7 (fun b => W5.heap.size ≤ b) C x ∧ W5.heap.size ≤ vb := hf 5 (by omega)
    subst e1 e2 e5
    have fd := HDR.out W7 hW
    have D7 := Lib.hid fd
    have O5 := Lib.hid o5.lts
    have h5 := o5.rd.size
    have H5 := Lib.hid h5
    have INS := Lib.hid (insV_c W7 0 p l.length vb (.slice A l.length c) (flat css) C'.toList (PS.out.far fd).hl.row (by rw [Array.length_toList, h5]) PS.out.hl.one_ o5.rd.one HPL.out (Nat.zero_le _) (by have := HLL.out; omega) (by rw [Array.toArray_toList]; exact b5) (fun e => by
      have := (PS.out.hl.rf _ e).2.2
      omega))
    have RR7 := Lib.hid (keepB RR.out fd)
    have BOX7 := Lib.hid (PS.out.far fd).box
    have F7 : Hid (Fr (fun _ => False) w W7) := Lib.hid (F5.out.trans fd (fun _ _ h => h))
    clear hf hmet hW HDR o5 h5 b5 l5 fd
    change wpAnyIn _ _ _ _ _ _ 3 _ _ _
    refine wpAnyIn_ready (rs := [6]) (by kernel_rfl) (by simp) ?_
    refine AllReadyIn.cons rfl (fun K9 hK => ?_) AllReadyIn.nil
    refine ite_yes (by kernel_rfl) ?_
    gi_step
    refine ⟨trivial, ?_⟩
    refine (callsIn_wide.2 INS.out).mono ?_
    rintro e W8 ⟨v8, rfl, o8, f8, n8⟩
    obtain ⟨A8, c8, rfl, -, -⟩ := own_slice o8
    have O8 := Lib.hid o8
    have F8 := Lib.hid f8
    have N8 := Lib.hid n8
    clear o8 f8 n8 INS
    go_simp
    refine hK _ _ ?_
    clear hK
    change wpAnyIn _ _ _ _ _ _ 2 _ _ _
    refine wpAnyIn_ready (rs := [7]) (by kernel_rfl) (by simp) ?_
    refine AllReadyIn.cons rfl (fun K9 hK => ?_) AllReadyIn.nil
    go_simp
    refine hK _ _ ?_
    clear hK
    have hbox := BOX7.out.fr F8.out (fun e => (PS.out.hl.rf g e).2.1 rfl)
    have c3' : W8.cell? ⟨g, 3, none⟩ = some (.slice A l.length c) := hbox.cell 3
    have z3' : W8.frozen? ⟨g, 3, none⟩ = false := hbox.frozen 3
    have HB8 := Lib.hid hbox
    clear hbox
    change wpAnyIn _ _ _ _ _ _ 1 _ _ _
    refine wpAnyIn_ready (rs := [8]) (by kernel_rfl) (by simp) ?_
    refine AllReadyIn.cons rfl (fun K9 hK => ?_) AllReadyIn.nil
    go_simp
    refine hK _ _ ?_
    clear hK
    refine wpAnyIn_done (by kernel_rfl) ?_ _
    obtain ⟨Fs9, ps9⟩ := PSt.ins0 PS.out D7.out (by have := SZ.out; have := PS.out.box.lt; omega) HPL.out O5.out O8.out F8.out N8.out (HB8.out.set_ 3 (.slice A8 (l.length + 1) c8)) ((Fr.refl (fun q => q = g) W8).setCell (p := ⟨g, 3, none⟩) (fun _ => rfl) (.slice A8 (l.length + 1) c8))
    have PS9 := Lib.hid ps9
    clear ps9
    refine abs_exit (fun W => Hid (PSt lo g W 6 n t (l.take p ++ x :: l.drop p) (ks.take p ++ key :: ks.drop p) A8 c8 K7 kc7 (css.take p ++ C' :: css.drop p) Fs9) ∧ Hid (Blk W (bx + 1 + 1) 25 (vcs 0 0 [] none 0 0 none 0 0)) ∧ Hid (Fr (fun _ => False) w W)) (by
      have hs := SZ.out
      have hb := HBX.out
      have hq : ∀ q, (Value.slice A l.length c).ownBlock = some q → lo ≤ q := fun q h => (PS.out.hl.rf q h).1
      refine ⟨PS9.out, (RR7.out.fr F8.out (fun e => by have := hq _ e; omega)).far (by show bx + 1 + 1 ≠ g; omega) _, ?_⟩
      exact (F7.out.trans F8.out (fun q h1 h2 => by have := hq _ h2; omega)).trans ((Fr.refl (fun q => q = g) W8).setCell (p := ⟨g, 3, none⟩) (fun _ => rfl) _) (fun q h1 h2 => by have h3 : q = g := h2; omega)) ?_
    clear PS9 O8 F8 N8 HB8 RR7 BOX7 F7 D7 O5 H5 PS B3 RR c3' z3' F5 A3 RG3 HOWN
    rintro W9 ⟨PS, RR, F9⟩
    have HV : Hid (putV v key x = .mk 6 n t (l.take p ++ x :: l.drop p) (ks.take p ++ key :: ks.drop p)) := Lib.hid (by rw [HEV.out, put_mk, if_neg (by rw [HH.out]; decide), HP.out])
    have LL : Hid ((l.take p ++ x :: l.drop p).length = l.length + 1) := Lib.hid (by have := HPL.out; simp; omega)
    have HLK : Hid ((ks.take p ++ key :: ks.drop p).length ≤ 140737488355328 ∧ (l.take p ++ x :: l.drop p).length ≤ 140737488355328) := Lib.hid ⟨by rw [HLK7.out]; have := HKL.out; omega, by rw [LL.out]; have := HLL.out; omega⟩
    have SM : Hid (Sm (.mk 6 n t (l.take p ++ x :: l.drop p) (ks.take p ++ key :: ks.drop p))) := Lib.hid (by
      have i := SMI.out
      have hml := may_kl (HEV.out ▸ HM1.out)
      have e1 := LL.out
      have e2 := HLK7.out
      exact .mk i.tl (by rw [e1]; omega) (by rw [e2]; omega) (fun s hs => by
        rcases List.mem_append.1 hs with h | h
        · exact i.ks s (List.mem_of_mem_take h)
        · rcases List.mem_cons.1 h with rfl | h
          · exact hk
          · exact i.ks s (List.mem_of_mem_drop h)) (fun y hy => by
        rcases List.mem_append.1 hy with h | h
        · exact i.el y (List.mem_of_mem_take h)
        · rcases List.mem_cons.1 h with rfl | h
          · exact HS3'.out
          · exact i.el y (List.mem_of_mem_drop h)))
    obtain ⟨Lv, hLv⟩ : ∃ Lv, l.take p ++ x :: l.drop p = Lv := ⟨_, rfl⟩
    obtain ⟨Kv, hKv⟩ : ∃ Kv, ks.take p ++ key :: ks.drop p = Kv := ⟨_, rfl⟩
    rw [hLv, hKv] at PS HV HLK SM
    clear LL hLv hKv HLK7
    have HLN : Hid (VB 6 n t (Lv).length (Kv)) := Lib.hid ⟨by decide, by decide, HVB.out.n0, HVB.out.n1, HVB.out.tl, HLK.out.2, HLK.out.1, PS.out.ml⟩
    have OV : Hid (OwnV W9 (Fp lo g W9) (vcs 6 n t A8 (Lv).length c8 K7 (Kv).length kc7) (.mk 6 n t (Lv) (Kv))) := Lib.hid (PS.out.own (by decide) (by decide) HVB.out.n0 HVB.out.n1 HVB.out.tl HLK.out.2 HLK.out.1)
    have MAY := Lib.hid (may_c _ W9 _ _ OV.out.rd SM.out (HL.out.far F9.out))
    have BA := Lib.hid (blk_all PS.out.box)
    have SZ1 := Lib.hid (szV OV.out.rd)
    have ON1 := Lib.hid (oneV OV.out.rd)
    go_wp2_with (refine wpList_load_val rfl 25 _ rfl g _ rfl _ BA.out _ Tryz.underlying25 rfl SZ1.out ?_)
    refine MAY.out.mono ?_
    rintro e W10 ⟨rfl, f10⟩
    have RR := Lib.hid (keepB RR.out f10)
    have BX := Lib.hid (keepB PS.out.box f10)
    have BA := Lib.hid (blk_all BX.out)
    have OV10 := Lib.hid (OV.out.far f10)
    have F10 : Hid (Fr (fun _ => False) w W10) := Lib.hid (F9.out.trans f10 (fun _ _ h => h))
    have S10 := Lib.hid f10.size
    clear f10 MAY
    cases hm : mayV (.mk 6 n t Lv Kv) with
    | false =>
      have HM := Lib.hid hm
      clear hm
      have HQ : Hid (putO v key x = none) := Lib.hid (by unfold putO; rw [if_neg (fun h => by rw [HV.out, HM.out] at h; exact absurd h.2.2.2 (by decide))])
      have S1 := Lib.hid (show (Tryz.prog.info? 25).map (·.size) = some (vcs 0 0 [] none 0 0 none 0 0).size from lw5)
      have HO1 := Lib.hid (show (vcs 0 0 [] none 0 0 none 0 0).all (·.oneCell') = true by simp [vcs, Value.oneCell'])
      go_wp2_with (refine wpList_store_blk rfl 25 _ _ rfl (bx + 1 + 1) (vcs 0 0 [] none 0 0 none 0 0) rfl rfl RR.out rfl S1.out HO1.out ?_
                   intro W9 q9 f9
                   have F9 := Lib.hid f9
                   have Q9 := Lib.hid q9
                   clear q9 f9)
      refine bodyPost_ret (v := .tuple #[.agg (vcs 0 0 [] none 0 0 none 0 0), .int .i64 1]) (hres _ W9 (bx + 1 + 1) 25 _ _ _ rfl rfl Q9.out Tryz.underlying25 rfl S1.out) rfl ?_
      have hb := HBX.out
      unfold PutQ
      rw [HQ.out]
      exact ⟨_, rfl, OwnV.zero _ _, F10.out.trans F9.out (fun q hq he => by omega)⟩
    | true =>
      have HQ : Hid (putO v key x = some (.mk 6 n t Lv Kv)) := Lib.hid (by unfold putO; rw [if_pos ⟨by rw [HEV.out]; rfl, HM1.out, HM3.out, by rw [HV.out]; exact hm⟩, HV.out])
      clear hm
      go_wp2_with (first
        | (refine wpList_load_val rfl 25 _ rfl g _ rfl _ BA.out _ Tryz.underlying25 rfl SZ1.out ?_)
        | (refine wpList_store_blk rfl 25 _ _ rfl (bx + 1 + 1) _ rfl rfl RR.out rfl SZ1.out ON1.out ?_
           intro W11 q11 f11
           have F11 := Lib.hid f11
           have Q11 := Lib.hid q11
           clear q11 f11))
      refine bodyPost_ret (v := .tuple #[.agg _, .int .i64 0]) (hres _ W11 (bx + 1 + 1) 25 _ _ _ rfl rfl Q11.out Tryz.underlying25 rfl SZ1.out) rfl ?_
      have hb := HBX.out
      have hs := SZ.out
      have h11 := F11.out.size
      unfold PutQ
      rw [HQ.out]
      exact ⟨_, rfl, (OV10.out.fr F11.out (fun q hq he => by
        have h1 : q = bx + 1 + 1 := he
        have := hq.1
        omega)).mono (fun q hq => ⟨by have := hq.1; omega, by have := hq.2.2; have := S10.out; omega⟩), F10.out.trans F11.out (fun q hq he => by
        have h1 : q = bx + 1 + 1 := he
        omega)⟩
end Go.Proofs.YtnkfkicabgajmaaGreatDoor
