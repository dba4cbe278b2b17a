/-
  CONTRACT of rev.Parse.
-/
import Derived.Test.YtjaocgmicdnghaaDoorPrint
import Derived.Test.YtjaocgmicdnghaaDoorPu
import Derived.Lib.ParseIntBCases
namespace Go.Proofs.YtjaocgmicdnghaaDoor
set_option linter.unusedSimpArgs false
set_option linter.unusedVariables false
open Go Go.RowKit Go.Shelf
attribute [local go_sem] Oper.semAt_some

theorem run_index_strOf (W : World) (l : List UInt8) (i : Nat) (h : i < l.length) : (Instr.index 9 (.string (strOf l)) (.int .i64 (i : Nat))).run Tryd.prog W = .ok (.int .u8 ((l[i]'h).toNat : Nat)) W := by
  rw [run_index_string W _ _ _ _ Tryd.underlying9]
  rw [dif_pos ⟨by omega, by rw [strOf_size]; omega⟩]
  rfl
theorem dgt_index : ∀ c : UInt8, ((Lib.indexByte hexs c) % 256) % 16 = (dgt c : Nat) := by
  intro c
  have : ∀ k : Fin 256, ((Lib.indexByte hexs (UInt8.ofNat k.val)) % 256) % 16 = (dgt (UInt8.ofNat k.val) : Nat) := by decide +kernel
  have h := this ⟨c.toNat, c.toNat_lt⟩
  simpa using h
set_option maxRecDepth 100000 in
theorem digit_c (w : World) (b i : Nat) (l : List UInt8) (hb : w.cell? ⟨b, 0, none⟩ = some (.string (strOf l))) (hi : i < l.length) (hl : l.length ≤ 1000) :
    Calls Tryd.prog 21 #[.int .i64 (i : Nat), .pointer (some ⟨b, 0, none⟩)] w fun e w' => e = .returned (.int .u8 (dgt (l[i]'hi) : Nat)) ∧ w = w' := by
  have hix := fun W => run_index_strOf W l i hi
  have hdg := dgt_index (l[i]'hi)
  have h256 := (l[i]'hi).toNat_lt
  have hc := fun W => index_c W (l[i]'hi).toNat
  have e1 : Nat.toUInt8 (l[i]'hi).toNat = l[i]'hi := UInt8.ofNat_toNat
  simp only [e1] at hc
  obtain ⟨n, hn⟩ : ∃ n, Lib.indexByte hexs (l[i]'hi) = n := ⟨_, rfl⟩
  obtain ⟨d, hd⟩ : ∃ d, dgt (l[i]'hi) = d := ⟨_, rfl⟩
  rw [hn, hd] at hdg
  rw [hd]
  simp only [hn] at hc
  obtain ⟨x, hx⟩ : ∃ x, (l[i]'hi).toNat = x := ⟨_, rfl⟩
  rw [hx] at h256
  simp only [hx] at hc hix
  have HC := Lib.hid hc
  have HD := Lib.hid hdg
  clear hn hd hx hc hdg e1
  go_enter Tryd.func21, Tryd.ntmps21
  go_wp2_with fail
  refine (HC.out w).mono ?_
  rintro e w' ⟨rfl, rfl⟩
  go_wp2_with fail
  go_ret
  exact ⟨by rw [← HD.out]; rfl, rfl⟩

theorem results_two {P : Program} {fn : Func} {p q : Tmp} {ty : TypeId} (h : fn.results = #[.cell p ty, .tmp q]) (tmps : Array Value) (w : World) (g : Nat) (t : TypeId) (cs : Array Value) (fr : Nat × Nat) (d : TypeDesc)
    (hp : tmps.getD p undef = .pointer (some ⟨g, 0, none⟩)) (hg : w.heap[g]? = some (.cells cs t fr))
    (hu : P.underlying ty = some d) (hd : (match d with | .struct _ | .array _ _ => true | _ => false) = true) (hi : (P.info? ty).map (·.size) = some cs.size) :
    (results fn tmps).run P w = .ok (.tuple #[.agg cs, tmps.getD q undef]) w := by
  have hp' : tmps[p]?.getD undef = .pointer (some ⟨g, 0, none⟩) := by simpa using hp
  simp [results, h, hp', asAddr, run_loadVar_row w g t ty cs fr d hg hu hd hi]

def zN : List UInt8 := List.replicate 16 0
def parseV : Option (Nat × List UInt8) → Value
  | some x => .tuple #[.agg (rc x.1 x.2).toArray, .int .i64 0]
  | none => .tuple #[.agg (rc 0 zN).toArray, .int .i64 2]
theorem cut1_len (s : List UInt8) : (cut1 s).1.length ≤ s.length ∧ (cut1 s).2.length ≤ s.length := by
  unfold cut1 Lib.cut
  split <;> simp <;> omega
theorem rc_one (g : Nat) (s : List UInt8) : ∀ u ∈ rc g s, u.oneCell' = true := by
  intro u hu
  rcases List.mem_cons.1 hu with rfl | hu
  · rfl
  · exact bv_one s u hu
theorem rc_all (g : Nat) (s : List UInt8) : (rc g s).toArray.all (·.oneCell') = true := all_oneCell_toArray (rc_one g s)
theorem parse_none32 {s : List UInt8} (h : (cut1 s).2.length ≠ 32) : parse s = none := by
  cases hp : parse s with
  | none => rfl
  | some x =>
    obtain ⟨g, sum⟩ := x
    obtain ⟨h1, h2, rfl⟩ := parse_some hp
    rw [cut1_txt, hexL_length, h2] at h
    exact absurd rfl h
theorem rc_set (g : Nat) (l : List UInt8) (k : Nat) (c : UInt8) : (rc g l).toArray.setIfInBounds (1 + k) (.int .u8 (c.toNat : Nat)) = (rc g (l.set k c)).toArray := by
  rw [Nat.add_comm]
  simp [rc, bv, List.map_set]
theorem genOf_lt (l : List UInt8) : genOf l < 18446744073709551616 := by
  unfold genOf
  cases h : Lib.parseUintB 64 l
  · have := Lib.parseUintB_le h
    rename_i u
    show u < 18446744073709551616
    omega
  · show 0 < 18446744073709551616
    omega
  · show 18446744073709551615 < 18446744073709551616
    omega
theorem or_nib : ∀ a b : Fin 16, bits .or .u8 ((a.val : Int) * 16) (b.val : Int) = ((a.val * 16 + b.val : Nat) : Int) := by decide +kernel
def mid (L : List UInt8) (k : Nat) : List UInt8 := unhex (L.take (2 * k)) ++ List.replicate (16 - k) 0
theorem unhex_snoc2 : ∀ (l : List UInt8) (a b : UInt8), l.length % 2 = 0 → unhex (l ++ [a, b]) = unhex l ++ [UInt8.ofNat (dgt a * 16 + dgt b)]
  | [], a, b, _ => rfl
  | [x], _, _, h => by simp at h
  | x :: y :: l, a, b, h => by
    simp only [List.cons_append, unhex]
    rw [unhex_snoc2 l a b (by simp at h; omega)]
theorem mid_zero (L : List UInt8) : mid L 0 = zN := rfl
theorem mid_end {L : List UInt8} (h : L.length = 32) : mid L 16 = unhex L := by
  unfold mid
  rw [List.take_of_length_le (by omega)]
  simp
theorem mid_len {L : List UInt8} (h : L.length = 32) {k : Nat} (hk : k ≤ 16) : (mid L k).length = 16 := by
  unfold mid
  rw [List.length_append, unhex_length, List.length_take, List.length_replicate]
  omega
theorem mid_succ {L : List UInt8} (h : L.length = 32) {k : Nat} (hk : k < 16) : (mid L k).set k (UInt8.ofNat (dgt (L[2 * k]'(by omega)) * 16 + dgt (L[2 * k + 1]'(by omega)))) = mid L (k + 1) := by
  unfold mid
  have hl : (unhex (L.take (2 * k))).length = k := by rw [unhex_length, List.length_take]; omega
  rw [List.set_append_right _ _ (by omega), hl, Nat.sub_self, show 16 - k = (15 - k) + 1 by omega, List.replicate_succ, List.set_cons_zero]
  have ht : L.take (2 * (k + 1)) = L.take (2 * k) ++ [L[2 * k]'(by omega), L[2 * k + 1]'(by omega)] := by
    rw [show 2 * (k + 1) = 2 * k + 1 + 1 by omega, List.take_succ_eq_append_getElem (by omega), List.take_succ_eq_append_getElem (by omega), List.append_assoc]
    rfl
  rw [ht, unhex_snoc2 _ _ _ (by rw [List.length_take]; omega), List.append_assoc, show 16 - (k + 1) = 15 - k by omega]
  rfl
theorem tRev_size {g : Nat} {s : List UInt8} (hs : s.length = 16) : (Tryd.prog.info? 25).map (·.size) = some (rc g s).toArray.size := by rw [List.size_toArray, rc_len hs]; kernel_rfl

set_option maxRecDepth 100000 in
set_option maxHeartbeats 600000 in
theorem parse_c (w : World) (s : List UInt8) (hs : s.length ≤ 1000) (hL : LaidOk w) :
    Calls Tryd.prog 11 #[.string (strOf s)] w fun e w' => e = .returned (parseV (parse s)) ∧ Fr (fun _ => False) w w' := by
  have hcl := cut1_len s
  have hcut := fun W (hW : Fr (fun _ => False) w W) => cut_c W s hs (hL.far hW)
  have hpn := @parse_none32 s
  have hpd : parse s = if isName (genOf (cut1 s).1) (unhex (cut1 s).2) s then some (genOf (cut1 s).1, unhex (cut1 s).2) else none := rfl
  obtain ⟨D, hD⟩ : ∃ D, (cut1 s).1 = D := ⟨_, rfl⟩
  obtain ⟨L, hLL⟩ : ∃ L, (cut1 s).2 = L := ⟨_, rfl⟩
  rw [hD, hLL] at hcl
  simp only [hD, hLL] at hcut hpn hpd
  have hpu := fun W (hW : Fr (fun _ => False) w W) => parseUint_c W D (by omega) (hL.far hW)
  have HCUT := Lib.hid hcut
  have HPN := Lib.hid hpn
  have HPD := Lib.hid hpd
  have HPU := Lib.hid hpu
  have HL := Lib.hid hL
  have hl1000 : L.length ≤ 1000 := by omega
  clear hcut hpn hpd hpu hD hLL hcl hL hs
  go_enter Tryd.func11, Tryd.ntmps11
  go_upto_region 1 with fail
  refine abs_world (fun W => Hid (Blk W w.heap.size 25 (rc 0 zN).toArray) ∧ Hid (Fr (fun _ => False) w W)) ⟨Blk.new w _ _, (Fr.refl _ w).alloc _⟩ ?_
  rintro W1 ⟨B0, F1⟩
  go_wp2_with fail
  refine (HCUT.out W1 F1.out).mono ?_
  rintro e w2 ⟨rfl, f2⟩
  have F2 := Lib.hid (F1.out.trans f2 (fun _ _ h => h))
  have B2 := Lib.hid (B0.out.fr f2 (fun h => h))
  clear f2 F1 B0 HCUT
  go_upto_region 3 with fail
  have hlt2 : w.heap.size < w2.heap.size := B2.out.lt
  refine abs_world (fun W => Hid (Blk W w.heap.size 25 (rc 0 zN).toArray) ∧ Hid (Blk W w2.heap.size 9 #[.string (strOf L)]) ∧ Hid (Blk W (w2.heap.size + 1) 25 (rc 0 zN).toArray) ∧ Hid (Fr (fun _ => False) w W)) ⟨(B2.out.alloc _).alloc _, (Blk.new w2 _ _).alloc _, by have h := Blk.new (w2.alloc (.cells #[.string (strOf L)] 9)) 25 (rc 0 zN).toArray; rw [World.size_alloc] at h; exact h, (F2.out.alloc _).alloc _⟩ ?_
  rintro W3 ⟨B3, S3, R3, F3⟩
  obtain ⟨b5, hb5⟩ : ∃ b, w2.heap.size = b := ⟨_, rfl⟩
  rw [hb5] at S3 R3 hlt2 ⊢
  obtain ⟨b7, hb7⟩ : ∃ b, b5 + 1 = b := ⟨_, rfl⟩
  rw [hb7] at R3 ⊢
  obtain ⟨b2, hb2⟩ : ∃ b, w.heap.size = b := ⟨_, rfl⟩
  rw [hb2] at B3 hlt2 ⊢
  have HB := Lib.hid (And.intro hb2 (show b5 < b7 by omega))
  clear hb5 hb7 hb2 F2 B2
  have c5 : W3.cell? ⟨b5, 0, none⟩ = some (.string (strOf L)) := S3.out.cell 0
  by_cases h32 : L.length = 32
  case neg =>
    have hne : (((strOf L).size : Int) != 32) = true := by rw [strOf_size]; simp; omega
    have HSZ := Lib.hid (tRev_size (g := 0) (s := zN) rfl)
    have HTH : Hid (W3.there b2 0 (rc 0 zN).toArray.size) := B3.out.there
    have HST := Lib.hid (B3.out.setAll (ds := (rc 0 zN).toArray) rfl)
    have HONE := Lib.hid (rc_all 0 zN)
    have FST := Lib.hid (Fr.setCells (fp := fun k => k = b2) (a := W3) (g := b2) (fun _ => rfl) (rc 0 zN) 0 W3 (Fr.refl _ _))
    go_wp2_with (refine wpList_store_mid rfl 25 _ _ rfl b2 0 (rc 0 zN).toArray rfl rfl HTH.out HSZ.out HONE.out ?_)
    generalize W3.setCells b2 0 (rc 0 zN).toArray.toList = w9 at *
    refine bodyPost_ret (v := parseV none) (results_two Tryd.results11 _ _ b2 25 (rc 0 zN).toArray (0, 0) _ rfl HST.out Tryd.underlying25 rfl HSZ.out) rfl ⟨by rw [HPN.out h32], F3.out.trans FST.out (fun k hk e => by have := HB.out.1; omega)⟩
  case pos =>
    have heq : (((strOf L).size : Int) != 32) = false := by rw [strOf_size, h32]; rfl
    go_wp2_with fail
    clear heq c5
    go_loopw [23] (fun iv wr => ∃ k : Nat, iv = .int .i64 (k : Int) ∧ k ≤ 16 ∧ Hid (Blk wr b7 25 (rc 0 (mid L k)).toArray) ∧ Hid (Blk wr b5 9 #[.string (strOf L)]) ∧ Hid (Blk wr b2 25 (rc 0 zN).toArray) ∧ Hid (Fr (fun _ => False) w wr)) (fun iv _ => 16 - (intOf iv).toNat)
    case atStart => exact ⟨0, rfl, by omega, R3.out, S3.out, B3.out, F3.out⟩
    case round =>
      obtain ⟨k, rfl, hk, R4, S4, B4, F4⟩ := hrel
      have c5 : wr.cell? ⟨b5, 0, none⟩ = some (.string (strOf L)) := S4.out.cell 0
      by_cases hlt : k < 16
      case pos =>
        have hdl : decide ((k : Int) < 16) = true := decide_eq_true (by omega)
        have hml := mid_len h32 hk
        have hms := mid_succ h32 hlt
        obtain ⟨x0, cK⟩ : ∃ x0 : Nat, wr.cell? ⟨b7, 1 + k, none⟩ = some (.int .u8 (x0 : Nat)) := ⟨_, by
          rw [R4.out.cell, List.getElem?_toArray, Nat.add_comm]
          exact bv_get _ _ (by omega)⟩
        have mK := R4.out.frozen (1 + k)
        have dg1 := digit_c wr b5 (2 * k) L c5 (by omega) hl1000
        have dg2 := digit_c wr b5 (2 * k + 1) L c5 (by omega) hl1000
        have d1 := dgt_lt (L[2 * k]'(by omega))
        have d2 := dgt_lt (L[2 * k + 1]'(by omega))
        obtain ⟨x1, hx1⟩ : ∃ x, dgt (L[2 * k]'(by omega)) = x := ⟨_, rfl⟩
        obtain ⟨x2, hx2⟩ : ∃ x, dgt (L[2 * k + 1]'(by omega)) = x := ⟨_, rfl⟩
        rw [hx1] at dg1 d1 hms
        rw [hx2] at dg2 d2 hms
        rw [show ((2 * k : Nat) : Int) = 2 * (k : Int) by omega] at dg1
        rw [show ((2 * k + 1 : Nat) : Int) = 2 * (k : Int) + 1 by omega] at dg2
        have HMS := Lib.hid hms
        have HD1 := Lib.hid dg1
        have HD2 := Lib.hid dg2
        have HH := Lib.hid h32
        clear hms dg1 dg2 hx1 hx2 hml h32
        go_wp2_with fail
        refine HD1.out.mono ?_
        rintro e w' ⟨rfl, rfl⟩
        go_wp2_with fail
        refine HD2.out.mono ?_
        rintro e w' ⟨rfl, rfl⟩
        go_wp2_with fail
        have hor := or_nib ⟨x1, by omega⟩ ⟨x2, by omega⟩
        dsimp only at hor
        rw [hor]
        have hcv : ((x1 * 16 + x2 : Nat) : Int) = ((UInt8.ofNat (x1 * 16 + x2)).toNat : Nat) := by rw [UInt8.toNat_ofNat', Nat.mod_eq_of_lt (by omega)]
        rw [hcv]
        have R5 := R4.out.set_ (1 + k) (.int .u8 ((UInt8.ofNat (x1 * 16 + x2)).toNat : Nat))
        rw [rc_set, HMS.out] at R5
        have hbb := HB.out
        exact ⟨⟨k + 1, by go_num, by omega, R5, S4.out.far (by show b5 ≠ b7; omega) _, B4.out.far (by show b2 ≠ b7; omega) _, F4.out.setCell (fun h => by have : b7 < w.heap.size := h; omega) _⟩, by simp [intOf]; omega⟩
      case neg =>
        obtain rfl : k = 16 := by omega
        have hdl : decide (((16 : Nat) : Int) < 16) = false := by decide
        have hme := mid_end h32
        have R5 := Lib.hid (show Blk wr b7 25 (rc 0 (unhex L)).toArray by rw [← hme]; exact R4.out)
        have hul : (unhex L).length = 16 := by rw [unhex_length]; omega
        obtain ⟨U, hU⟩ : ∃ U, unhex L = U := ⟨_, rfl⟩
        have hpd := HPD.out
        rw [hU] at R5 hul hpd
        obtain ⟨G, hG⟩ : ∃ G, genOf D = G := ⟨_, rfl⟩
        have hG64 := genOf_lt D
        rw [hG] at hpd hG64
        have hpu := HPU.out
        rw [hG] at hpu
        have HPU2 := Lib.hid hpu
        have HPD2 := Lib.hid hpd
        have HUL := Lib.hid hul
        clear hme R4 hU hG hpd hpu hul HPU HPD HPN h32 hlt hk
        go_wp2_with fail
        refine (HPU2.out wr F4.out).mono ?_
        rintro e w5 ⟨xe, rfl, f5⟩
        have F5 := Lib.hid (F4.out.trans f5 (fun _ _ h => h))
        have R6 := Lib.hid (R5.out.fr f5 (fun h => h))
        have B6 := Lib.hid (B4.out.fr f5 (fun h => h))
        clear f5 F4 R5 B4 S4 c5
        have c0 : w5.cell? ⟨b7, 0, none⟩ = some (.int .u64 0) := R6.out.cell 0
        have m0 := R6.out.frozen 0
        go_upto_region 12 with fail
        refine abs_world (fun W => Hid (Blk W b7 25 (rc G U).toArray) ∧ Hid (Blk W b2 25 (rc 0 zN).toArray) ∧ Hid (Fr (fun _ => False) w W)) ⟨R6.out.set_ 0 (.int .u64 (G : Nat)), B6.out.far (by have := HB.out; show b2 ≠ b7; omega) _, F5.out.setCell (fun h => by have hbb := HB.out; have : b7 < w.heap.size := h; omega) _⟩ ?_
        rintro w7 ⟨R7, B7, F7⟩
        clear F5 R6 B6 c0 m0
        have HSR := Lib.hid (tRev_size (g := G) (s := U) HUL.out)
        cases hg : mayG G
        case false =>
          have hpr := print_no w7 G U HUL.out hG64 hg
          have hpn : parse s = none := by
            rw [HPD2.out, if_neg]
            rintro ⟨h, -, -⟩
            unfold mayG at hg
            simp at hg
            omega
          have HPN := Lib.hid hpn
          have HPR := Lib.hid hpr
          clear hpr hpn hg hG64
          go_wp2_with (refine wpList_load_row rfl 25 _ rfl b7 rfl 25 (rc G U).toArray (0, 0) _ R7.out Tryd.underlying25 rfl HSR.out ?_)
          refine HPR.out.mono ?_
          rintro e w8 ⟨rfl, f8⟩
          have F8 := Lib.hid (F7.out.trans f8 (fun _ _ h => h))
          have B8 := Lib.hid (B7.out.fr f8 (fun h => h))
          clear f8 F7 B7 R7 HPR
          have HSZ := Lib.hid (tRev_size (g := 0) (s := zN) rfl)
          have HTH : Hid (w8.there b2 0 (rc 0 zN).toArray.size) := B8.out.there
          have HST := Lib.hid (B8.out.setAll (ds := (rc 0 zN).toArray) rfl)
          have HONE := Lib.hid (rc_all 0 zN)
          have FST := Lib.hid (Fr.setCells (fp := fun k => k = b2) (a := w8) (g := b2) (fun _ => rfl) (rc 0 zN) 0 w8 (Fr.refl _ _))
          go_wp2_with (refine wpList_store_mid rfl 25 _ _ rfl b2 0 (rc 0 zN).toArray rfl rfl HTH.out HSZ.out HONE.out ?_)
          generalize w8.setCells b2 0 (rc 0 zN).toArray.toList = w9 at *
          refine bodyPost_ret (v := parseV none) (results_two Tryd.results11 _ _ b2 25 (rc 0 zN).toArray (0, 0) _ rfl HST.out Tryd.underlying25 rfl HSZ.out) rfl ⟨by rw [HPN.out], F8.out.trans FST.out (fun k hk e => by have := HB.out.1; omega)⟩
        case true =>
          have hpr := print_yes w7 G U HUL.out hg (HL.out.far F7.out)
          have hg2 : 1 ≤ G ∧ G ≤ 4611686018427387903 := by unfold mayG at hg; simpa using hg
          have HG2 := Lib.hid hg2
          have HPR := Lib.hid hpr
          clear hpr hg hG64 hg2
          go_wp2_with (refine wpList_load_row rfl 25 _ rfl b7 rfl 25 (rc G U).toArray (0, 0) _ R7.out Tryd.underlying25 rfl HSR.out ?_)
          refine HPR.out.mono ?_
          rintro e w8 ⟨rfl, f8⟩
          have F8 := Lib.hid (F7.out.trans f8 (fun _ _ h => h))
          have B8 := Lib.hid (B7.out.fr f8 (fun h => h))
          have R8 := Lib.hid (R7.out.fr f8 (fun h => h))
          clear f8 F7 B7 R7 HPR
          by_cases ht : txt G U = s
          case neg =>
            have hpn : parse s = none := by
              rw [HPD2.out, if_neg]
              rintro ⟨-, -, h⟩
              exact ht h
            have HPN := Lib.hid hpn
            have hne : ((strOf (txt G U)).toList != (strOf s).toList) = true := by rw [strOf_toList, strOf_toList]; simpa using ht
            have hne2 : ((strOf (txt G U)).toList == (strOf s).toList) = false := by rw [strOf_toList, strOf_toList]; simpa using ht
            obtain ⟨T, hT⟩ : ∃ T, txt G U = T := ⟨_, rfl⟩
            rw [hT] at hne hne2 ⊢
            go_upto_region 13 with fail
            clear HG2 HSR R8
            go_upto_region 14 with fail
            clear hT ht hpn
            have HSZ := Lib.hid (tRev_size (g := 0) (s := zN) rfl)
            have HTH : Hid (w8.there b2 0 (rc 0 zN).toArray.size) := B8.out.there
            have HST := Lib.hid (B8.out.setAll (ds := (rc 0 zN).toArray) rfl)
            have HONE := Lib.hid (rc_all 0 zN)
            have FST := Lib.hid (Fr.setCells (fp := fun k => k = b2) (a := w8) (g := b2) (fun _ => rfl) (rc 0 zN) 0 w8 (Fr.refl _ _))
            go_wp2_with (refine wpList_store_mid rfl 25 _ _ rfl b2 0 (rc 0 zN).toArray rfl rfl HTH.out HSZ.out HONE.out ?_)
            generalize w8.setCells b2 0 (rc 0 zN).toArray.toList = w9 at *
            refine bodyPost_ret (v := parseV none) (results_two Tryd.results11 _ _ b2 25 (rc 0 zN).toArray (0, 0) _ rfl HST.out Tryd.underlying25 rfl HSZ.out) rfl ⟨by rw [HPN.out], F8.out.trans FST.out (fun k hk e => by have := HB.out.1; omega)⟩
          case pos =>
            have hpn : parse s = some (G, U) := by rw [HPD2.out, if_pos ⟨HG2.out, HUL.out, ht⟩]
            have HPN := Lib.hid hpn
            rw [ht]
            have heq : ((strOf s).toList != (strOf s).toList) = false := by simp
            have HTH : Hid (w8.there b2 0 (rc G U).toArray.size) := by have h := B8.out.there; rw [List.size_toArray, rc_len HUL.out]; exact h
            have HST := Lib.hid (B8.out.setAll (ds := (rc G U).toArray) (by rw [List.size_toArray, List.size_toArray, rc_len HUL.out]; rfl))
            have HONE := Lib.hid (rc_all G U)
            have FST := Lib.hid (Fr.setCells (fp := fun k => k = b2) (a := w8) (g := b2) (fun _ => rfl) (rc G U) 0 w8 (Fr.refl _ _))
            obtain ⟨C, hC⟩ : ∃ C, (rc G U).toArray = C := ⟨_, rfl⟩
            have hCl : C.toList = rc G U := by rw [← hC]
            rw [hC] at R8 HTH HST HONE HSR
            rw [← hCl] at FST
            have HC := Lib.hid hC
            clear hpn hC hCl ht
            go_wp2_with (first
              | refine wpList_load_row rfl 25 _ rfl b7 rfl 25 C (0, 0) _ R8.out Tryd.underlying25 rfl HSR.out ?_
              | refine wpList_store_mid rfl 25 _ _ rfl b2 0 C rfl rfl HTH.out HSR.out HONE.out ?_)
            generalize w8.setCells b2 0 C.toList = w9 at *
            refine bodyPost_ret (v := .tuple #[.agg C, .int .i64 0]) (results_two Tryd.results11 _ _ b2 25 C (0, 0) _ rfl HST.out Tryd.underlying25 rfl HSR.out) rfl ⟨by rw [HPN.out, ← HC.out]; rfl, F8.out.trans FST.out (fun k hk e => by have := HB.out.1; omega)⟩
end Go.Proofs.YtjaocgmicdnghaaDoor
