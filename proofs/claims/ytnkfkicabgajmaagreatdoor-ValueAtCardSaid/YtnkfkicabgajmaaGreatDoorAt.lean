/-
  CONTRACT of value.At.
-/
import Derived.Test.YtnkfkicabgajmaaGreatDoorIx
import Derived.Shelf.Strings.Split
namespace Go.Proofs.YtnkfkicabgajmaaGreatDoor
set_option linter.unusedSimpArgs false
set_option linter.unusedVariables false
open Go Go.RowKit

/-- The components of a path. -/
def comps (p : List UInt8) : List (List UInt8) := (Lib.splitB (strOf [46]) 0 (Lib.countB (strOf p) (strOf [46])) (strOf p)).map (fun b => b.data.toList)
def atV : V → List (List UInt8) → Option V
  | v, [] => some v
  | v, c :: cs => match posV v c with
    | none => none
    | some i => match v.l[i]? with
      | none => none
      | some x => atV x cs
theorem strOf_bytes (b : ByteArray) : strOf b.data.toList = b := by
  apply ByteArray.ext
  simp [strOf]
theorem comps_strs (p : List UInt8) : (Lib.splitB (strOf [46]) 0 (Lib.countB (strOf p) (strOf [46])) (strOf p)).map Value.string = strs (comps p) := by
  unfold strs comps
  rw [List.map_map]
  apply List.map_congr_left
  intro b _
  show Value.string b = Value.string (strOf b.data.toList)
  rw [strOf_bytes]
theorem str_info9 : (Tryz.prog.info? 9).map (fun i => (i.zero, i.size, i.bytes)) = some (some (.string ByteArray.empty), 1, 16) := by kernel_rfl
theorem comps_len (p : List UInt8) : (comps p).length ≤ p.length + 1 := by
  have hlen := Lib.splitB_all (strOf [46]) (by decide) 0 (Lib.countB (strOf p) (strOf [46])) (strOf p) rfl
  have hle := Lib.countB_le (strOf [46]) (by decide) (strOf p).size (strOf p) (Nat.le_refl _)
  rw [strOf_size] at hle
  unfold comps
  rw [List.length_map, hlen]
  omega
theorem split_c (w : World) (p : List UInt8) (hp : p.length ≤ 1000000) (hL : LaidOk w) :
    Calls Tryz.prog 27 #[.string (strOf p), .string (strOf [46])] w fun e w' => ∃ A c, e = .returned (.slice A (comps p).length c) ∧ A = some ⟨w.heap.size, 0, none⟩ ∧ Rd w' A (comps p).length (strs (comps p)) ∧ Fr (fun _ => False) w w' := by
  obtain ⟨m, hm⟩ := hL.max
  refine (Any.strings_Split Tryz.lays146 str_info9 (strOf p) (strOf [46]) m w (by rw [strOf_size]; omega) hm (by decide)).mono ?_
  rintro e w' ⟨rfl, rfl⟩
  have hlen := Lib.splitB_all (strOf [46]) (by decide) 0 (Lib.countB (strOf p) (strOf [46])) (strOf p) rfl
  have hl : (comps p).length = Lib.countB (strOf p) (strOf [46]) + 1 := by
    unfold comps
    rw [List.length_map, hlen]
  rw [comps_strs]
  refine ⟨some ⟨w.heap.size, 0, none⟩, _, by rw [hl], rfl, ⟨strs_len _, fun _ => ⟨_, rfl, fun j u hu => ?_⟩⟩, (Fr.refl _ w).alloc _⟩
  have hb : Blk (w.alloc (.cells (strs (comps p)).toArray 9)) w.heap.size 9 (strs (comps p)).toArray := Blk.new w _ _
  have := hb.cell j
  rw [Addr.add_lit, Nat.zero_add]
  exact this.trans (by simpa using hu)
/-- No component is long. -/
theorem posV_lt {v : V} {c : List UInt8} {i : Nat} (h : posV v c = some i) (hf : fieldsV v = true) : i < v.l.length := by
  obtain ⟨k, n, t, l, ks⟩ := v
  rw [posV] at h
  show i < l.length
  by_cases h6 : k = 6
  · rw [if_pos h6] at h
    have h1 := ixO_lt h
    unfold fieldsV at hf
    simp only [Bool.and_eq_true] at hf
    have h2 := hf.1.1.1
    subst h6
    simp [usesOwn] at h2
    omega
  · rw [if_neg h6] at h
    by_cases h5 : k = 5
    · rw [if_pos h5] at h
      split at h
      · split at h
        · rename_i h3
          injection h with h
          omega
        · cases h
      · cases h
    · rw [if_neg h5] at h; cases h
theorem fields_el {v x : V} (hf : fieldsV v = true) (hx : x ∈ v.l) : fieldsV x = true := by
  obtain ⟨k, n, t, l, ks⟩ := v
  unfold fieldsV at hf
  simp only [Bool.and_eq_true] at hf
  have h : ∀ l : List V, fieldss l = true → ∀ x ∈ l, fieldsV x = true := by
    intro l
    induction l with
    | nil => intro _ x hx; cases hx
    | cons a l ih =>
      intro h x hx
      unfold fieldss at h
      simp only [Bool.and_eq_true] at h
      rcases List.mem_cons.1 hx with rfl | hx
      · exact h.1
      · exact ih h.2 x hx
  exact h l hf.2 x hx
theorem atV_step {v : V} {c : List UInt8} {i : Nat} {cs : List (List UInt8)} (h : posV v c = some i) (hi : i < v.l.length) : atV v (c :: cs) = atV v.l[i] cs := by
  conv => lhs; unfold atV
  rw [h]
  show (match v.l[i]? with | none => none | some x => atV x cs) = _
  rw [List.getElem?_eq_getElem hi]
/-- What At returns: the value and the errno. -/
def atO (v : V) (p : List UInt8) : Option V × Int :=
  if mayV v = false ∨ p = [] then (none, 1) else match atV v (comps p) with
    | none => (none, 4)
    | some x => (some x, 0)
def AtQ (v : V) (p : List UInt8) (w : World) (e : Ending) (w' : World) : Prop :=
  ∃ C, e = .returned (.tuple #[.agg C, .int .i64 (atO v p).2]) ∧ OwnV w' (fun q => w.heap.size ≤ q ∧ q < w'.heap.size) C ((atO v p).1.getD V.zero) ∧ Fr (fun _ => False) w w'
theorem splitB_short (sep : ByteArray) : ∀ (k : Nat) (s b : ByteArray), b ∈ Lib.splitB sep 0 k s → b.size ≤ s.size
  | 0, s, b, h => by
    rw [Lib.splitB_zero, List.mem_singleton] at h
    rw [h]
    exact Nat.le_refl _
  | k + 1, s, b, h => by
    unfold Lib.splitB at h
    split at h
    · rw [List.mem_singleton] at h
      rw [h]
      exact Nat.le_refl _
    · rcases List.mem_cons.1 h with rfl | h
      · rw [ByteArray.size_extract]; omega
      · have := splitB_short sep k _ b h
        rw [ByteArray.size_extract] at this
        omega
theorem comps_short {p c : List UInt8} (h : c ∈ comps p) : c.length ≤ p.length := by
  unfold comps at h
  obtain ⟨b, hb, rfl⟩ := List.mem_map.1 h
  have := splitB_short _ _ _ _ hb
  rw [strOf_size] at this
  exact this
set_option maxRecDepth 100000 in
set_option maxHeartbeats 8000000 in
theorem at_c (v : V) (w : World) {D : Nat → Prop} {C : Array Value} (h : RdV D w C v) (hs : Sm v) (hL : LaidOk w) (p : List UInt8) (hp : p.length ≤ 1000000) :
    Calls Tryz.prog 10 #[.agg C, .string (strOf p)] w (AtQ v p w) := by
  have hres := results_vi (P := Tryz.prog) (fn := Tryz.f10) (p := 4) (q := 5) (ty := 25) Tryz.results10
  have HRV := Lib.hid h.lts
  have HL := Lib.hid hL
  have HS := Lib.hid hs
  have HSC := Lib.hid (szV h)
  obtain ⟨bx, hbx⟩ : ∃ bx, w.heap.size = bx := ⟨_, rfl⟩
  have HBX := Lib.hid hbx
  clear hL hs h hbx
  go_enter Tryz.func10, Tryz.ntmps10
  go_upto_region 1 with fail
  refine abs_world (fun W => Hid (Blk W w.heap.size 25 C) ∧ Hid (Blk W (w.heap.size + 1) 25 (vcs 0 0 [] none 0 0 none 0 0)) ∧ Hid (Fr (fun _ => False) w W)) ⟨(Blk.new w _ _).alloc _, Blk.new1 w _ _ _, ((Fr.refl _ w).alloc _).alloc _⟩ ?_
  rintro W1 ⟨B1, R1, F1⟩
  rw [HBX.out] at B1 R1 ⊢
  have MAY := Lib.hid (may_c v W1 _ C (HRV.out.far F1.out) HS.out (HL.out.far F1.out))
  have A1 := Lib.hid (blk_all B1.out)
  go_wp2_with (refine wpList_load_val rfl 25 _ rfl bx _ rfl C A1.out _ Tryz.underlying25 rfl HSC.out ?_)
  refine MAY.out.mono ?_
  rintro e W2 ⟨rfl, f2⟩
  have B2 := Lib.hid (keepB B1.out f2)
  have R2 := Lib.hid (keepB R1.out f2)
  have F2 : Hid (Fr (fun _ => False) w W2) := Lib.hid (F1.out.trans f2 (fun _ _ h => h))
  clear f2 B1 R1 F1 A1 MAY
  cases hm : mayV v with
  | false =>
    have HQ : Hid (atO v p = (none, 1)) := Lib.hid (by unfold atO; rw [if_pos (.inl hm)])
    clear hm
    have S1 := Lib.hid (show (Tryz.prog.info? 25).map (·.size) = some (vcs 0 0 [] none 0 0 none 0 0).size from lw5)
    have HO1 := Lib.hid (show (vcs 0 0 [] none 0 0 none 0 0).all (·.oneCell') = true by simp [vcs, Value.oneCell'])
    go_wp2_with (refine wpList_store_blk rfl 25 _ _ rfl (bx + 1) (vcs 0 0 [] none 0 0 none 0 0) rfl rfl R2.out rfl S1.out HO1.out ?_
                 intro W9 q9 f9
                 have F9 := Lib.hid f9
                 have Q9 := Lib.hid q9
                 clear q9 f9)
    refine bodyPost_ret (v := .tuple #[.agg (vcs 0 0 [] none 0 0 none 0 0), .int .i64 1]) (hres _ W9 (bx + 1) 25 _ _ _ rfl rfl Q9.out Tryz.underlying25 rfl S1.out) rfl ?_
    have hb := HBX.out
    unfold AtQ
    rw [HQ.out]
    exact ⟨_, rfl, OwnV.zero _ _, F2.out.trans F9.out (fun q hq he => by omega)⟩
  | true =>
    by_cases hp0 : p = []
    case pos =>
      have HQ : Hid (atO v p = (none, 1)) := Lib.hid (by unfold atO; rw [if_pos (.inr hp0)])
      have hst : (strOf p).toList.isEmpty = true := by rw [strOf_toList, hp0]; rfl
      clear hm hp0
      have S1 := Lib.hid (show (Tryz.prog.info? 25).map (·.size) = some (vcs 0 0 [] none 0 0 none 0 0).size from lw5)
      have HO1 := Lib.hid (show (vcs 0 0 [] none 0 0 none 0 0).all (·.oneCell') = true by simp [vcs, Value.oneCell'])
      go_wp2_with (refine wpList_store_blk rfl 25 _ _ rfl (bx + 1) (vcs 0 0 [] none 0 0 none 0 0) rfl rfl R2.out rfl S1.out HO1.out ?_
                   intro W9 q9 f9
                   have F9 := Lib.hid f9
                   have Q9 := Lib.hid q9
                   clear q9 f9)
      refine bodyPost_ret (v := .tuple #[.agg (vcs 0 0 [] none 0 0 none 0 0), .int .i64 1]) (hres _ W9 (bx + 1) 25 _ _ _ rfl rfl Q9.out Tryz.underlying25 rfl S1.out) rfl ?_
      have hb := HBX.out
      unfold AtQ
      rw [HQ.out]
      exact ⟨_, rfl, OwnV.zero _ _, F2.out.trans F9.out (fun q hq he => by omega)⟩
    case neg =>
      have hst : (strOf p).toList.isEmpty = false := by
        rw [strOf_toList]
        simpa using hp0
      have HQ : Hid (atO v p = match atV v (comps p) with | none => (none, 4) | some x => (some x, 0)) := Lib.hid (by unfold atO; rw [if_neg (by simp [hm, hp0])])
      have HFV : Hid (fieldsV v = true) := Lib.hid (may_fields hm).1
      have SP := Lib.hid (split_c W2 p hp (HL.out.far F2.out))
      clear hm hp0
      go_wp2_with fail
      refine SP.out.mono ?_
      rintro e W3 ⟨A, c, rfl, hA, hr3, f3⟩
      have s2 := R2.out.lt
      have B3 := Lib.hid (keepB B2.out f3)
      have R3 := Lib.hid (keepB R2.out f3)
      have F3 : Hid (Fr (fun _ => False) w W3) := Lib.hid (F2.out.trans f3 (fun _ _ h => h))
      obtain ⟨sb, hsb⟩ : ∃ sb, W2.heap.size = sb := ⟨_, rfl⟩
      rw [hsb] at hA s2
      subst hA
      have HR3 := Lib.hid hr3
      have hcs := fun c hc => comps_short (p := p) (c := c) hc
      have HCS := Lib.hid hcs
      have hcl : (comps p).length ≤ 140737488355328 := Nat.le_trans (comps_len p) (by omega)
      clear f3 B2 R2 hsb SP hr3 hcs
      obtain ⟨cs, hcq⟩ : ∃ cs, comps p = cs := ⟨_, rfl⟩
      rw [hcq] at HR3 HQ HCS hcl ⊢
      clear hcq
      go_wp2_with fail
      go_loopw [20] (fun iv wr => ∃ (j : Nat) (Cj : Array Value) (vj : V), j ≤ cs.length ∧ iv = .int .i64 (j : Int) ∧ Hid (Blk wr bx 25 Cj) ∧ Hid (Blk wr (bx + 1) 25 (vcs 0 0 [] none 0 0 none 0 0)) ∧ Hid (RdV (fun b => b < w.heap.size) wr Cj vj) ∧ Hid (fieldsV vj = true) ∧ Hid (Sm vj) ∧ Hid (atV v cs = atV vj (cs.drop j)) ∧ Hid (Rd wr (some ⟨sb, 0, none⟩) cs.length (strs cs)) ∧ Hid (Fr (fun _ => False) w wr)) (fun iv _ => cs.length - (intOf iv).toNat)
      case atStart => exact ⟨0, C, v, Nat.zero_le _, rfl, B3.out, R3.out, (HRV.out.far F3.out).mono (fun b hb => hb.2), HFV.out, HS.out, rfl, HR3.out, F3.out⟩
      case round =>
        obtain ⟨j, Cj, vj, hj, rfl, hb, hr, hv, hf, hsm, hat, hrd, hfr⟩ := hrel
        have HSJ := Lib.hid (szV hv.out)
        have HOJ := Lib.hid (oneV hv.out)
        have AJ := Lib.hid (blk_all hb.out)
        by_cases hlt : j < cs.length
        case neg =>
          have d1 : decide ((j : Int) < (cs.length : Int)) = false := decide_eq_false (by omega)
          have d1' : decide (j < cs.length) = false := decide_eq_false hlt
          have HQ2 : Hid (atO v p = (some vj, 0)) := Lib.hid (by rw [HQ.out, hat.out, List.drop_eq_nil_of_le (by omega)]; rfl)
          have OW := Lib.hid (own_c vj wr _ Cj hv.out hsm.out)
          clear HQ
          go_wp2_with (refine wpList_load_val rfl 25 _ rfl bx _ rfl Cj AJ.out _ Tryz.underlying25 rfl HSJ.out ?_)
          refine OW.out.mono ?_
          rintro e W5 ⟨C5, rfl, o5, f5⟩
          have O5 := Lib.hid o5
          have F5 : Hid (Fr (fun _ => False) w W5) := Lib.hid (hfr.out.trans f5 (fun _ _ h => h))
          have R5 := Lib.hid (keepB hr.out f5)
          have S5 := Lib.hid (szV o5.rd)
          have HO5 := Lib.hid (oneV o5.rd)
          have H5 := Lib.hid o5.rd.size
          have s5 := Lib.hid hr.out.lt
          clear o5 f5 OW
          go_wp2_with (refine wpList_store_blk rfl 25 _ _ rfl (bx + 1) C5 rfl rfl R5.out H5.out S5.out HO5.out ?_
                       intro W9 q9 f9
                       have F9 := Lib.hid f9
                       have Q9 := Lib.hid q9
                       clear q9 f9)
          refine bodyPost_ret (v := .tuple #[.agg C5, .int .i64 0]) (hres _ W9 (bx + 1) 25 _ _ _ rfl rfl Q9.out Tryz.underlying25 rfl S5.out) rfl ?_
          have hb := HBX.out
          have hs5 := s5.out
          have hs9 := F9.out.size
          unfold AtQ
          rw [HQ2.out]
          exact ⟨_, rfl, (O5.out.fr F9.out (fun q hq he => by omega)).mono (fun q hq => ⟨by omega, by omega⟩), F5.out.trans F9.out (fun q hq he => by omega)⟩
        have d1 : decide ((j : Int) < (cs.length : Int)) = true := decide_eq_true (by omega)
        have d1' : decide (j < cs.length) = true := decide_eq_true hlt
        have c1 : wr.cell? ⟨sb, j, none⟩ = some (.string (strOf cs[j])) := by
          obtain ⟨b, off, hA, hc⟩ := hrd.out.lit (by omega)
          injection hA with hA
          injection hA with h1 h2
          subst h1 h2
          have := hc j hlt
          rw [Nat.zero_add, strs_get cs j hlt] at this
          exact this
        have PL := Lib.hid (place_c vj wr hv.out (HL.out.far hfr.out) cs[j] (Nat.le_trans (HCS.out _ (List.getElem_mem hlt)) hp))
        have hdrop := List.drop_eq_getElem_cons hlt
        rw [hdrop] at hat
        cases hpo : posV vj cs[j] with
        | none =>
          rw [hpo] at PL
          have HQ2 : Hid (atO v p = (none, 4)) := Lib.hid (by rw [HQ.out, hat.out]; unfold atV; rw [hpo])
          clear hpo HQ hdrop
          go_wp2_with (refine wpList_load_val rfl 25 _ rfl bx _ rfl Cj AJ.out _ Tryz.underlying25 rfl HSJ.out ?_)
          refine PL.out.mono ?_
          rintro e W5 ⟨rfl, f5⟩
          have F5 : Hid (Fr (fun _ => False) w W5) := Lib.hid (hfr.out.trans f5 (fun _ _ h => h))
          have R5 := Lib.hid (keepB hr.out f5)
          clear f5 PL
          have S1 := Lib.hid (show (Tryz.prog.info? 25).map (·.size) = some (vcs 0 0 [] none 0 0 none 0 0).size from lw5)
          have HO1 := Lib.hid (show (vcs 0 0 [] none 0 0 none 0 0).all (·.oneCell') = true by simp [vcs, Value.oneCell'])
          go_wp2_with (refine wpList_store_blk rfl 25 _ _ rfl (bx + 1) (vcs 0 0 [] none 0 0 none 0 0) rfl rfl R5.out rfl S1.out HO1.out ?_
                       intro W9 q9 f9
                       have F9 := Lib.hid f9
                       have Q9 := Lib.hid q9
                       clear q9 f9)
          refine bodyPost_ret (v := .tuple #[.agg (vcs 0 0 [] none 0 0 none 0 0), .int .i64 4]) (hres _ W9 (bx + 1) 25 _ _ _ rfl rfl Q9.out Tryz.underlying25 rfl S1.out) rfl ?_
          have hb := HBX.out
          unfold AtQ
          rw [HQ2.out]
          exact ⟨_, rfl, OwnV.zero _ _, F5.out.trans F9.out (fun q hq he => by omega)⟩
        | some i =>
          rw [hpo] at PL
          have hil := posV_lt hpo hf.out
          obtain ⟨k, n, t, l, ks, Al, cl, Ak, ck, css, rfl, rfl, vp⟩ := hv.out.inv
          have hil : i < l.length := hil
          have HAT : Hid (atV v cs = atV l[i] (cs.drop (j + 1))) := Lib.hid (by
            rw [hat.out]
            exact atV_step hpo hil)
          have HFX := Lib.hid (fields_el (x := l[i]) hf.out (List.getElem_mem hil))
          have HSX := Lib.hid (hsm.out.inv.el l[i] (List.getElem_mem hil))
          have VPJ := Lib.hid vp
          clear hpo HQ hdrop hat vp
          go_wp2_with (refine wpList_load_val rfl 25 _ rfl bx _ rfl _ AJ.out _ Tryz.underlying25 rfl HSJ.out ?_)
          refine PL.out.mono ?_
          rintro e W5 ⟨rfl, f5⟩
          have F5 : Hid (Fr (fun _ => False) w W5) := Lib.hid (hfr.out.trans f5 (fun _ _ h => h))
          have R5 := Lib.hid (keepB hr.out f5)
          have B5 := Lib.hid (keepB hb.out f5)
          have RD5 := Lib.hid (hrd.out.far f5)
          have VP5 := Lib.hid (VPJ.out.far f5)
          clear f5 PL VPJ
          obtain ⟨b, off, C', hAl, -, hrv, hrg, h5⟩ := VP5.out.at_ hil
          subst hAl
          have hdb : b < w.heap.size := VP5.out.ld (by omega) b ⟨_, rfl, rfl⟩
          have HG := Lib.hid hrg
          have HRV' := Lib.hid hrv
          have S5 := Lib.hid (szV hrv)
          have HO5 := Lib.hid (oneV hrv)
          have H5 := Lib.hid h5
          clear hrg hrv h5
          have c3 : W5.cell? ⟨bx, 3, none⟩ = some (.slice (some ⟨b, off, none⟩) l.length cl) := B5.out.cell 3
          have d0 : decide ((i : Int) < 0) = false := decide_eq_false (by omega)
          have d2 : (0 : Int) ≤ (i : Int) := by omega
          have d3 : (i : Int) < (l.length : Int) := by omega
          go_wp2_with (first
            | (refine wpList_load_val rfl 25 _ rfl b _ rfl C' HG.out _ Tryz.underlying25 rfl S5.out ?_)
            | (refine wpList_store_blk rfl 25 _ _ rfl bx C' rfl rfl B5.out H5.out S5.out HO5.out ?_
               intro W6 q6 f6
               have F6 := Lib.hid f6
               have Q6 := Lib.hid q6
               clear q6 f6))
          go_roundw
          case rel =>
            have hbb := HBX.out
            refine ⟨j + 1, C', l[i], by omega, by go_num, Q6.out, R5.out.fr F6.out (by omega), HRV'.out.fr F6.out (fun q hq he => by omega), HFX.out, HSX.out, HAT.out, RD5.out.fr0 F6.out (fun _ q hq he => ?_), F5.out.trans F6.out (fun q hq he => by omega)⟩
            obtain ⟨ad, h1, h2⟩ := hq
            injection h1 with h1
            subst h1
            have h2 : sb = q := h2
            omega
          case measure => simp [intOf]; omega
end Go.Proofs.YtnkfkicabgajmaaGreatDoor
