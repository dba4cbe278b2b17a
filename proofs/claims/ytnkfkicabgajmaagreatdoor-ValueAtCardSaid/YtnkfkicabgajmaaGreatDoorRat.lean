/-
  CONTRACT of the reference's At.
-/
import Derived.Test.YtnkfkicabgajmaaGreatDoorAtP
import Derived.Test.YtnkfkicabgajmaaGreatDoorRcy
import Derived.Test.YtnkfkicabgajmaaGreatDoorRd
import Derived.Deep.CutRange
import Derived.Laws.DeepStrings4
namespace Go.Proofs.YtnkfkicabgajmaaGreatDoor
set_option linter.unusedSimpArgs false
set_option linter.unusedVariables false
open Go Go.RowKit

theorem run_sub (W : World) (s : List UInt8) (i j : Nat) (hij : i ≤ j) (h : j ≤ s.length) : (Instr.slice 9 (.string (strOf s)) (some (.int .i64 (i : Nat))) (some (.int .i64 (j : Nat))) none).run Tryz.prog W = .ok (.string (strOf ((s.drop i).take (j - i)))) W := by
  rw [run_slice_string_if W 9 (strOf s) .i64 .i64 (i : Nat) (j : Nat) Tryz.underlying9]
  rw [if_pos ⟨by omega, by rw [strOf_size]; omega⟩, if_pos ⟨by omega, by omega⟩]
  congr 2
  rw [← strOf_sub s i j hij h]
  congr 1
/-- Where the walk along the path stands. -/
def PathAt (v : V) (p : List UInt8) (f i : Nat) (vj : V) : Prop := (i ≤ p.length ∧ f ≤ i ∧ (46 : UInt8) ∉ (p.drop f).take (i - f) ∧ atV v (comps p) = atV vj (comps (p.drop f))) ∨ (i = p.length + 1 ∧ f = i ∧ atV v (comps p) = some vj)
def RatQ (D : Nat → Prop) (v : V) (p : List UInt8) (w : World) (e : Ending) (w' : World) : Prop := ∃ C, e = .returned (.tuple #[.agg C, .bool (atV v (comps p)).isSome]) ∧ RdV D w' C ((atV v (comps p)).getD V.zero) ∧ Fr (fun _ => False) w w'
theorem results_vb {P : Program} {fn : Func} {p q : Tmp} {ty : TypeId} (h : fn.results = #[.cell p ty, .tmp q]) (tmps : Array Value) (w : World) (g : Nat) (t : TypeId) (cs : Array Value) (d : TypeDesc) (x : Value)
    (hp : tmps.getD p undef = .pointer (some ⟨g, 0, none⟩)) (hx : tmps.getD q undef = x) (hg : Blk w g t cs)
    (hu : P.underlying ty = some d) (hd : (match d with | .struct _ | .array _ _ => true | _ => false) = true) (hi : (P.info? ty).map (·.size) = some cs.size) :
    (results fn tmps).run P w = .ok (.tuple #[.agg cs, x]) w := results_vi h tmps w g t cs d x hp hx hg hu hd hi
theorem atV_uses {v : V} (hf : fieldsV v = true) : v.ks.length ≤ v.l.length := by
  obtain ⟨k, n, t, l, ks⟩ := v
  obtain ⟨hu, -, -, -⟩ := fields_kids hf
  have U := uses_iff.1 hu
  show ks.length ≤ l.length
  by_cases h6 : k = 6
  · exact Nat.le_of_eq (U.obj h6)
  · rw [U.key h6]; exact Nat.zero_le _
set_option maxRecDepth 100000 in
set_option maxHeartbeats 8000000 in
theorem rat_c (v : V) (w : World) {D : Nat → Prop} {C : Array Value} (h : RdV D w C v) (hf : fieldsV v = true) (p : List UInt8) (hp : p.length ≤ 1000000) :
    Calls Tryz.prog 12 #[.agg C, .string (strOf p)] w (RatQ D v p w) := by
  have hres := results_vb (P := Tryz.prog) (fn := Tryz.f12) (p := 4) (q := 5) (ty := 25) Tryz.results12
  have hsz := strOf_size p
  have HRV := Lib.hid h.lts
  have HF := Lib.hid hf
  have HSC := Lib.hid (szV h)
  obtain ⟨bx, hbx⟩ : ∃ bx, w.heap.size = bx := ⟨_, rfl⟩
  have HBX := Lib.hid hbx
  clear h hf hbx
  go_enter Tryz.func12, Tryz.ntmps12
  go_upto_region 1 with fail
  refine abs_world (fun W => Hid (Blk W w.heap.size 25 C) ∧ Hid (Blk W (w.heap.size + 1) 25 (vcs 0 0 [] none 0 0 none 0 0)) ∧ Hid (Fr (fun _ => False) w W)) ⟨(Blk.new w _ _).alloc _, Blk.new1 w _ _ _, ((Fr.refl _ w).alloc _).alloc _⟩ ?_
  rintro W1 ⟨B1, R1, F1⟩
  rw [HBX.out] at B1 R1 ⊢
  go_wp2_with fail
  go_loopw [6, 7] (fun fv iv W => ∃ (f i : Nat) (Cj : Array Value) (vj : V), f ≤ p.length + 1 ∧ i ≤ p.length + 1 ∧ fv = .int .i64 (f : Int) ∧ iv = .int .i64 (i : Int) ∧ Hid (Blk W bx 25 Cj) ∧ Hid (Blk W (bx + 1) 25 (vcs 0 0 [] none 0 0 none 0 0)) ∧ Hid (RdV (fun b => D b ∧ b < w.heap.size) w Cj vj) ∧ Hid (fieldsV vj = true) ∧ Hid (PathAt v p f i vj) ∧ Hid (Fr (fun _ => False) w W)) (fun _ iv _ => p.length + 1 - (intOf iv).toNat)
  case atStart => exact ⟨0, 0, C, v, Nat.zero_le _, Nat.zero_le _, rfl, rfl, B1.out, R1.out, HRV.out, HF.out, .inl ⟨Nat.zero_le _, Nat.le_refl _, by simp, by simp⟩, F1.out⟩
  case round =>
    clear B1 R1 F1
    clear W1
    obtain ⟨f, i, Cj, vj, hfb, hib, rfl, rfl, hb, hr, hv, hfv, hpa, hfr⟩ := hrel
    have hfbI : (f : Int) ≤ (p.length : Int) + 1 := by omega
    by_cases hle : i ≤ p.length
    case neg =>
      have d1 : decide ((i : Int) ≤ (p.length : Int)) = false := decide_eq_false (by omega)
      have d1' : decide (i ≤ p.length) = false := decide_eq_false hle
      have HQ : Hid (atV v (comps p) = some vj) := Lib.hid (by
        rcases hpa.out with h | h
        · exact absurd h.1 hle
        · exact h.2.2)
      have BA := Lib.hid (blk_all hb.out)
      have Z2 := Lib.hid (szV hv.out)
      have O2 := Lib.hid (oneV hv.out)
      have H5 := Lib.hid hv.out.size
      go_wp2_with (first
        | (refine wpList_load_val rfl 25 _ rfl bx _ rfl _ BA.out _ Tryz.underlying25 rfl Z2.out ?_)
        | (refine wpList_store_blk rfl 25 _ _ rfl (bx + 1) _ rfl rfl hr.out H5.out Z2.out O2.out ?_
           intro W9 q9 f9
           have F9 := Lib.hid f9
           have Q9 := Lib.hid q9
           clear q9 f9))
      refine bodyPost_ret (v := .tuple #[.agg Cj, .bool true]) (hres _ W9 (bx + 1) 25 _ _ _ rfl rfl Q9.out Tryz.underlying25 rfl Z2.out) rfl ?_
      have hbx := HBX.out
      unfold RatQ
      rw [HQ.out]
      exact ⟨_, rfl, ((hv.out.far hfr.out).fr F9.out (fun q hq e => by have := hq.2; omega)).mono (fun q hq => hq.1), hfr.out.trans F9.out (fun q hq e => by omega)⟩
    have d1 : decide ((i : Int) ≤ (p.length : Int)) = true := decide_eq_true (by omega)
    have d1' : decide (i ≤ p.length) = true := decide_eq_true hle
    have hpb : f ≤ i ∧ (46 : UInt8) ∉ (p.drop f).take (i - f) ∧ atV v (comps p) = atV vj (comps (p.drop f)) := by
      rcases hpa.out with h | h
      · exact h.2
      · exact absurd h.1 (by omega)
    have hfi := hpb.1
    have HPB := Lib.hid hpb
    clear hpb hpa
    by_cases hcont : ∃ h : i < p.length, p[i] ≠ 46
    case pos =>
      obtain ⟨hlt, hne⟩ := hcont
      have e1 : decide ((i : Int) < (p.length : Int)) = true := decide_eq_true (by omega)
      have e1' : decide (i < p.length) = true := decide_eq_true hlt
      have hix := fun W => run_index_str W p i hlt
      have HPN : Hid (PathAt v p f (i + 1) vj) := Lib.hid (.inl ⟨by omega, by omega, noDot_snoc hfi hlt hne HPB.out.2.1, HPB.out.2.2⟩)
      obtain ⟨c, hc⟩ : ∃ c, (p[i]).toNat = c := ⟨_, rfl⟩
      rw [hc] at hix
      have hc46 : ¬ c = 46 := fun e => hne (UInt8.toNat_inj.1 (by rw [hc, e]; rfl))
      have e2 : decide (c = 46) = false := decide_eq_false hc46
      have e2' : ((c : Int) == 46) = false := by rw [beq_eq_false_iff_ne]; omega
      have e3' : ((c : Int) != 46) = true := by rw [bne_iff_ne]; omega
      clear hne hc
      go_wp2_with fail
      go_roundw
      case rel => exact ⟨f, i + 1, Cj, vj, hfb, by omega, rfl, by go_num, hb.out, hr.out, hv.out, hfv.out, HPN.out, hfr.out⟩
      case measure => simp [intOf]; omega
    case neg =>
      obtain ⟨sg, hsg⟩ : ∃ sg, (p.drop f).take (i - f) = sg := ⟨_, rfl⟩
      have hsl := fun W => run_sub W p f i hfi hle
      rw [hsg] at hsl HPB
      by_cases hlt : i < p.length
      case pos =>
        have h46 : p[i] = 46 := by
          by_cases e : p[i] = 46
          · exact e
          · exact absurd ⟨hlt, e⟩ hcont
        have hcs : comps (p.drop f) = sg :: comps (p.drop (i + 1)) := by rw [← hsg]; exact comps_at hfi hlt h46 (by rw [hsg]; exact HPB.out.2.1)
        have HNX : Hid (∀ (j : Nat) (hj : j < vj.l.length), posV vj sg = some j → PathAt v p (i + 1) (i + 1) vj.l[j]) := Lib.hid (fun j hj hp => .inl ⟨by omega, Nat.le_refl _, by simp, by rw [HPB.out.2.2, hcs]; exact atV_some hp hj⟩)
        have HNO : Hid (posV vj sg = none → atV v (comps p) = none) := Lib.hid (fun hp => by rw [HPB.out.2.2, hcs]; exact atV_no hp)
        have e1 : decide ((i : Int) < (p.length : Int)) = true := decide_eq_true (by omega)
        have e1' : decide (i < p.length) = true := decide_eq_true hlt
        have hix := fun W => run_index_str W p i hlt
        rw [h46, show (46 : UInt8).toNat = 46 from rfl] at hix
        clear h46 hcs hsg
        go_upto_region 6 with fail
        obtain ⟨k, n, t, l, ks, Al, cl, Ak, ck, css, rfl, rfl, vp⟩ := hv.out.inv
        have HVP := Lib.hid vp
        have hk0 := vp.b.k0
        have hk1 := vp.b.k1
        have hll := vp.b.ll
        have U := Lib.hid (uses_iff.1 (fields_kids hfv.out).1)
        clear vp hcont
        go_wp2_with fail
        go_loopw [9, 10] (fun kv jv W => ∃ (j : Nat) (kk : Int), j ≤ l.length ∧ jv = .int .i64 (j : Int) ∧ kv = .int .i64 kk ∧ Hid ((kk = -1 ∧ ∀ q, q < j → mt (.mk k n t l ks) sg q = false) ∨ ∃ q : Nat, q < j ∧ kk = (q : Int) ∧ mt (.mk k n t l ks) sg q = true) ∧ Hid (Blk W bx 25 (vcs k n t Al l.length cl Ak ks.length ck)) ∧ Hid (Blk W (bx + 1) 25 (vcs 0 0 [] none 0 0 none 0 0)) ∧ Hid (Fr (fun _ => False) w W)) (fun _ jv _ => l.length - (intOf jv).toNat)
        case atStart => exact ⟨0, -1, Nat.zero_le _, rfl, rfl, .inl ⟨rfl, fun q hq => absurd hq (by omega)⟩, hb.out, hr.out, hfr.out⟩
        case round =>
          clear hb hr hfr
          obtain ⟨j, kk, hj, rfl, rfl, hkk, hb, hr, hfr⟩ := hrel
          have c0 : wr.cell? ⟨bx, 0, none⟩ = some (.int .i64 k) := hb.out.cell 0
          have c3 : wr.cell? ⟨bx, 3, none⟩ = some (.slice Al l.length cl) := hb.out.cell 3
          have c4 : wr.cell? ⟨bx, 4, none⟩ = some (.slice Ak ks.length ck) := hb.out.cell 4
          by_cases hjl : j < l.length
          case pos =>
            have f1 : decide ((j : Int) < (l.length : Int)) = true := decide_eq_true (by omega)
            have f1' : decide (j < l.length) = true := decide_eq_true hjl
            have HMN : mt (.mk k n t l ks) sg j = false → Hid ((kk = -1 ∧ ∀ q, q < j + 1 → mt (.mk k n t l ks) sg q = false) ∨ ∃ q : Nat, q < j + 1 ∧ kk = (q : Int) ∧ mt (.mk k n t l ks) sg q = true) := fun hm => Lib.hid (by
              rcases hkk.out with ⟨h1, h2⟩ | ⟨q, h1, h2, h3⟩
              · exact .inl ⟨h1, fun q hq => by
                  by_cases e : q = j
                  · rw [e]; exact hm
                  · exact h2 q (by omega)⟩
              · exact .inr ⟨q, by omega, h2, h3⟩)
            have HMY : mt (.mk k n t l ks) sg j = true → Hid (((j : Int) = -1 ∧ ∀ q, q < j + 1 → mt (.mk k n t l ks) sg q = false) ∨ ∃ q : Nat, q < j + 1 ∧ (j : Int) = (q : Int) ∧ mt (.mk k n t l ks) sg q = true) := fun hm => Lib.hid (.inr ⟨j, by omega, rfl, hm⟩)
            have HMN := Lib.hid HMN
            have HMY := Lib.hid HMY
            clear hkk
            by_cases h6 : k = 6
            case pos =>
              subst h6
              have hjk : j < ks.length := by rw [U.out.obj rfl]; exact hjl
              obtain ⟨bk, ofk, hAk, c1⟩ := (HVP.out.far hfr.out).key hjk
              rw [hAk] at c4
              have hst : ((strOf ks[j]).toList == (strOf sg).toList) = (ks[j] == sg) := by rw [strOf_toList, strOf_toList]
              clear hAk
              by_cases he : ks[j] = sg
              · have he2 : (ks[j] == sg) = true := by simpa using he
                have HM : Hid _ := HMY.out (by simp [mt, V.k, V.ks, hjk, he])
                rw [he2] at hst
                clear he he2
                go_wp2_with fail
                go_roundw
                case rel => exact ⟨j + 1, (j : Int), by omega, by go_num, rfl, HM.out, hb.out, hr.out, hfr.out⟩
                case measure => simp [intOf]; omega
              · have he2 : (ks[j] == sg) = false := by simpa using he
                have HM : Hid _ := HMN.out (by simp [mt, V.k, V.ks, hjk, he])
                rw [he2] at hst
                clear he he2
                go_wp2_with fail
                go_roundw
                case rel => exact ⟨j + 1, kk, by omega, by go_num, rfl, HM.out, hb.out, hr.out, hfr.out⟩
                case measure => simp [intOf]; omega
            have g6 : decide (k = 6) = false := decide_eq_false h6
            have g6' : (k == 6) = false := by simpa using h6
            by_cases h5 : k = 5
            case pos =>
              subst h5
              have DG := Lib.hid (rdigits_c wr (j : Int) (by omega) (by omega))
              have hst : ((strOf (decI (j : Int))).toList == (strOf sg).toList) = (decI (j : Int) == sg) := by rw [strOf_toList, strOf_toList]
              by_cases he : decI (j : Int) = sg
              · have he2 : (decI (j : Int) == sg) = true := by simpa using he
                have HM : Hid _ := HMY.out (by simp [mt, V.k, he])
                rw [he2] at hst
                clear he he2 g6 g6'
                obtain ⟨dj, hdj⟩ : ∃ dj, strOf (decI (j : Int)) = dj := ⟨_, rfl⟩
                rw [hdj] at hst DG
                clear hdj
                go_wp2_with fail
                refine DG.out.mono ?_
                rintro e W6 ⟨rfl, f6⟩
                have hb6 := Lib.hid (keepB hb.out f6)
                have hr6 := Lib.hid (keepB hr.out f6)
                have hfr6 : Hid (Fr (fun _ => False) w W6) := Lib.hid (hfr.out.trans f6 (fun _ _ h => h))
                clear f6 DG
                go_wp2_with fail
                go_roundw
                case rel => exact ⟨j + 1, (j : Int), by omega, by go_num, rfl, HM.out, hb6.out, hr6.out, hfr6.out⟩
                case measure => simp [intOf]; omega
              · have he2 : (decI (j : Int) == sg) = false := by simpa using he
                have HM : Hid _ := HMN.out (by simp [mt, V.k, he])
                rw [he2] at hst
                clear he he2 g6 g6'
                obtain ⟨dj, hdj⟩ : ∃ dj, strOf (decI (j : Int)) = dj := ⟨_, rfl⟩
                rw [hdj] at hst DG
                clear hdj
                go_wp2_with fail
                refine DG.out.mono ?_
                rintro e W6 ⟨rfl, f6⟩
                have hb6 := Lib.hid (keepB hb.out f6)
                have hr6 := Lib.hid (keepB hr.out f6)
                have hfr6 : Hid (Fr (fun _ => False) w W6) := Lib.hid (hfr.out.trans f6 (fun _ _ h => h))
                clear f6 DG
                go_wp2_with fail
                go_roundw
                case rel => exact ⟨j + 1, kk, by omega, by go_num, rfl, HM.out, hb6.out, hr6.out, hfr6.out⟩
                case measure => simp [intOf]; omega
            case neg =>
              have g5 : decide (k = 5) = false := decide_eq_false h5
              have g5' : (k == 5) = false := by simpa using h5
              have HM : Hid _ := HMN.out (by simp [mt, V.k, h5, h6])
              go_wp2_with fail
              go_roundw
              case rel => exact ⟨j + 1, kk, by omega, by go_num, rfl, HM.out, hb.out, hr.out, hfr.out⟩
              case measure => simp [intOf]; omega
          case neg =>
            obtain rfl : j = l.length := by omega
            have f1 : decide ((l.length : Int) < (l.length : Int)) = false := decide_eq_false (by omega)
            have f1' : decide (l.length < l.length) = false := decide_eq_false (by omega)
            rcases hkk.out with ⟨rfl, h2⟩ | ⟨q, h1, rfl, h3⟩
            · have HQ : Hid (atV v (comps p) = none) := Lib.hid (HNO.out (posV_no hfv.out h2))
              have S1 := Lib.hid (show (Tryz.prog.info? 25).map (·.size) = some (vcs 0 0 [] none 0 0 none 0 0).size from lw5)
              have HO1 := Lib.hid (show (vcs 0 0 [] none 0 0 none 0 0).all (·.oneCell') = true by simp [vcs, Value.oneCell'])
              clear h2 hkk
              go_wp2_with (refine wpList_store_blk rfl 25 _ _ rfl (bx + 1) (vcs 0 0 [] none 0 0 none 0 0) rfl rfl hr.out rfl S1.out HO1.out ?_
                           intro W9 q9 f9
                           have F9 := Lib.hid f9
                           have Q9 := Lib.hid q9
                           clear q9 f9)
              refine bodyPost_ret (v := .tuple #[.agg (vcs 0 0 [] none 0 0 none 0 0), .bool false]) (hres _ W9 (bx + 1) 25 _ _ _ rfl rfl Q9.out Tryz.underlying25 rfl S1.out) rfl ?_
              have hbx := HBX.out
              unfold RatQ
              rw [HQ.out]
              exact ⟨_, rfl, RdV.zero _ _, hfr.out.trans F9.out (fun q hq he => by omega)⟩
            · have HPN : Hid (PathAt v p (i + 1) (i + 1) l[q]) := Lib.hid (HNX.out q h1 (posV_mt hfv.out h1 hll h3))
              obtain ⟨be, ofe, Ce, hAe, hce, hre, hge, h5e⟩ := HVP.out.at_ h1
              rw [hAe] at c3
              have HRE := Lib.hid hre
              have HGE := Lib.hid (rng_far hge hfr.out)
              have ZE := Lib.hid (szV hre)
              have OE := Lib.hid (oneV hre)
              have H5E := Lib.hid h5e
              have HFE : Hid (fieldsV l[q] = true) := Lib.hid (fields_el hfv.out (List.getElem_mem h1))
              have hq0 : decide ((q : Int) < 0) = false := decide_eq_false (by omega)
              have hb5 := Lib.hid (show Ce.size = (vcs k n t Al l.length cl Ak ks.length ck).size from h5e)
              clear hge h5e hce hkk h3 hAe hre
              go_wp2_with (first
                | (refine wpList_load_val rfl 25 _ rfl be _ rfl Ce HGE.out _ Tryz.underlying25 rfl ZE.out ?_)
                | (refine wpList_store_blk rfl 25 _ _ rfl bx Ce rfl rfl hb.out hb5.out ZE.out OE.out ?_
                   intro W9 q9 f9
                   have F9 : Hid (Fr (fun _ => False) w W9) := Lib.hid (hfr.out.trans f9 (fun q hq he => by
                     have hbx := HBX.out
                     omega))
                   have Q9 := Lib.hid q9
                   have R9 := Lib.hid (hr.out.fr f9 (by omega))
                   clear q9 f9))
              go_roundw
              case rel => exact ⟨i + 1, i + 1, Ce, l[q], by omega, by omega, by go_num, by go_num, Q9.out, R9.out, HRE.out, HFE.out, HPN.out, F9.out⟩
              case measure => simp [intOf]; omega
      case neg =>
        have hcs : comps (p.drop f) = [sg] := by
          have e : sg = p.drop f := by rw [← hsg, List.take_of_length_le (by rw [List.length_drop]; omega)]
          rw [e]
          exact comps_none (by rw [← e]; exact HPB.out.2.1)
        have HNX : Hid (∀ (j : Nat) (hj : j < vj.l.length), posV vj sg = some j → PathAt v p (i + 1) (i + 1) vj.l[j]) := Lib.hid (fun j hj hp => .inr ⟨by omega, rfl, by rw [HPB.out.2.2, hcs, atV_some hp hj, atV_nil]⟩)
        have HNO : Hid (posV vj sg = none → atV v (comps p) = none) := Lib.hid (fun hp => by rw [HPB.out.2.2, hcs]; exact atV_no hp)
        have e1 : decide ((i : Int) < (p.length : Int)) = false := decide_eq_false (by omega)
        have e1' : decide (i < p.length) = false := decide_eq_false hlt
        clear hcs hsg
        go_upto_region 6 with fail
        obtain ⟨k, n, t, l, ks, Al, cl, Ak, ck, css, rfl, rfl, vp⟩ := hv.out.inv
        have HVP := Lib.hid vp
        have hk0 := vp.b.k0
        have hk1 := vp.b.k1
        have hll := vp.b.ll
        have U := Lib.hid (uses_iff.1 (fields_kids hfv.out).1)
        clear vp hcont
        go_wp2_with fail
        go_loopw [9, 10] (fun kv jv W => ∃ (j : Nat) (kk : Int), j ≤ l.length ∧ jv = .int .i64 (j : Int) ∧ kv = .int .i64 kk ∧ Hid ((kk = -1 ∧ ∀ q, q < j → mt (.mk k n t l ks) sg q = false) ∨ ∃ q : Nat, q < j ∧ kk = (q : Int) ∧ mt (.mk k n t l ks) sg q = true) ∧ Hid (Blk W bx 25 (vcs k n t Al l.length cl Ak ks.length ck)) ∧ Hid (Blk W (bx + 1) 25 (vcs 0 0 [] none 0 0 none 0 0)) ∧ Hid (Fr (fun _ => False) w W)) (fun _ jv _ => l.length - (intOf jv).toNat)
        case atStart => exact ⟨0, -1, Nat.zero_le _, rfl, rfl, .inl ⟨rfl, fun q hq => absurd hq (by omega)⟩, hb.out, hr.out, hfr.out⟩
        case round =>
          clear hb hr hfr
          obtain ⟨j, kk, hj, rfl, rfl, hkk, hb, hr, hfr⟩ := hrel
          have c0 : wr.cell? ⟨bx, 0, none⟩ = some (.int .i64 k) := hb.out.cell 0
          have c3 : wr.cell? ⟨bx, 3, none⟩ = some (.slice Al l.length cl) := hb.out.cell 3
          have c4 : wr.cell? ⟨bx, 4, none⟩ = some (.slice Ak ks.length ck) := hb.out.cell 4
          by_cases hjl : j < l.length
          case pos =>
            have f1 : decide ((j : Int) < (l.length : Int)) = true := decide_eq_true (by omega)
            have f1' : decide (j < l.length) = true := decide_eq_true hjl
            have HMN : mt (.mk k n t l ks) sg j = false → Hid ((kk = -1 ∧ ∀ q, q < j + 1 → mt (.mk k n t l ks) sg q = false) ∨ ∃ q : Nat, q < j + 1 ∧ kk = (q : Int) ∧ mt (.mk k n t l ks) sg q = true) := fun hm => Lib.hid (by
              rcases hkk.out with ⟨h1, h2⟩ | ⟨q, h1, h2, h3⟩
              · exact .inl ⟨h1, fun q hq => by
                  by_cases e : q = j
                  · rw [e]; exact hm
                  · exact h2 q (by omega)⟩
              · exact .inr ⟨q, by omega, h2, h3⟩)
            have HMY : mt (.mk k n t l ks) sg j = true → Hid (((j : Int) = -1 ∧ ∀ q, q < j + 1 → mt (.mk k n t l ks) sg q = false) ∨ ∃ q : Nat, q < j + 1 ∧ (j : Int) = (q : Int) ∧ mt (.mk k n t l ks) sg q = true) := fun hm => Lib.hid (.inr ⟨j, by omega, rfl, hm⟩)
            have HMN := Lib.hid HMN
            have HMY := Lib.hid HMY
            clear hkk
            by_cases h6 : k = 6
            case pos =>
              subst h6
              have hjk : j < ks.length := by rw [U.out.obj rfl]; exact hjl
              obtain ⟨bk, ofk, hAk, c1⟩ := (HVP.out.far hfr.out).key hjk
              rw [hAk] at c4
              have hst : ((strOf ks[j]).toList == (strOf sg).toList) = (ks[j] == sg) := by rw [strOf_toList, strOf_toList]
              clear hAk
              by_cases he : ks[j] = sg
              · have he2 : (ks[j] == sg) = true := by simpa using he
                have HM : Hid _ := HMY.out (by simp [mt, V.k, V.ks, hjk, he])
                rw [he2] at hst
                clear he he2
                go_wp2_with fail
                go_roundw
                case rel => exact ⟨j + 1, (j : Int), by omega, by go_num, rfl, HM.out, hb.out, hr.out, hfr.out⟩
                case measure => simp [intOf]; omega
              · have he2 : (ks[j] == sg) = false := by simpa using he
                have HM : Hid _ := HMN.out (by simp [mt, V.k, V.ks, hjk, he])
                rw [he2] at hst
                clear he he2
                go_wp2_with fail
                go_roundw
                case rel => exact ⟨j + 1, kk, by omega, by go_num, rfl, HM.out, hb.out, hr.out, hfr.out⟩
                case measure => simp [intOf]; omega
            have g6 : decide (k = 6) = false := decide_eq_false h6
            have g6' : (k == 6) = false := by simpa using h6
            by_cases h5 : k = 5
            case pos =>
              subst h5
              have DG := Lib.hid (rdigits_c wr (j : Int) (by omega) (by omega))
              have hst : ((strOf (decI (j : Int))).toList == (strOf sg).toList) = (decI (j : Int) == sg) := by rw [strOf_toList, strOf_toList]
              by_cases he : decI (j : Int) = sg
              · have he2 : (decI (j : Int) == sg) = true := by simpa using he
                have HM : Hid _ := HMY.out (by simp [mt, V.k, he])
                rw [he2] at hst
                clear he he2 g6 g6'
                obtain ⟨dj, hdj⟩ : ∃ dj, strOf (decI (j : Int)) = dj := ⟨_, rfl⟩
                rw [hdj] at hst DG
                clear hdj
                go_wp2_with fail
                refine DG.out.mono ?_
                rintro e W6 ⟨rfl, f6⟩
                have hb6 := Lib.hid (keepB hb.out f6)
                have hr6 := Lib.hid (keepB hr.out f6)
                have hfr6 : Hid (Fr (fun _ => False) w W6) := Lib.hid (hfr.out.trans f6 (fun _ _ h => h))
                clear f6 DG
                go_wp2_with fail
                go_roundw
                case rel => exact ⟨j + 1, (j : Int), by omega, by go_num, rfl, HM.out, hb6.out, hr6.out, hfr6.out⟩
                case measure => simp [intOf]; omega
              · have he2 : (decI (j : Int) == sg) = false := by simpa using he
                have HM : Hid _ := HMN.out (by simp [mt, V.k, he])
                rw [he2] at hst
                clear he he2 g6 g6'
                obtain ⟨dj, hdj⟩ : ∃ dj, strOf (decI (j : Int)) = dj := ⟨_, rfl⟩
                rw [hdj] at hst DG
                clear hdj
                go_wp2_with fail
                refine DG.out.mono ?_
                rintro e W6 ⟨rfl, f6⟩
                have hb6 := Lib.hid (keepB hb.out f6)
                have hr6 := Lib.hid (keepB hr.out f6)
                have hfr6 : Hid (Fr (fun _ => False) w W6) := Lib.hid (hfr.out.trans f6 (fun _ _ h => h))
                clear f6 DG
                go_wp2_with fail
                go_roundw
                case rel => exact ⟨j + 1, kk, by omega, by go_num, rfl, HM.out, hb6.out, hr6.out, hfr6.out⟩
                case measure => simp [intOf]; omega
            case neg =>
              have g5 : decide (k = 5) = false := decide_eq_false h5
              have g5' : (k == 5) = false := by simpa using h5
              have HM : Hid _ := HMN.out (by simp [mt, V.k, h5, h6])
              go_wp2_with fail
              go_roundw
              case rel => exact ⟨j + 1, kk, by omega, by go_num, rfl, HM.out, hb.out, hr.out, hfr.out⟩
              case measure => simp [intOf]; omega
          case neg =>
            obtain rfl : j = l.length := by omega
            have f1 : decide ((l.length : Int) < (l.length : Int)) = false := decide_eq_false (by omega)
            have f1' : decide (l.length < l.length) = false := decide_eq_false (by omega)
            rcases hkk.out with ⟨rfl, h2⟩ | ⟨q, h1, rfl, h3⟩
            · have HQ : Hid (atV v (comps p) = none) := Lib.hid (HNO.out (posV_no hfv.out h2))
              have S1 := Lib.hid (show (Tryz.prog.info? 25).map (·.size) = some (vcs 0 0 [] none 0 0 none 0 0).size from lw5)
              have HO1 := Lib.hid (show (vcs 0 0 [] none 0 0 none 0 0).all (·.oneCell') = true by simp [vcs, Value.oneCell'])
              clear h2 hkk
              go_wp2_with (refine wpList_store_blk rfl 25 _ _ rfl (bx + 1) (vcs 0 0 [] none 0 0 none 0 0) rfl rfl hr.out rfl S1.out HO1.out ?_
                           intro W9 q9 f9
                           have F9 := Lib.hid f9
                           have Q9 := Lib.hid q9
                           clear q9 f9)
              refine bodyPost_ret (v := .tuple #[.agg (vcs 0 0 [] none 0 0 none 0 0), .bool false]) (hres _ W9 (bx + 1) 25 _ _ _ rfl rfl Q9.out Tryz.underlying25 rfl S1.out) rfl ?_
              have hbx := HBX.out
              unfold RatQ
              rw [HQ.out]
              exact ⟨_, rfl, RdV.zero _ _, hfr.out.trans F9.out (fun q hq he => by omega)⟩
            · have HPN : Hid (PathAt v p (i + 1) (i + 1) l[q]) := Lib.hid (HNX.out q h1 (posV_mt hfv.out h1 hll h3))
              obtain ⟨be, ofe, Ce, hAe, hce, hre, hge, h5e⟩ := HVP.out.at_ h1
              rw [hAe] at c3
              have HRE := Lib.hid hre
              have HGE := Lib.hid (rng_far hge hfr.out)
              have ZE := Lib.hid (szV hre)
              have OE := Lib.hid (oneV hre)
              have H5E := Lib.hid h5e
              have HFE : Hid (fieldsV l[q] = true) := Lib.hid (fields_el hfv.out (List.getElem_mem h1))
              have hq0 : decide ((q : Int) < 0) = false := decide_eq_false (by omega)
              have hb5 := Lib.hid (show Ce.size = (vcs k n t Al l.length cl Ak ks.length ck).size from h5e)
              clear hge h5e hce hkk h3 hAe hre
              go_wp2_with (first
                | (refine wpList_load_val rfl 25 _ rfl be _ rfl Ce HGE.out _ Tryz.underlying25 rfl ZE.out ?_)
                | (refine wpList_store_blk rfl 25 _ _ rfl bx Ce rfl rfl hb.out hb5.out ZE.out OE.out ?_
                   intro W9 q9 f9
                   have F9 : Hid (Fr (fun _ => False) w W9) := Lib.hid (hfr.out.trans f9 (fun q hq he => by
                     have hbx := HBX.out
                     omega))
                   have Q9 := Lib.hid q9
                   have R9 := Lib.hid (hr.out.fr f9 (by omega))
                   clear q9 f9))
              go_roundw
              case rel => exact ⟨i + 1, i + 1, Ce, l[q], by omega, by omega, by go_num, by go_num, Q9.out, R9.out, HRE.out, HFE.out, HPN.out, F9.out⟩
              case measure => simp [intOf]; omega
end Go.Proofs.YtnkfkicabgajmaaGreatDoor
