/-
  CONTRACT of the law's turn: it writes into what the value owns, nothing else.
-/
import Derived.Test.YtnkfkicabgajmaaGreatDoorPutM
import Derived.Test.YtnkfkicabgajmaaGreatDoorRd
namespace Go.Proofs.YtnkfkicabgajmaaGreatDoor
set_option linter.unusedSimpArgs false
set_option linter.unusedVariables false
open Go Go.RowKit

theorem own_blk0 {w : World} {base : Nat} {e : TypeId} {sz n c : Nat} {A : Option Addr} {xs : List Value} (h : w.ownsRow base e sz (.slice A n c) n xs) (hn : 0 < n) :
    ∃ b cur, A = some ⟨b, 0, none⟩ ∧ Blk w b e cur ∧ n * sz ≤ cur.size ∧ ∀ q, q < n * sz → cur[q]? = xs[q]? := by
  rcases h.2 with ⟨_, h0⟩ | ⟨g, cap, cur, hv, _, hh, h1, _, h3, h4⟩
  · omega
  · injection hv with hv _ hc
    subst hv
    have hle : n * sz ≤ cur.size := by rw [h3]; exact Nat.mul_le_mul_right _ h1
    refine ⟨g, cur, rfl, hh, hle, fun q hq => ?_⟩
    rw [← h4, List.getElem?_take, if_pos hq]
    simp
def KB (Ak : Option Addr) (ks : List (List UInt8)) (i : Nat) (W : World) : Prop := 0 < ks.length → ∃ b cur, Ak = some ⟨b, 0, none⟩ ∧ Blk W b 9 cur ∧ ks.length ≤ cur.size ∧ ∀ j, i ≤ j → j < ks.length → cur[j]? = (strs ks)[j]?
def LB (Al : Option Addr) (l : List V) (css : List (Array Value)) (Fs : Nat → Nat → Prop) (i : Nat) (W : World) : Prop :=
  (0 < l.length → ∃ b cur, Al = some ⟨b, 0, none⟩ ∧ Blk W b 25 cur ∧ l.length * 5 ≤ cur.size ∧ ∀ j q, i ≤ j → j < l.length → q < 5 → cur[j * 5 + q]? = (flat css)[j * 5 + q]?) ∧
  ∀ (j : Nat) (C : Array Value) (x : V), i ≤ j → css[j]? = some C → l[j]? = some x → OwnV W (Fs j) C x
def TurnC (v : V) : Prop := ∀ (w : World) (F : Nat → Prop) (C : Array Value) (d : Nat), d ≤ 1000 → OwnV w F C v → Sm v → Calls Tryz.prog 16 #[.agg C, .int .i64 (d : Int)] w fun e w' => e = .returned (.tuple #[]) ∧ Fr F w w'
theorem cat_x (W : World) (a : List UInt8) (h : a.length ≤ 1000000) : (Op.stringOp .add (strOf a) ⟨#[120]⟩).run Tryz.prog W = .ok (.string (strOf (a ++ [120]))) W := run_cat W a [120] (by simp; omega)
set_option maxRecDepth 100000 in
set_option maxHeartbeats 4000000 in
theorem turn_step {k n : Int} {t : List UInt8} {l : List V} {ks : List (List UInt8)} (ih : ∀ x ∈ l, TurnC x) : TurnC (.mk k n t l ks) := by
  intro w F C d hd ho hs
  have ho := ho.lts
  obtain ⟨k1, n1, t1, l1, ks1, Al, cl, Ak, ck, css, Fs, e, rfl, -, hk, hl, hkl⟩ := ho.inv
  injection e with e1 e2 e3 e4 e5
  subst e1 e2 e3 e4 e5
  have hsm := hs.inv
  have HK := Lib.hid hk
  have HL := Lib.hid hl
  have HKL := Lib.hid hkl
  have HS := Lib.hid hsm
  have IH := Lib.hid ih
  have hll := hsm.ll
  have hkl' := hsm.kl
  clear ho hs hk hl hkl ih hsm
  obtain ⟨g, hg⟩ : ∃ g, w.heap.size = g := ⟨_, rfl⟩
  have HG := Lib.hid hg
  clear hg
  go_enter Tryz.func16, Tryz.ntmps16
  go_upto_region 1 with fail
  refine abs_world (fun W => Hid (Blk W w.heap.size 25 (vcs k n t Al l.length cl Ak ks.length ck)) ∧ Hid (Fr (fun _ => False) w W)) ⟨Blk.new w _ _, (Fr.refl _ w).alloc _⟩ ?_
  rintro W1 ⟨B1, F1⟩
  rw [HG.out] at B1 ⊢
  go_wp2_with fail
  go_loopw [4] (fun iv wr => ∃ i : Nat, i ≤ ks.length ∧ iv = .int .i64 (i : Int) ∧ Hid (KB Ak ks i wr) ∧ Hid (Blk wr g 25 (vcs k n t Al l.length cl Ak ks.length ck)) ∧ Hid (Fr (fun q => (Value.slice Ak ks.length ck).ownBlock = some q) w wr)) (fun iv _ => ks.length - (intOf iv).toNat)
  case atStart =>
    refine ⟨0, Nat.zero_le _, rfl, fun h0 => ?_, B1.out, F1.out.mono (fun _ _ h => h.elim)⟩
    obtain ⟨b, cur, hA, hb, hsz, hq⟩ := own_blk0 (own_fr HK.out.row F1.out (fun _ _ h => h)) h0
    exact ⟨b, cur, hA, hb, by omega, fun j _ hj => hq j (by omega)⟩
  case round =>
    obtain ⟨i, hi, rfl, hkb, hb, hf⟩ := hrel
    have c4 : wr.cell? ⟨g, 4, none⟩ = some (.slice Ak ks.length ck) := hb.out.cell 4
    by_cases hlt : i < ks.length
    case pos =>
      have d1 : decide ((i : Int) < (ks.length : Int)) = true := decide_eq_true (by omega)
      have d1' : decide (i < ks.length) = true := decide_eq_true hlt
      obtain ⟨b, cur, rfl, hB, hsz, hcur⟩ := hkb.out (by omega)
      have c1 : wr.cell? ⟨b, i, none⟩ = some (.string (strOf ks[i])) := by
        rw [hB.cell, hcur i (Nat.le_refl _) hlt, strs_get ks i hlt]
      have hcat : ∀ W, (Op.stringOp .add (strOf ks[i]) ⟨#[120]⟩).run Tryz.prog W = .ok (.string (strOf (ks[i] ++ [120]))) W := fun W => cat_x W ks[i] (HS.out.ks _ (List.getElem_mem hlt))
      have hbg : b < g := by
        have := HK.out.rf b rfl
        rw [← HG.out]
        exact this.2
      have HCUR := Lib.hid hcur
      have HB := Lib.hid hB
      clear hcur hkb hB
      go_wp2_with fail
      go_still_tail 10, (by kernel_rfl)
      change wpList _ _ _ _ _ wr.drew
      have y1 : wr.drew.cell? ⟨b, i, none⟩ = some (.string (strOf ks[i])) := c1
      have yf : wr.drew.frozen? ⟨b, i, none⟩ = false := HB.out.frozen i
      have HBd := Lib.hid HB.out.drew
      have BD := Lib.hid hb.out.drew
      have FD := Lib.hid hf.out.drew
      clear c1 c4 hcat hf hb HB
      generalize wr.drew = wd at *
      go_wp2_with fail
      go_roundw
      case rel =>
        refine ⟨i + 1, by omega, by go_num, fun _ => ⟨b, _, rfl, HBd.out.set_ i _, by simpa using hsz, fun j hj1 hj2 => ?_⟩, BD.out.far (by show g ≠ b; omega) _, FD.out.setCell (p := ⟨b, i, none⟩) (fun _ => rfl) _⟩
        rw [Array.getElem?_setIfInBounds, if_neg (by omega)]
        exact HCUR.out j (by omega) hj2
      case measure => simp [intOf]; omega
    case neg =>
      obtain rfl : i = ks.length := by omega
      have d1 : decide ((ks.length : Int) < (ks.length : Int)) = false := decide_eq_false (by omega)
      have d1' : decide (ks.length < ks.length) = false := decide_eq_false (by omega)
      have LB0 : Hid (LB Al l css Fs 0 wr) := Lib.hid (by
        refine ⟨fun h0 => ?_, fun j C x _ h1 h2 => ?_⟩
        · obtain ⟨b, cur, hA, hb', hsz, hq⟩ := own_blk0 (own_fr HL.out.row hf.out (fun q hq he => own_ty HK.out.row HL.out.row ty_ne he hq)) h0
          exact ⟨b, cur, hA, hb', hsz, fun j q _ hj hq5 => hq _ (by omega)⟩
        · have hj : j < l.length := (List.getElem?_eq_some_iff.1 h2).1
          exact (HL.out.el j C x h1 h2).fr hf.out (fun b hb => HKL.out j b hj hb))
      have HF : Hid (Fr (fun q => F q ∧ q < w.heap.size) w wr) := Lib.hid (hf.out.mono (fun q _ h => HK.out.rf q h))
      clear hkb hf B1 F1
      go_wp2_with fail
      go_loopw [5] (fun iv wr => ∃ i : Nat, i ≤ l.length ∧ iv = .int .i64 (i : Int) ∧ Hid (LB Al l css Fs i wr) ∧ Hid (Blk wr g 25 (vcs k n t Al l.length cl Ak ks.length ck)) ∧ Hid (Fr (fun q => F q ∧ q < w.heap.size) w wr)) (fun iv _ => l.length - (intOf iv).toNat)
      case atStart => exact ⟨0, Nat.zero_le _, rfl, LB0.out, hb.out, HF.out⟩
      case round =>
        clear LB0 hb HF c4
        obtain ⟨i, hi, rfl, hlb, hb, hf⟩ := hrel
        have c3 : wr.cell? ⟨g, 3, none⟩ = some (.slice Al l.length cl) := hb.out.cell 3
        by_cases hlt : i < l.length
        case neg =>
          obtain rfl : i = l.length := by omega
          have e1 : decide ((l.length : Int) < (l.length : Int)) = false := decide_eq_false (by omega)
          have e1' : decide (l.length < l.length) = false := decide_eq_false (by omega)
          go_wp2_with fail
          refine bodyPost_end (v := .tuple #[]) ?_ rfl ?_
          · simp [results, Tryz.results16]
          exact ⟨rfl, hf.out.mono (fun q _ h => h.1)⟩
        have e1 : decide ((i : Int) < (l.length : Int)) = true := decide_eq_true (by omega)
        have e1' : decide (i < l.length) = true := decide_eq_true hlt
        by_cases hd0 : 0 < d
        case neg =>
          obtain rfl : d = 0 := by omega
          go_wp2_with fail
          refine bodyPost_end (v := .tuple #[]) ?_ rfl ?_
          · simp [results, Tryz.results16]
          exact ⟨rfl, hf.out.mono (fun q _ h => h.1)⟩
        have e2 : decide ((0 : Int) < (d : Int)) = true := decide_eq_true (by omega)
        have e2' : decide (0 < d) = true := decide_eq_true hd0
        obtain ⟨b, cur, rfl, hB, hsz, hcur⟩ := hlb.out.1 (by omega)
        have hci : i < css.length := by rw [HL.out.cn]; exact hlt
        have hov := hlb.out.2 i css[i] l[i] (Nat.le_refl _) (List.getElem?_eq_getElem hci) (List.getElem?_eq_getElem hlt)
        have h5 := HL.out.c5 _ (List.getElem_mem hci)
        have hrg : wr.rangeAt b (i * 5) css[i].toList := fun j u hu => by
          have hj : j < 5 := by
            have := (List.getElem?_eq_some_iff.1 hu).1
            rw [Array.length_toList, h5] at this
            exact this
          rw [hB.cell, hcur i j (Nat.le_refl _) hlt hj, flat_get css HL.out.c5 i css[i] (List.getElem?_eq_getElem hci) j hj]
          simpa using hu
        have hcat : ∀ j, i ≤ j → ∀ C x, css[j]? = some C → l[j]? = some x → OwnV wr (Fs j) C x := fun j hj C x h1 h2 => hlb.out.2 j C x hj h1 h2
        have HOV := Lib.hid hov
        have HALL := Lib.hid hcat
        have HRG := Lib.hid hrg
        have HCUR := Lib.hid hcur
        have HB := Lib.hid hB
        have HSC := Lib.hid (szV hov.rd)
        have hbg : b < g := by
          have := HL.out.rf b rfl
          rw [← HG.out]
          exact this.2
        have CALL := Lib.hid (IH.out l[i] (List.getElem_mem hlt) wr (Fs i) css[i] (d - 1) (by omega) hov (HS.out.el _ (List.getElem_mem hlt)))
        obtain ⟨k6, n6, t6, l6, ks6, A6, c6, B6, d6, cs6, Fs6, -, e6, -⟩ := hov.inv
        have E6 := Lib.hid e6
        have hdd : ((d : Int) - 1) = ((d - 1 : Nat) : Int) := by omega
        have HDD := Lib.hid hdd
        clear hcur hlb hB hov hrg h5 hcat e6 hdd
        go_wp2_with (refine wpList_load_val rfl 25 _ rfl b _ rfl css[i] HRG.out _ Tryz.underlying25 rfl HSC.out ?_)
        try rw [HDD.out]
        refine CALL.out.mono ?_
        rintro e W2 ⟨rfl, f2⟩
        have HB2 := Lib.hid (HB.out.fr f2 (fun h => (HL.out.fs i b hlt h).2 rfl))
        have G2 := Lib.hid (hb.out.fr f2 (fun h => by
          have := (HL.out.fs i g hlt h).1.2
          rw [HG.out] at this
          omega))
        have ALL2 : Hid (∀ j, i < j → ∀ C x, css[j]? = some C → l[j]? = some x → OwnV W2 (Fs j) C x) := Lib.hid (fun j hj C x h1 h2 => (HALL.out j (by omega) C x h1 h2).fr f2 (fun q hq hq2 => by
          have := HL.out.ap i j q hlt ((List.getElem?_eq_some_iff.1 h2).1) hq2 hq
          omega))
        have F2 : Hid (Fr (fun q => F q ∧ q < w.heap.size) w W2) := Lib.hid (hf.out.trans f2 (fun q _ hq => (HL.out.fs i q hlt hq).1))
        have c3 : W2.cell? ⟨g, 3, none⟩ = some (.slice (some ⟨b, 0, none⟩) l.length cl) := G2.out.cell 3
        have c0 : W2.cell? ⟨b, i * 5, none⟩ = some (.int .i64 k6) := by
          have h5 := HL.out.c5 _ (List.getElem_mem hci)
          have := HCUR.out i 0 (Nat.le_refl _) hlt (by omega)
          rw [Nat.add_zero] at this
          have h2 := flat_get css HL.out.c5 i css[i] (List.getElem?_eq_getElem hci) 0 (by omega)
          rw [Nat.add_zero] at h2
          rw [HB2.out.cell, this, h2, E6.out]
          rfl
        have z0 : W2.frozen? ⟨b, i * 5, none⟩ = false := HB2.out.frozen _
        clear f2 CALL HB hb HALL hf HRG
        go_upto_region 9 with fail
        go_wp2_with fail
        go_roundw
        case rel =>
          refine ⟨i + 1, by omega, by go_num, ⟨fun _ => ⟨b, _, rfl, HB2.out.set_ (i * 5) _, by simpa using hsz, fun j q hj1 hj2 hq => ?_⟩, fun j C x hj h1 h2 => ?_⟩, G2.out.far (by show g ≠ b; omega) _, F2.out.setCell (p := ⟨b, i * 5, none⟩) (fun _ => HL.out.rf b rfl) _⟩
          · rw [Array.getElem?_setIfInBounds, if_neg (by omega)]
            exact HCUR.out j q (by omega) hj2 hq
          · exact (ALL2.out j (by omega) C x h1 h2).fr ((Fr.refl (fun q => q = b) W2).setCell (p := ⟨b, i * 5, none⟩) (fun _ => rfl) _) (fun q hq e => by
              subst e
              exact (HL.out.fs j q (List.getElem?_eq_some_iff.1 h2).1 hq).2 rfl)
        case measure => simp [intOf]; omega
theorem turn_c : ∀ v : V, TurnC v := by
  intro v
  induction v using V.ind with
  | h k n t l ks ih => exact turn_step ih
end Go.Proofs.YtnkfkicabgajmaaGreatDoor
