/-
  CONTRACT of the reference's Copy.
-/
import Derived.Test.YtnkfkicabgajmaaGreatDoorPutM
import Derived.Test.YtnkfkicabgajmaaGreatDoorEl
import Derived.Deep.AppendLies
import Derived.WalkMore
namespace Go.Proofs.YtnkfkicabgajmaaGreatDoor
set_option linter.unusedSimpArgs false
set_option linter.unusedVariables false
open Go Go.RowKit

section
variable {P : Program}
theorem oper_load_val {w : World} {ops : Array Oper} {o : Oper} {a : Act} {K : Act → World → Prop} {Q : Exit → Act → World → Prop} {X : Prop} (hgd : o.guard = none) (ty : TypeId) (x : Operand) (ho : o.op = .load ty x)
    (g off : Nat) (hx : a.eval x = .pointer (some ⟨g, off, none⟩)) (C : Array Value) (hr : w.rangeAt g off C.toList) (d : TypeDesc) (hu : P.underlying ty = some d) (hd : d.isRow = true) (hi : (P.info? ty).map (·.size) = some C.size)
    (h : K (a.put o.dst (.agg C)) w) : if Region.wanted o (yielded ops a.tmps) = true then Oper.wp P o a w K Q else X := by
  simp only [Region.wanted, hgd, if_true]
  exact wp_load_mid ty x ho g off hx C.toList d hr hu hd (by rw [Array.length_toList]; exact hi) (by rw [Array.toArray_toList]; exact h)
end
theorem abs_inb {n : Nat} {Q : Exit → Act → World → Prop} {e : Exit} {a : Act} {w : World} (Φ : World → Prop) (h : Φ w) (k : ∀ W, Φ W → Exit.inBlock n Q e a W) : Exit.inBlock n Q e a w := k w h
theorem src_rd_s {W : World} {A : Option Addr} {n c : Nat} {xs : List Value} (h : Rd W A n xs) (h1 : ∀ u ∈ xs, u.oneCell' = true) : Src Tryz.prog 1 23 (.slice A n c) n xs W := by
  cases A with
  | none =>
    have hn : n = 0 := by
      rcases Nat.eq_zero_or_pos n with h0 | h0
      · exact h0
      · obtain ⟨ad, e, _⟩ := h.2 h0
        cases e
    subst hn
    have hx : xs = [] := List.eq_nil_of_length_eq_zero h.1
    subst hx
    exact Src.ofNil W Tryz.underlying23 c
  | some ad =>
    refine Src.ofSlice W Tryz.underlying23 ad n c xs (by rw [h.1, Nat.mul_one]) (fun j u hu => ?_) h1
    have hj := (List.getElem?_eq_some_iff.1 hu).1
    obtain ⟨ad', e, hc⟩ := h.2 (by rw [← h.1]; omega)
    injection e with e
    subst e
    exact hc j u hu
theorem own_none {W : World} {g : Nat} {t : TypeId} (h : Blk W g t #[]) : W.ownsRow 0 t 1 (.slice (some ⟨g, 0, none⟩) 0 0) 0 [] :=
  ⟨rfl, .inr ⟨g, 0, #[], rfl, Nat.zero_le _, h, Nat.le_refl _, Nat.zero_le _, rfl, rfl⟩⟩
/-- An element more. -/
theorem PSt.snoc {lo g : Nat} {wr Wb W' W2 : World} {k n : Int} {t : List UInt8} {l : List V} {ks : List (List UInt8)} {A K : Option Addr} {c kc : Nat} {css : List (Array Value)} {Fs : Nat → Nat → Prop} {A' : Option Addr} {c' : Nat} {C' : Array Value} {x : V}
    (h0 : PSt lo g wr k n t l ks A c K kc css Fs) (hf : Fr (fun _ => False) wr Wb) (hlo : lo ≤ wr.heap.size) (hgl : g < lo)
    (hx : OwnV Wb (fun b => wr.heap.size ≤ b ∧ b < Wb.heap.size) C' x)
    (o : W'.ownsRow 0 25 5 (.slice A' (l.length + 1) c') (l.length + 1) (flat css ++ C'.toList)) (f : Fr (fun q => (Value.slice A l.length c).ownBlock = some q) Wb W')
    (hn : (Value.slice A' (l.length + 1) c').ownBlock = (Value.slice A l.length c).ownBlock ∨ (Value.slice A' (l.length + 1) c').ownBlock = some Wb.heap.size)
    (b2 : Blk W2 g 25 (vcs k n t A' (l.length + 1) c' K ks.length kc)) (f2 : Fr (fun q => q = g) W' W2) :
    ∃ css' Fs', PSt lo g W2 k n t (l ++ [x]) ks A' c' K kc css' Fs' := by
  have hs := hf.size
  have h := h0.far hf
  have hlf : (flat css).length = l.length * 5 := by rw [flat_len css h.hl.c5, h.hl.cn]
  obtain ⟨Fs', hp⟩ := PSt.ins (p := l.length) (G0 := wr.heap.size) h (by omega) (by omega) (Nat.le_refl _) hx (fun b hb hh => by
    rcases hh with ⟨i, hi, hb⟩ | hb | hb
    · exact (h0.hl.fs i b hi hb).1.2.2
    · exact (h0.hl.rf b hb).2.2
    · exact (h0.hk.rf b hb).2.2) (by omega) hlo (by
      rw [List.take_of_length_le (by omega), List.drop_eq_nil_of_le (by omega), List.append_nil]
      exact o) f hn b2 f2
  rw [List.take_length, List.drop_length] at hp
  exact ⟨_, Fs', hp⟩
theorem s_info0 : (Tryz.prog.info? 9).map (fun i => (i.zero, i.size, i.bytes)) = some (some (.string ⟨#[]⟩), 1, 16) := by kernel_rfl
abbrev CopyIH (D : Nat → Prop) (l : List V) : Prop := ∀ (x : V), x ∈ l → ∀ (W : World) (C : Array Value), RdV D W C x → Calls Tryz.prog 9 #[.agg C] W (OwnQ x W)
set_option maxRecDepth 100000 in
set_option maxHeartbeats 4000000 in
theorem copy_step (w : World) {D : Nat → Prop} {k n : Int} {t : List UInt8} {l : List V} {ks : List (List UInt8)} {Al Ak : Option Addr} {cl ck : Nat} {css : List (Array Value)}
    (hp : VP D w k n t l ks Al cl Ak ck css) (ih : CopyIH D l) (hl : l.length ≤ 1000000) (hk : ks.length ≤ 1000000) : Calls Tryz.prog 9 #[.agg (vcs k n t Al l.length cl Ak ks.length ck)] w (OwnQ (.mk k n t l ks) w) := by
  obtain ⟨i0, hi0, hz0', hz1', hz2'⟩ := info_parts v_info
  have HI0 := Lib.hid hi0
  obtain ⟨j0, hj0, jz0', jz1', jz2'⟩ := info_parts s_info0
  have HJ0 := Lib.hid hj0
  have HP := Lib.hid hp
  have HB := Lib.hid hp.b
  have IH := Lib.hid ih
  have hsz : (vcs k n t Al l.length cl Ak ks.length ck).size = 5 := rfl
  clear hp ih hi0 hj0
  go_enter Tryz.func9, Tryz.ntmps9
  go_upto_region 1 with fail
  refine abs_world (fun W => Hid (Blk W w.heap.size 25 (vcs k n t Al l.length cl Ak ks.length ck)) ∧ Hid (Blk W (w.heap.size + 1) 25 (vcs 0 0 [] none 0 0 none 0 0)) ∧ W.heap.size = w.heap.size + 2 ∧ Hid (Fr (fun _ => False) w W)) ⟨(Blk.new w _ _).alloc _, Blk.new1 w _ _ _, by simp, ((Fr.refl _ w).alloc _).alloc _⟩ ?_
  rintro W1 ⟨B1, R1, S1, F1⟩
  obtain ⟨g, hg⟩ : ∃ g, w.heap.size = g := ⟨_, rfl⟩
  have HG := Lib.hid hg
  rw [hg] at B1 R1 S1 ⊢
  clear hg
  have A1 := Lib.hid (blk_all B1.out)
  have Z1 := Lib.hid (show (Tryz.prog.info? 25).map (·.size) = some (vcs k n t Al l.length cl Ak ks.length ck).size from lw5)
  have O1 := Lib.hid (show (vcs k n t Al l.length cl Ak ks.length ck).all (·.oneCell') = true by simp [vcs, Value.oneCell'])
  have BN : Hid (Blk (W1.alloc (.cells (vcs 0 0 [] none 0 0 none 0 0) 25)) (g + 2) 25 (vcs 0 0 [] none 0 0 none 0 0)) := Lib.hid (by have := Blk.new W1 25 (vcs 0 0 [] none 0 0 none 0 0); rw [S1] at this; exact this)
  have FN : Hid (Fr (fun _ => False) W1 (W1.alloc (.cells (vcs 0 0 [] none 0 0 none 0 0) 25))) := Lib.hid ((Fr.refl _ W1).alloc _)
  go_upto_region 2 with (first
    | (refine wpList_load_val rfl 25 _ rfl g _ rfl _ A1.out _ Tryz.underlying25 rfl Z1.out ?_)
    | (refine wpList_store_blk rfl 25 _ _ rfl (g + 2) _ rfl rfl BN.out rfl Z1.out O1.out ?_
       intro W2 q2 f2
       have Q2 := Lib.hid q2
       have F2 := Lib.hid f2
       clear q2 f2))
  have S2 : Hid (g + 3 ≤ W2.heap.size) := Lib.hid (by have h2 := Q2.out.lt; omega)
  have G2 : Hid (Blk W2 g 25 (vcs k n t Al l.length cl Ak ks.length ck)) := Lib.hid ((B1.out.alloc _).fr F2.out (by omega))
  have R2 : Hid (Blk W2 (g + 1) 25 (vcs 0 0 [] none 0 0 none 0 0)) := Lib.hid ((R1.out.alloc _).fr F2.out (by omega))
  have FW2 : Hid (Fr (fun _ => False) w W2) := Lib.hid ((F1.out.trans FN.out (fun _ _ h => h)).trans F2.out (fun i hi he => by have := HG.out; omega))
  clear A1 BN FN F2 B1 R1 F1 S1
  have FA : Hid (Fr (fun _ => False) W2 (W2.alloc (.cells #[] 9))) := Lib.hid ((Fr.refl _ W2).alloc _)
  have KO : Hid ((W2.alloc (.cells #[] 9)).ownsRow 0 9 1 (.slice (some ⟨W2.heap.size, 0, none⟩) 0 0) 0 []) := Lib.hid (own_none (Blk.new W2 _ _))
  have SK : Hid (Src Tryz.prog 1 23 (.slice Ak ks.length ck) ks.length (strs ks) (W2.alloc (.cells #[] 9))) := Lib.hid (src_rd_s (HP.out.far (FW2.out.trans FA.out (fun _ _ h => h))).kr (strs_one ks))
  have c4 : ∀ o, (W2.alloc o).cell? ⟨g, 4, none⟩ = some (.slice Ak ks.length ck) := fun o => (G2.out.alloc o).cell 4
  go_upto_region 4 with (
    at_builtin
    refine wpList_app rfl (.tmp 6) (.tmp 8) _ _ rfl 0 9 j0 _ 1 16 Tryz.underlying23 HJ0.out jz0' jz1' jz2' rfl (.slice (some ⟨W2.heap.size, 0, none⟩) 0 0) 0 [] rfl KO.out _ ks.length (strs ks) rfl SK.out (by omega) (by unfold maxLen; omega) (Nat.zero_le _) ?_
    intro v7 W7 o7 f7 hn7
    rw [Nat.zero_add, List.nil_append] at o7
    obtain ⟨K7, kc7, rfl, -, -⟩ := own_slice o7
    have O7 := Lib.hid o7
    have F7 := Lib.hid f7
    have N7 := Lib.hid hn7
    have B7 : Hid (Blk W7 (g + 2) 25 (vcs k n t Al l.length cl Ak ks.length ck)) := Lib.hid (Blk.fr (keepB Q2.out FA.out) f7 (fun he => by
      have h1 : W2.heap.size = g + 2 := by simpa [Value.ownBlock] using he
      have := S2.out
      omega))
    have k4' : W7.cell? ⟨g + 2, 4, none⟩ = some (.slice Ak ks.length ck) := B7.out.cell 4
    have z4' : W7.frozen? ⟨g + 2, 4, none⟩ = false := B7.out.frozen 4
    have k3' : W7.cell? ⟨g + 2, 3, none⟩ = some (.slice Al l.length cl) := B7.out.cell 3
    have z3' : W7.frozen? ⟨g + 2, 3, none⟩ = false := B7.out.frozen 3
    clear o7 f7 hn7)
  refine abs_world (fun W => Hid (PSt (g + 3) (g + 2) W k n t [] ks none 0 K7 kc7 [] (fun _ _ => False)) ∧ Hid (Blk W (g + 1) 25 (vcs 0 0 [] none 0 0 none 0 0)) ∧ Hid (Blk W g 25 (vcs k n t Al l.length cl Ak ks.length ck)) ∧ Hid (Fr (fun _ => False) w W)) ?_ ?_
  · have hs2 := S2.out
    have hs7 := F7.out.size
    rw [World.size_alloc] at hs7
    have hk7 : ∀ q, (Value.slice K7 ks.length kc7).ownBlock = some q → g + 3 ≤ q := fun q hq => by
      rcases N7.out with e | e
      · rw [e] at hq
        have h1 : W2.heap.size = q := by simpa [Value.ownBlock] using hq
        omega
      · rw [e] at hq
        injection hq with hq
        rw [World.size_alloc] at hq
        omega
    have f8 : Fr (fun q => q = g + 2) W7 ((W7.setCell ⟨g + 2, 4, none⟩ (.slice K7 ks.length kc7)).setCell ⟨g + 2, 3, none⟩ (.slice none 0 0)) := ((Fr.refl (fun q => q = g + 2) W7).setCell (p := ⟨g + 2, 4, none⟩) (fun _ => rfl) _).setCell (p := ⟨g + 2, 3, none⟩) (fun _ => rfl) _
    have hr := own_fr O7.out f8 (fun q hq e => by have := hk7 q hq; omega)
    refine ⟨⟨⟨hr, fun q hq => ⟨hk7 q hq, by have := hk7 q hq; omega, own_lt hr hq⟩⟩, OwnL.nil _ _, fun i b h => by simp at h, (B7.out.set_ 4 _).set_ 3 _, HB.out.ks⟩, ?_, ?_, ?_⟩
    · exact ((R2.out.alloc _).fr F7.out (fun e => by have h1 : W2.heap.size = g + 1 := by simpa [Value.ownBlock] using e
                                                     omega)).fr f8 (by omega)
    · exact ((G2.out.alloc _).fr F7.out (fun e => by have h1 : W2.heap.size = g := by simpa [Value.ownBlock] using e
                                                     omega)).fr f8 (by omega)
    · exact ((FW2.out.trans FA.out (fun _ _ h => h)).trans F7.out (fun q hq e => by
        have h1 : W2.heap.size = q := by simpa [Value.ownBlock] using e
        have := HG.out
        omega)).trans f8 (fun q hq e => by
        have := HG.out
        omega)
  rintro W8 ⟨PS, R8, G8, F8⟩
  clear O7 F7 N7 B7 k4' z4' k3' z3' c4 SK KO FA FW2 R2 G2 S2 Q2
  clear W7
  have HGL := Lib.hid G8.out.lt
  go_wp2_with fail
  go_loopw [4] (fun iv wr => ∃ (m : List V) (A : Option Addr) (c : Nat) (cs2 : List (Array Value)) (Fs : Nat → Nat → Prop), m.length ≤ l.length ∧ iv = .int .i64 (m.length : Int) ∧ Hid (m = l.take m.length) ∧ Hid (PSt (g + 3) (g + 2) wr k n t m ks A c K7 kc7 cs2 Fs) ∧ Hid (Blk wr (g + 1) 25 (vcs 0 0 [] none 0 0 none 0 0)) ∧ Hid (Blk wr g 25 (vcs k n t Al l.length cl Ak ks.length ck)) ∧ Hid (Fr (fun _ => False) w wr)) (fun iv _ => l.length - (intOf iv).toNat)
  case atStart => exact ⟨[], none, 0, [], _, Nat.zero_le _, rfl, rfl, PS.out, R8.out, G8.out, F8.out⟩
  case round =>
    clear PS R8 G8 F8
    obtain ⟨m, A, c, cs2, Fs, hm, rfl, hmt, hps, hr1, hg1, hf⟩ := hrel
    have hlo : g + 3 ≤ wr.heap.size := hps.out.box.lt
    obtain ⟨i, hi⟩ : ∃ i, m.length = i := ⟨_, rfl⟩
    have HMI := Lib.hid hi
    rw [hi] at hm hmt ⊢
    have c3 : wr.cell? ⟨g, 3, none⟩ = some (.slice Al l.length cl) := hg1.out.cell 3
    have x3 : wr.cell? ⟨g + 2, 3, none⟩ = some (.slice A i c) := hi ▸ hps.out.box.cell 3
    clear hi
    by_cases hlt : i < l.length
    case neg =>
      obtain rfl : i = l.length := by omega
      have hdl : decide ((l.length : Int) < (l.length : Int)) = false := decide_eq_false (by omega)
      have hdl' : decide (l.length < l.length) = false := decide_eq_false (by omega)
      have hml : m = l := by rw [hmt.out, List.take_length]
      subst hml
      have OV := Lib.hid (hps.out.own HB.out.k0 HB.out.k1 HB.out.n0 HB.out.n1 HB.out.tl HB.out.ll HB.out.kl)
      have BA := Lib.hid (blk_all hps.out.box)
      have BR := Lib.hid hr1.out
      have Z2 := Lib.hid (szV OV.out.rd)
      have O2 := Lib.hid (oneV OV.out.rd)
      go_wp2_with (first
        | (refine wpList_load_val rfl 25 _ rfl (g + 2) _ rfl _ BA.out _ Tryz.underlying25 rfl Z2.out ?_)
        | (refine wpList_store_blk rfl 25 _ _ rfl (g + 1) _ rfl rfl BR.out rfl Z2.out O2.out ?_
           intro W9 q9 f9
           have F9 := Lib.hid f9
           have Q9 := Lib.hid q9
           clear q9 f9))
      have hres := results_one (P := Tryz.prog) (fn := Tryz.f9) (p := 2) (ty := 25) Tryz.results9
      refine bodyPost_ret (v := .agg (vcs k n t A m.length c K7 ks.length kc7)) (hres _ W9 (g + 1) 25 _ _ rfl Q9.out Tryz.underlying25 rfl Z2.out) rfl ?_
      have hg := HG.out
      have s9 := F9.out.size
      exact ⟨_, rfl, (OV.out.fr F9.out (fun q hq e => by have := hq.1; omega)).mono (fun q hq => ⟨by have := hq.1; omega, by have := hq.2.2; omega⟩), hf.out.trans F9.out (fun q hq e => by omega)⟩
    have hdl : decide ((i : Int) < (l.length : Int)) = true := decide_eq_true (by omega)
    have hdl' : decide (i < l.length) = true := decide_eq_true hlt
    obtain ⟨b, off, C, hA, hci, hrv, hrg, h5⟩ := (HP.out.far (hf.out.trans ((Fr.refl (fun _ => False) wr).drew) (fun _ _ h => h))).at_ hlt
    subst hA
    have HRV := Lib.hid hrv
    have HRG := Lib.hid hrg
    have HSC := Lib.hid (szV hrv)
    obtain ⟨k5, n5, t5, l5, ks5, A5, c5, K5, d5, cs5, e5, rfl, -⟩ := hrv.inv
    have CALL := Lib.hid (IH.out l[i] (List.getElem_mem hlt) wr.drew _ hrv)
    have y0 : wr.cell? ⟨b, off + i * 5, none⟩ = some (.int .i64 k5) := hrg 0 _ rfl
    have y1 : wr.cell? ⟨b, off + i * 5 + 1, none⟩ = some (.int .i64 n5) := hrg 1 _ rfl
    have y2 : wr.cell? ⟨b, off + i * 5 + 2, none⟩ = some (.string (strOf t5)) := hrg 2 _ rfl
    have y3 : wr.cell? ⟨b, off + i * 5 + 3, none⟩ = some (.slice A5 l5.length c5) := hrg 3 _ rfl
    have y4 : wr.cell? ⟨b, off + i * 5 + 4, none⟩ = some (.slice K5 ks5.length d5) := hrg 4 _ rfl
    have FD : Hid (Fr (fun _ => False) wr wr.drew) := Lib.hid ((Fr.refl (fun _ => False) wr).drew)
    clear hci hrv hrg h5 e5
    go_upto_region 7 with fail
    go_region_law (first
      | (go_simp
         go_at_call 9
         refine CALL.out.mono ?_
         rintro e W6 ⟨C6, rfl, o6, f6⟩
         obtain ⟨k6, n6, t6, l6, ks6, A6, c6, B6, d6, cs6, Fs6, e6, rfl, -⟩ := o6.inv
         have O6 := Lib.hid o6
         have F6 : Hid (Fr (fun _ => False) wr W6) := Lib.hid (FD.out.trans f6 (fun _ _ h => h))
         have S6 : Hid (wr.heap.size ≤ wr.drew.heap.size) := Lib.hid (Nat.le_refl _)
         have N6 := Lib.hid o6.rd.one
         have Z6 := Lib.hid o6.rd.size
         have KO6 : Hid (∀ o, (W6.alloc o).ownsRow 0 25 5 (.slice A i c) i (flat cs2)) := Lib.hid (fun o => HMI.out ▸ own_fr hps.out.hl.row (F6.out.alloc o) (fun _ _ h => h))
         have x4 : W6.cell? ⟨g + 2, 3, none⟩ = some (.slice A i c) := HMI.out ▸ (keepB hps.out.box F6.out).cell 3
         have x5 : ∀ o, (W6.alloc o).cell? ⟨g + 2, 3, none⟩ = some (.slice A i c) := fun o => HMI.out ▸ (keepB hps.out.box (F6.out.alloc o)).cell 3
         clear o6 f6 e6)
      | (refine oper_app_p rfl (.tmp 20) (.tmp 27) _ _ rfl 0 25 i0 _ 5 80 Tryz.underlying22 HI0.out hz0' hz1' hz2' rfl (.slice A i c) i (flat cs2) (by simp [Act.eval, Act.put]) (KO6.out _) _ 1 _ (by simp [Act.eval, Act.put]) (Src.one (Blk.rng (Blk.new W6 25 (vcs k6 n6 t6 A6 l6.length c6 B6 ks6.length d6))) Z6.out N6.out) (by omega) (by unfold maxLen; omega) (Nat.zero_le _) ?_
         intro v8 W8 o8 f8 n8
         obtain ⟨A8, c8, rfl, -, -⟩ := own_slice o8
         have O8 := Lib.hid o8
         have F8 := Lib.hid f8
         have N8 := Lib.hid n8
         have B8 : Hid (Blk W8 (g + 2) 25 (vcs k n t A i c K7 ks.length kc7)) := Lib.hid (HMI.out ▸ Blk.fr (keepB hps.out.box (F6.out.alloc _)) f8 (fun he => by
           have := (hps.out.hl.rf (g + 2) (HMI.out.symm ▸ he)).1
           omega))
         have y6 : W8.frozen? ⟨g + 2, 3, none⟩ = false := B8.out.frozen 3
         have y7 : W8.cell? ⟨g + 2, 3, none⟩ = some (.slice A i c) := B8.out.cell 3
         clear o8 f8 n8))
    all_goals
      have X9 : ∃ css' Fs', PSt (g + 3) (g + 2) (W8.setCell ⟨g + 2, 3, none⟩ (.slice A8 (i + 1) c8)) k n t (m ++ [l[i]]) ks A8 c8 K7 kc7 css' Fs' := (by
        have hm := HMI.out
        have o8 := O8.out
        have f8 := F8.out
        have n8 := N8.out
        have b8 := B8.out
        subst hm
        exact PSt.snoc (x := l[m.length]) hps.out (F6.out.alloc _) hlo (by omega) ((O6.out.far ((Fr.refl (fun _ => False) W6).alloc _)).mono (fun q hq => ⟨Nat.le_trans S6.out hq.1, Nat.lt_of_lt_of_le hq.2 ((Fr.refl (fun _ => False) W6).alloc _).size⟩)) o8 f8 n8 (b8.set_ 3 _) ((Fr.refl (fun q => q = g + 2) W8).setCell (p := ⟨g + 2, 3, none⟩) (fun _ => rfl) _))
      obtain ⟨css9, Fs9, X9⟩ := X9
      have X9 := Lib.hid X9
      have hrow : ∀ q, (Value.slice A i c).ownBlock = some q → g + 3 ≤ q := fun q hq => (hps.out.hl.rf q (HMI.out.symm ▸ hq)).1
      have F9 : Fr (fun q => q = g + 2) W8 (W8.setCell ⟨g + 2, 3, none⟩ (.slice A8 (i + 1) c8)) := (Fr.refl (fun q => q = g + 2) W8).setCell (p := ⟨g + 2, 3, none⟩) (fun _ => rfl) _
      refine abs_inb (fun W => Hid (PSt (g + 3) (g + 2) W k n t (m ++ [l[i]]) ks A8 c8 K7 kc7 css9 Fs9) ∧ Hid (Blk W (g + 1) 25 (vcs 0 0 [] none 0 0 none 0 0)) ∧ Hid (Blk W g 25 (vcs k n t (some ⟨b, off, none⟩) l.length cl Ak ks.length ck)) ∧ Hid (Fr (fun _ => False) w W)) ⟨X9.out, ((keepB hr1.out (F6.out.alloc _)).fr F8.out (fun e => by have := hrow _ e; omega)).fr F9 (by omega), ((keepB hg1.out (F6.out.alloc _)).fr F8.out (fun e => by have := hrow _ e; omega)).fr F9 (by omega),
        ((hf.out.trans (F6.out.alloc _) (fun _ _ h => h)).trans F8.out (fun q hq e => by have := hrow _ e; have := HG.out; omega)).trans F9 (fun q hq e => by have := HG.out; omega)⟩ ?_
      clear X9 hrow F9 F8 B8 y6 y7 O8 N8 x4 x5 KO6 y0 y1 y2 y3 y4 c3 x3
      rintro W9 ⟨X9, R9, G9, FF⟩
      go_wp2_with fail
      go_roundw
      case rel =>
        have hm := HMI.out
        subst hm
        have hlen : (m ++ [l[m.length]]).length = m.length + 1 := by simp
        refine ⟨m ++ [l[m.length]], A8, c8, css9, Fs9, by rw [hlen]; omega, by rw [hlen]; go_num, ?_, X9.out, R9.out, G9.out, FF.out⟩
        refine Lib.hid ?_
        rw [hlen, List.take_succ_eq_append_getElem hlt]
        congr 1
      case measure => simp [intOf]; omega
def CopyC : Prop := ∀ (v : V) (w : World) (D : Nat → Prop) (C : Array Value), RdV D w C v → Sm v → Calls Tryz.prog 9 #[.agg C] w (OwnQ v w)
theorem copy_c : CopyC := by
  intro v
  induction v using V.ind with
  | h k n t l ks ih =>
    intro w D C h hs
    obtain ⟨k1, n1, t1, l1, ks1, Al, cl, Ak, ck, css, e, rfl, hp⟩ := h.inv
    injection e with e1 e2 e3 e4 e5
    subst e1 e2 e3 e4 e5
    exact copy_step w hp (fun x hx W C hC => ih x hx W D C hC (hs.inv.el x hx)) hs.inv.ll hs.inv.kl
end Go.Proofs.YtnkfkicabgajmaaGreatDoor
