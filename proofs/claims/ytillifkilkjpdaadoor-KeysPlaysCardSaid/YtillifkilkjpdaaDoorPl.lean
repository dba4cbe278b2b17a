/-
  KeysPlays.
-/
import Derived.Test.YtillifkilkjpdaaDoorActs
namespace Go.Proofs.YtillifkilkjpdaaDoor
set_option linter.unusedSimpArgs false
set_option linter.unusedVariables false
open Go Go.RowKit

theorem act_c (w : World) (B g : Nat) (v : Value) (m : Ents) (A : Option Addr) (c : Nat) (a : Ac) (hu : a.u ≤ 9223372036854775807) (hx : IX w B g v m) (hm : m.length ≤ 100000) (hr : Rd w A (m.length * 2) (ec m)) (hc : m.length ≤ c) :
    Calls Tryd.prog 15 #[.pointer (some ⟨g, 0, none⟩), .slice A m.length c, .agg #[.int .i64 a.d, .int .i64 a.u, .string (strOf a.k), .string (strOf a.t)]] w (ActP w B g v (.slice A m.length c) (stepP m a)) := by
  obtain ⟨d, u, key, tt⟩ := a
  simp only at hu ⊢
  unfold stepP
  by_cases h0 : d = 0
  · subst h0
    rw [if_pos rfl]
    exact act0_c w B g v m A c u key tt hx hm hr hc
  · rw [if_neg h0]
    by_cases h1 : d = 1
    · subst h1
      rw [if_pos rfl]
      exact act1_c w B g v m A c u key tt hx hm hr hc
    · rw [if_neg h1]
      by_cases h2 : d = 2
      · subst h2
        exact act2_c w B g v m A c u key tt hx hm hr hc
      · by_cases h3 : d = 3
        · subst h3
          exact act3_c w B g v m A c u key tt hx hm hr hc
        · by_cases h4 : d = 4
          · subst h4
            exact act4_c w B g v m A c u key tt hu hx hm hr hc
          · refine act5_c w B g v m A c d u key tt (fun q hq => ?_) hx hm hr hc
            simp only [List.mem_cons, List.not_mem_nil, or_false] at hq
            rcases hq with rfl | rfl | rfl | rfl | rfl <;> assumption
theorem sep_nil (g : Nat) (v : Value) : Sep (.slice none 0 0) g v := fun A n c he h0 k hk => by
  injection he with e1 e2 e3
  omega
theorem stepP_len (m : Ents) (a : Ac) : (stepP m a).length ≤ m.length + 1 := by
  unfold stepP
  split
  · exact mset_len _ _ _
  · split
    · have := mdel_len m a.k; omega
    · omega
theorem Rd.sep {w w' : World} {A : Option Addr} {n c g : Nat} {v : Value} {m : Ents} (h : Rd w A (n * 2) (ec m)) (hn : m.length = n) (hs : Sep (.slice A n c) g v) (hf : Fr (fun k => k = g ∨ v.ownBlock = some k) w w') : Rd w' A (n * 2) (ec m) := by
  rcases Nat.eq_zero_or_pos n with h0 | h0
  · subst h0
    have : m = [] := List.eq_nil_of_length_eq_zero hn
    subst this
    exact Rd.none_ _ _
  · exact h.fr hf (fun k hk h => by
      obtain ⟨h1, h2⟩ := hs A n c rfl h0 k hk
      rcases h with h | h
      · exact h1 h
      · exact h2 h)
theorem IX.up {w w' : World} {B g : Nat} {v : Value} {m : Ents} (F : Fr (fun _ => False) w w') (hx : IX w' B g v m) (hB : w.heap.size ≤ B) {w2 : World} (h : Fr (fun k => k = g ∨ v.ownBlock = some k) w' w2) : Fr (fun _ => False) w w2 :=
  F.trans h (fun k hk e => by
    rcases e with e | e
    · have := hx.base; omega
    · have := (World.ownsRow.lt hx.own k e).1; omega)

set_option maxRecDepth 100000 in
set_option maxHeartbeats 4000000 in
theorem keysPlays_c (w : World) (A0 : Option Addr) (n c0 : Nat) (l : List Ac) (hr : RdA w A0 n l) (hl : l.length = n) (hn : n ≤ 140737488355328) (hok : ∀ a ∈ l, a.Ok) (htab : TabOk w) :
    Calls Tryd.prog 3 #[.slice A0 n c0] w fun e w' => e = .returned (.bool true) ∧ Fr (fun _ => False) w w' := by
  have HR := Lib.hid hr
  have HL := Lib.hid hl
  have HOK := Lib.hid hok
  have HT := Lib.hid htab
  clear hr hl hok htab
  go_enter Tryd.func3, Tryd.ntmps3
  go_wp2_with fail
  refine (long_c w A0 n c0 l HR.out HL.out hn HOK.out).mono ?_
  rintro e w1 ⟨⟨b1, rfl, hb1⟩, f1⟩
  have HB1 := Lib.hid hb1
  have F1 := Lib.hid f1
  clear hb1 f1
  cases b1 with
  | true =>
    go_wp2_with fail
    refine (awake_c w1 (HT.out.far F1.out)).mono ?_
    rintro e wz ⟨rfl, fz⟩
    have FZ := Lib.hid (F1.out.trans fz (fun _ _ h => h))
    clear fz
    go_wp2_with fail
    go_ret
    exact ⟨rfl, FZ.out⟩
  | false =>
    have hn4 : n ≤ 400 := HB1.out rfl
    clear HB1
    go_wp2_with fail
    have hws := F1.out.size
    refine (new_c w1).mono ?_
    rintro e w3 ⟨rfl, xa, f3⟩
    obtain ⟨g, hg⟩ : ∃ g, w1.heap.size = g := ⟨_, rfl⟩
    rw [hg] at xa ⊢
    have X3 := Lib.hid (xa.base_ (B' := w.heap.size) (by omega))
    have F3 := Lib.hid (F1.out.trans f3 (fun _ _ h => h))
    clear xa f3 F1 hg hws
    go_wp2_with fail
    go_loopw [5, 3, 4] (fun u xv rv wr => ∃ (i g : Nat) (v : Value) (m : Ents) (A : Option Addr) (c mn : Nat), u = .int .i64 i ∧ i ≤ n ∧ xv = .pointer (some ⟨g, 0, none⟩) ∧ rv = .slice A mn c ∧ Hid (m.length = mn) ∧ mn ≤ i ∧ mn ≤ c ∧ Hid (IX wr w.heap.size g v m) ∧ Hid (Rd wr A (mn * 2) (ec m)) ∧ Hid (Sep (.slice A mn c) g v) ∧ Hid (Fr (fun _ => False) w wr)) (fun u _ _ _ => n - (intOf u).toNat)
    case atStart => exact ⟨0, g, _, [], none, 0, 0, rfl, Nat.zero_le _, rfl, rfl, rfl, Nat.le_refl _, Nat.le_refl _, X3.out, Rd.none_ _ _, sep_nil g _, F3.out⟩
    case round =>
      clear X3 F3
      obtain ⟨i, g, v, m, A, c, mn, rfl, hi, rfl, rfl, hml, hmi, hmc, xa, hrd, hsep, hf⟩ := hrel
      by_cases hlt : i < n
      · have hdl : decide ((i : Int) < (n : Int)) = true := decide_eq_true (by omega)
        have hdn : decide (i < n) = true := decide_eq_true hlt
        have hI : (i : Int) < n := by omega
        obtain ⟨b, off, rfl, hbl, c0, c1, c2, c3⟩ := HR.out.act HL.out hlt
        have hin : i < l.length := by rw [HL.out]; exact hlt
        obtain ⟨a, ha⟩ : ∃ a, l[i] = a := ⟨_, rfl⟩
        have hau := (HOK.out l[i] (List.getElem_mem hin)).u1
        rw [ha] at c0 c1 c2 c3 hau
        have y0 := (hf.out.cell hbl (fun h => h)).trans c0
        have y1 := (hf.out.cell hbl (fun h => h)).trans c1
        have y2 := (hf.out.cell hbl (fun h => h)).trans c2
        have y3 := (hf.out.cell hbl (fun h => h)).trans c3
        have HC0 := Lib.hid c0
        have HC1 := Lib.hid c1
        have HC2 := Lib.hid c2
        have HC3 := Lib.hid c3
        have HAU := Lib.hid hau
        clear c0 c1 c2 c3 ha hau
        by_cases hd5 : a.d = 5
        · have hb5 : (a.d == 5) = true := by rw [hd5]; rfl
          clear hd5
          go_wp2_with fail
          refine (copy_c wr w.heap.size g v m xa.out (by rw [hml.out]; omega)).mono ?_
          rintro e w5 ⟨g', v', rfl, x5, f5⟩
          have hgl : g < wr.heap.size := xa.out.blk.lt
          have hgg : wr.heap.size ≤ g' := x5.base
          have HDJ : Hid (Dj v v') := fun k h1 h2 => by
            have h3 := (World.ownsRow.lt xa.out.own k h1).2
            have h4 := (World.ownsRow.lt x5.own k h2).1
            omega
          have HVB : Hid (∀ k, v'.ownBlock = some k → wr.heap.size ≤ k) := fun k h2 => (World.ownsRow.lt x5.own k h2).1
          have hwl : w.heap.size ≤ wr.heap.size := hf.out.size
          have X5 := Lib.hid (x5.base_ (B' := w.heap.size) hwl)
          have XA5 := Lib.hid (xa.out.far f5)
          have R5 := Lib.hid (hrd.out.far f5)
          have F5 := Lib.hid (hf.out.trans f5 (fun _ _ h => h))
          have HRL : Hid (0 < mn → ∀ k, inA A k → k < wr.heap.size) := fun h0 k hk => hrd.out.lt (by omega) hk
          have hs5 : wr.heap.size ≤ w5.heap.size := f5.size
          clear x5 f5 y0 y1 y2 y3 xa hrd hf
          go_wp2_with fail
          refine (set_c w5 w.heap.size g v m [99, 111, 112, 105, 101, 100] 1 XA5.out (by rw [hml.out]; omega)).mono ?_
          rintro e w6 ⟨rfl, v6, x6, f6, n6⟩
          have X6 := Lib.hid x6
          have XC6 : Hid (IX w6 w.heap.size g' v' m) := IX.other X5.out XA5.out (by omega) HDJ.out f6
          have R6 : Hid (Rd w6 A (mn * 2) (ec m)) := R5.out.sep hml.out hsep.out f6
          have D6 : Hid (Dj v6 v') := Dj.step HDJ.out X5.out n6
          have S6 : Hid (Sep (.slice A mn c) g v6) := fun A1 n1 c1 he h0 k hk => by
            injection he with e1 e2 e3
            subst e1 e2 e3
            obtain ⟨q1, q2⟩ := hsep.out A mn c rfl h0 k hk
            refine ⟨q1, fun hv => ?_⟩
            rcases n6 with h | ⟨q, h, hq⟩
            · exact q2 (h ▸ hv)
            · rw [h] at hv
              cases hv
              have := HRL.out h0 k hk
              omega
          have F6 : Hid (Fr (fun _ => False) w w6) := IX.up F5.out XA5.out (Nat.le_refl _) f6
          clear x6 f6 n6 X5 XA5 R5 F5 HDJ
          have y2 := (F6.out.cell hbl (fun h => h)).trans HC2.out
          go_wp2_with fail
          refine (del_c w6 w.heap.size g v6 (mset m [99, 111, 112, 105, 101, 100] 1) a.k X6.out (by have := mset_len m [99, 111, 112, 105, 101, 100] 1; have := hml.out; omega)).mono ?_
          rintro e w7 ⟨rfl, v7, x7, f7, -⟩
          have XT : Hid (IX w7 w.heap.size g' v' m) := IX.other XC6.out X6.out (by omega) D6.out f7
          have RT : Hid (Rd w7 A (mn * 2) (ec m)) := R6.out.sep hml.out S6.out f7
          have FT : Hid (Fr (fun _ => False) w w7) := IX.up F6.out X6.out (Nat.le_refl _) f7
          have ST : Hid (Sep (.slice A mn c) g' v') := fun A1 n1 c1 he h0 k hk => by
            injection he with e1 e2 e3
            subst e1 e2 e3
            have h1 := HRL.out h0 k hk
            exact ⟨by omega, fun hv => by have := HVB.out k hv; omega⟩
          clear x7 f7 X6 XC6 R6 D6 S6 F6 y2 HRL HVB hsep
          have y0 := (FT.out.cell hbl (fun h => h)).trans HC0.out
          have y1 := (FT.out.cell hbl (fun h => h)).trans HC1.out
          have y2 := (FT.out.cell hbl (fun h => h)).trans HC2.out
          have y3 := (FT.out.cell hbl (fun h => h)).trans HC3.out
          go_wp2_with fail
          have hact := act_c w7 w.heap.size g' v' m A c a HAU.out XT.out (by rw [hml.out]; omega) (by rw [hml.out]; exact RT.out) (by rw [hml.out]; exact hmc)
          rw [hml.out] at hact
          refine hact.mono ?_
          rintro e w8 ⟨rv8, v8, rfl, ⟨A8, c8, rfl, hr8, hc8⟩, x8, f8, n8, hs8⟩
          obtain ⟨m8, hm8⟩ : ∃ m8, (stepP m a).length = m8 := ⟨_, rfl⟩
          rw [hm8] at hr8 hc8 hs8 ⊢
          have HM8 := Lib.hid hm8
          have hm8i : m8 ≤ i + 1 := by have := stepP_len m a; have := hml.out; omega
          have X8 := Lib.hid x8
          have F8 : Hid (Fr (fun _ => False) w w8) := IX.up FT.out XT.out (Nat.le_refl _) f8
          have S8 := Lib.hid (hs8 ST.out)
          have R8 := Lib.hid hr8
          clear hact hr8 x8 f8 n8 hs8 hm8 XT RT FT ST y0 y1 y2 y3
          go_wp2_with fail
          have hst := stands_c w8 _ (stepP m a) A8 c8 X8.out.xr X8.out.srt (by rw [HM8.out]; omega) (by rw [HM8.out]; exact R8.out) (by rw [HM8.out]; exact hc8)
          rw [HM8.out] at hst
          refine hst.mono ?_
          rintro e w9 ⟨rfl, f9⟩
          have X9 := Lib.hid (X8.out.far f9)
          have R9 := Lib.hid (R8.out.far f9)
          have F9 := Lib.hid (F8.out.trans f9 (fun _ _ h => h))
          clear hst f9 X8 R8 F8
          go_wp2_with fail
          exact ⟨⟨i + 1, g', v8, stepP m a, A8, c8, m8, by push_cast; rfl, by omega, rfl, rfl, HM8.out, hm8i, hc8, X9.out, R9.out, S8.out, F9.out⟩, by simp only [intOf]; omega⟩
        · have hb5 : (a.d == 5) = false := by simpa using hd5
          clear hd5
          have XT := Lib.hid xa.out
          have RT := Lib.hid hrd.out
          have FT := Lib.hid hf.out
          have ST := Lib.hid hsep.out
          clear xa hrd hf hsep
          go_wp2_with fail
          have hact := act_c wr w.heap.size g v m A c a HAU.out XT.out (by rw [hml.out]; omega) (by rw [hml.out]; exact RT.out) (by rw [hml.out]; exact hmc)
          rw [hml.out] at hact
          refine hact.mono ?_
          rintro e w8 ⟨rv8, v8, rfl, ⟨A8, c8, rfl, hr8, hc8⟩, x8, f8, n8, hs8⟩
          obtain ⟨m8, hm8⟩ : ∃ m8, (stepP m a).length = m8 := ⟨_, rfl⟩
          rw [hm8] at hr8 hc8 hs8 ⊢
          have HM8 := Lib.hid hm8
          have hm8i : m8 ≤ i + 1 := by have := stepP_len m a; have := hml.out; omega
          have X8 := Lib.hid x8
          have F8 : Hid (Fr (fun _ => False) w w8) := IX.up FT.out XT.out (Nat.le_refl _) f8
          have S8 := Lib.hid (hs8 ST.out)
          have R8 := Lib.hid hr8
          clear hact hr8 x8 f8 n8 hs8 hm8 XT RT FT ST y0 y1 y2 y3
          go_wp2_with fail
          have hst := stands_c w8 _ (stepP m a) A8 c8 X8.out.xr X8.out.srt (by rw [HM8.out]; omega) (by rw [HM8.out]; exact R8.out) (by rw [HM8.out]; exact hc8)
          rw [HM8.out] at hst
          refine hst.mono ?_
          rintro e w9 ⟨rfl, f9⟩
          have X9 := Lib.hid (X8.out.far f9)
          have R9 := Lib.hid (R8.out.far f9)
          have F9 := Lib.hid (F8.out.trans f9 (fun _ _ h => h))
          clear hst f9 X8 R8 F8
          go_wp2_with fail
          exact ⟨⟨i + 1, g, v8, stepP m a, A8, c8, m8, by push_cast; rfl, by omega, rfl, rfl, HM8.out, hm8i, hc8, X9.out, R9.out, S8.out, F9.out⟩, by simp only [intOf]; omega⟩
      · have hdl : decide ((i : Int) < (n : Int)) = false := decide_eq_false (by omega)
        have hdn : decide (i < n) = false := decide_eq_false hlt
        go_wp2_with fail
        refine (awake_c wr (HT.out.far hf.out)).mono ?_
        rintro e wz ⟨rfl, fz⟩
        have FZ := Lib.hid (hf.out.trans fz (fun _ _ h => h))
        clear fz
        go_wp2_with fail
        go_ret
        exact ⟨rfl, FZ.out⟩
end Go.Proofs.YtillifkilkjpdaaDoor
