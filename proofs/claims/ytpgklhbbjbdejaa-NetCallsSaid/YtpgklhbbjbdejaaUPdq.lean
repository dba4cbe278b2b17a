/-
  CONTRACTS of pdqsortOrdered and of slices.Sort at uint64. Written by gen_u4.py.
-/
import Derived.Test.YtpgklhbbjbdejaaUHeap
import Derived.Test.YtpgklhbbjbdejaaURev
import Derived.Test.YtpgklhbbjbdejaaUCho
import Derived.Test.YtpgklhbbjbdejaaUPartE
import Derived.Test.YtpgklhbbjbdejaaUPi
import Derived.Test.YtpgklhbbjbdejaaUBrk
import Derived.Sort.LotD3
namespace Go.Proofs.Ytpgklhbbjbdejaa
set_option linter.unusedSimpArgs false
set_option linter.unusedVariables false
open Go Go.RowKit Go.Sort

/-- Whoever sorts what is left has sorted the whole. -/
def Cont (a b : Nat) (d : Array Nat) (a' b' : Nat) (dk : Array Nat) : Prop := ∀ R, PermIn a' b' dk R → SortedIn lt6 a' b' R → PermIn a b d R ∧ SortedIn lt6 a b R
theorem Cont.perm {a b a' b' : Nat} {d dk d1 : Array Nat} (h : Cont a b d a' b' dk) (k : PermIn a' b' dk d1) : Cont a b d a' b' d1 := fun R h1 h2 => h R (permIn_trans _ _ _ a' b' k h1) h2
/-- A round's state. -/
structure Pq (w : World) (g n : Nat) (rest : List Value) (a b : Nat) (d : Array Nat) (a' b' : Nat) (W : World) (dk : Array Nat) : Prop where
  now : Now w g rest n W dk
  bel : Sort.Below lt6 a' b' dk
  cont : Cont a b d a' b' dk
  sz : b' ≤ n
theorem Pq.perm {w : World} {g n : Nat} {rest : List Value} {a b a' b' : Nat} {d dk d1 : Array Nat} {W W' : World} (h : Pq w g n rest a b d a' b' W dk) (k : Now W g rest n W' d1) (p : PermIn a' b' dk d1) : Pq w g n rest a b d a' b' W' d1 :=
  ⟨h.now.then k, Sort.Below.perm h.bel (by rw [h.now.2.2]; exact h.sz) p, h.cont.perm p, h.sz⟩
theorem Pq.same {w : World} {g n : Nat} {rest : List Value} {a b a' b' : Nat} {d dk : Array Nat} {W W' : World} (h : Pq w g n rest a b d a' b' W dk) (f : Fr (fun _ => False) W W') : Pq w g n rest a b d a' b' W' dk :=
  ⟨⟨h.now.1.trans f (fun _ _ e => e.elim), h.now.2.1.fr f (fun e => e), h.now.2.2⟩, h.bel, h.cont, h.sz⟩
set_option maxRecDepth 100000 in
set_option maxHeartbeats 16000000 in
theorem pdq_n : ∀ (m : Nat) (w : World) (g c a b lim : Nat) (d : Array Nat) (rest : List Value), b - a < m → RowU w g d rest → a ≤ b → b ≤ d.size → d.size ≤ 1000000 → lim ≤ 64 → Sort.Below lt6 a b d →
    Calls Try.prog 38 #[.slice (some ⟨g, 0, none⟩) d.size c, .int .i64 a, .int .i64 b, .int .i64 lim] w fun e w' => e = .returned (.tuple #[]) ∧ ∃ d', (PermIn a b d d' ∧ SortedIn lt6 a b d') ∧ Now w g rest d.size w' d' := by
  intro m
  induction m with
  | zero => intro w g c a b lim d rest h; omega
  | succ m ih =>
    intro w g c a b lim d rest hm hR hab hb hsz hlim hBel
    have IH := Lib.hid ih
    clear ih
    obtain ⟨n, hn⟩ : ∃ n, d.size = n := ⟨_, rfl⟩
    have P0 : Hid (Pq w g n rest a b d a b w d) := ⟨hn ▸ Now.start hR, hBel, fun R h1 h2 => ⟨h1, h2⟩, hn ▸ hb⟩
    rw [hn] at hb hsz ⊢
    clear hR hn hBel
    go_enter Try.func38, Try.ntmps38
    go_wp2_with fail
    go_loopw [1, 2, 3, 8, 9] (fun va vb vl v8 v9 wr => ∃ (a' b' lim : Nat) (bal par : Bool) (dk : Array Nat), va = .int .i64 a' ∧ vb = .int .i64 b' ∧ vl = .int .i64 lim ∧ v8 = .bool bal ∧ v9 = .bool par ∧ a ≤ a' ∧ a' ≤ b' ∧ b' ≤ b ∧ lim ≤ 64 ∧ Hid (Pq w g n rest a b d a' b' wr dk)) (fun va vb _ _ _ _ => (intOf vb - intOf va).toNat)
    case atStart => exact ⟨a, b, lim, true, true, d, rfl, rfl, rfl, rfl, rfl, Nat.le_refl _, hab, Nat.le_refl _, hlim, P0⟩
    case round =>
      obtain ⟨a', b', lim, bal, par, dk, rfl, rfl, rfl, rfl, rfl, h1, h2, h3, hl, P1⟩ := hrel
      clear P0 hlim
      obtain ⟨l, el⟩ : ∃ l, l = b' - a' := ⟨_, rfl⟩
      have il : (b' : Int) - (a' : Int) = (l : Int) := by omega
      have el2 : a' + l = b' := by omega
      clear el
      by_cases h12 : l ≤ 12
      · have d12 : decide ((l : Int) ≤ 12) = true := decide_eq_true (by omega)
        have h := ins_c wr g c a' b' dk rest P1.out.now.2.1 h2 (by rw [P1.out.now.2.2]; exact P1.out.sz) (by rw [P1.out.now.2.2]; exact hsz)
        have hq := insertionSort_holds (lt := lt6) lt6_swo dk a' b' h2 (by rw [P1.out.now.2.2]; exact P1.out.sz)
        rw [P1.out.now.2.2] at h
        have HC := Lib.hid h
        have HQ := Lib.hid hq
        clear h hq
        go_wp2_with fail
        refine HC.out.mono ?_
        rintro e w2 ⟨rfl, n2⟩
        have P2 := Lib.hid (P1.out.perm n2 HQ.out.1)
        clear n2
        go_wp2_with fail
        refine bodyPost_ret (v := .tuple #[]) ?_ rfl ?_
        · simp [results, Try.results38]
        · exact ⟨rfl, _, P2.out.cont _ (permIn_refl _ _ _) HQ.out.2, P2.out.now⟩
      · have d12 : decide ((l : Int) ≤ 12) = false := decide_eq_false (by omega)
        by_cases hz : lim = 0
        · have hbz : ((lim : Int) == 0) = true := by rw [hz]; rfl
          have h := heap_c wr g c a' b' dk rest P1.out.now.2.1 (by omega) (by rw [P1.out.now.2.2]; exact P1.out.sz) (by rw [P1.out.now.2.2]; exact hsz)
          have hq := heapSort_holds (lt := lt6) lt6_swo dk a' b' h2 (by rw [P1.out.now.2.2]; exact P1.out.sz)
          rw [P1.out.now.2.2] at h
          have HC := Lib.hid h
          have HQ := Lib.hid hq
          clear h hq
          go_wp2_with fail
          refine HC.out.mono ?_
          rintro e w2 ⟨rfl, n2⟩
          have P2 := Lib.hid (P1.out.perm n2 HQ.out.1)
          clear n2
          go_wp2_with fail
          refine bodyPost_ret (v := .tuple #[]) ?_ rfl ?_
          · simp [results, Try.results38]
          · exact ⟨rfl, _, P2.out.cont _ (permIn_refl _ _ _) HQ.out.2, P2.out.now⟩
        · have hbz : ((lim : Int) == 0) = false := beq_eq_false_iff_ne.2 (by omega)
          go_upto_if 35 with fail
          go_cut [3] from 36 to 41 (fun v wx => ∃ (l2 : Nat) (d1 : Array Nat), v = .int .i64 l2 ∧ l2 ≤ 64 ∧ Hid (Pq w g n rest a b d a' b' wx d1))
          case first =>
            cases bal with
            | false =>
              have h := breakP_c wr g c a' b' dk rest P1.out.now.2.1 (by omega) (by rw [P1.out.now.2.2]; exact P1.out.sz) (by rw [P1.out.now.2.2]; exact hsz)
              rw [P1.out.now.2.2] at h
              have HC := Lib.hid h
              clear h
              go_wp2_with fail
              refine HC.out.mono ?_
              rintro e w2 ⟨rfl, d1, p1, n2⟩
              have P2 := Lib.hid (P1.out.perm n2 p1)
              clear n2 p1
              have i9 : (lim : Int) - 1 = ((lim - 1 : Nat) : Int) := by omega
              go_wp2_with fail
              go_meet
              exact ⟨lim - 1, d1, by first | rfl | (congr 1), by omega, P2⟩
            | true =>
              go_wp2_with fail
              go_meet
              exact ⟨lim, dk, rfl, hl, P1⟩
          case rest =>
            obtain ⟨lim2, d1, rfl, hl2, P2⟩ := hcut
            clear P1 hbz hz hl
            have h := choose_c wc g c a' b' d1 rest P2.out.now.2.1 (by omega) (by rw [P2.out.now.2.2]; exact P2.out.sz) (by rw [P2.out.now.2.2]; exact hsz)
            rw [P2.out.now.2.2] at h
            have HC := Lib.hid h
            clear h
            go_wp2_with fail
            refine HC.out.mono ?_
            rintro e w2 ⟨p, hh, rfl, hp1, hp2, hh2, f2⟩
            have P3 := Lib.hid (P2.out.same f2)
            clear f2 P2 HC
            go_upto_if 50 with fail
            go_cut [11, 12] from 51 to 60 (fun vp vh wx => ∃ (p h2 : Nat) (d2 : Array Nat), vp = .int .i64 p ∧ vh = .int .i64 h2 ∧ a' ≤ p ∧ p < b' ∧ h2 ≤ 2 ∧ Hid (Pq w g n rest a b d a' b' wx d2))
            case first =>
              by_cases hd : hh = 2
              · subst hd
                have h := rev_c w2 g c a' b' d1 rest P3.out.now.2.1 (by omega) (by rw [P3.out.now.2.2]; exact P3.out.sz) (by rw [P3.out.now.2.2]; exact hsz)
                rw [P3.out.now.2.2] at h
                have hq := reverseRange_holds (α := Nat) d1 a' b' h2 (by rw [P3.out.now.2.2]; exact P3.out.sz)
                have HC := Lib.hid h
                have HQ := Lib.hid hq
                clear h hq
                obtain ⟨x, ex⟩ : ∃ x, a' + x = p := ⟨p - a', by omega⟩
                obtain ⟨y, ey⟩ : ∃ y, y + 1 = b' := ⟨b' - 1, by omega⟩
                obtain ⟨p2, ep2⟩ : ∃ p2, p2 + x = y := ⟨y - x, by omega⟩
                have j1 : (p : Int) - (a' : Int) = (x : Int) := by omega
                have j2 : (b' : Int) - 1 = (y : Int) := by omega
                have j3 : (y : Int) - (x : Int) = (p2 : Int) := by omega
                have jj : a' ≤ p2 ∧ p2 < b' := by omega
                obtain ⟨jj1, jj2⟩ := jj
                have jb : p2 ≤ 1000000 ∧ y ≤ 1000000 ∧ x ≤ 1000000 := by have := P3.out.sz; omega
                obtain ⟨jb1, jb2, jb3⟩ := jb
                clear ex ey ep2
                go_wp2_with fail
                refine HC.out.mono ?_
                rintro e w3 ⟨rfl, n3⟩
                have P4 := Lib.hid (P3.out.perm n3 HQ.out)
                clear n3
                go_wp2_with fail
                go_meet
                exact ⟨p2, 1, _, by first | rfl | (congr 1), rfl, jj1, jj2, by omega, P4⟩
              · have hbd : ((hh : Int) == 2) = false := beq_eq_false_iff_ne.2 (by omega)
                go_wp2_with fail
                go_meet
                exact ⟨p, hh, d1, rfl, rfl, hp1, hp2, hh2, P3⟩
            case rest =>
              clear P3 hp1 hp2 hh2
              obtain ⟨p, h9, d2, rfl, rfl, hp1, hp2, hh2, P4⟩ := hcut
              go_upto_region 15 with fail
              go_cut [68] from 61 to 67 (fun v wx => ∃ X : Bool, v = .bool X ∧ Hid (Pq w g n rest a b d a' b' wx d2))
              case first =>
                by_cases hd : h9 = 1
                · have hbd : ((h9 : Int) == 1) = true := by rw [hd]; rfl
                  cases bal <;> cases par
                  all_goals go_wp2_with fail
                  all_goals go_meet
                  all_goals exact ⟨_, rfl, P4⟩
                · have hbd : ((h9 : Int) == 1) = false := beq_eq_false_iff_ne.2 (by omega)
                  cases bal <;> cases par
                  all_goals go_wp2_with fail
                  all_goals go_meet
                  all_goals exact ⟨_, rfl, P4⟩
              case rest =>
                clear P4
                obtain ⟨X, rfl, P4⟩ := hcut
                go_upto_if 68 with fail
                go_cut [] from 69 to 72 (fun wx => ∃ d3 : Array Nat, Hid (Pq w g n rest a b d a' b' wx d3))
                case first =>
                  cases X with
                  | true =>
                    have h := partI_c wc g c a' b' d2 rest P4.out.now.2.1 (by omega) (by rw [P4.out.now.2.2]; exact P4.out.sz) (by rw [P4.out.now.2.2]; exact hsz)
                    rw [P4.out.now.2.2] at h
                    have hq := partialInsertionSort_holds (lt := lt6) lt6_swo d2 a' b' (by omega) (by rw [P4.out.now.2.2]; exact P4.out.sz) P4.out.bel
                    have HC := Lib.hid h
                    have HQ := Lib.hid hq
                    clear h hq
                    go_wp2_with fail
                    refine HC.out.mono ?_
                    rintro e w3 ⟨rfl, n3⟩
                    have P5 := Lib.hid (P4.out.perm n3 HQ.out.1)
                    clear n3
                    cases hq : (partialInsertionSort lt6 d2 a' b').2 with
                    | true =>
                      go_wp2_with fail
                      refine bodyPost_ret (v := .tuple #[]) ?_ rfl ?_
                      · simp [results, Try.results38]
                      · exact ⟨rfl, _, P5.out.cont _ (permIn_refl _ _ _) (HQ.out.2 hq), P5.out.now⟩
                    | false =>
                      go_wp2_with fail
                      go_meet
                      exact ⟨_, P5⟩
                  | false =>
                    go_wp2_with fail
                    go_meet
                    exact ⟨_, P4⟩
                case rest =>
                  clear P4
                  obtain ⟨d3, P5⟩ := hcut
                  obtain ⟨C, hC⟩ : ∃ C, (decide (0 < a') && !lt6 d3[a' - 1]! d3[p]!) = C := ⟨_, rfl⟩
                  have HCC := Lib.hid hC
                  clear hC
                  go_upto_region 17 with fail
                  go_cut [87] from 73 to 86 (fun v wx => v = .bool C ∧ Hid (Pq w g n rest a b d a' b' wx d3))
                  case first =>
                    by_cases h0 : 0 < a'
                    · have hd0 : decide ((0 : Int) < (a' : Int)) = true := decide_eq_true (by omega)
                      obtain ⟨y, ey⟩ : ∃ y, y + 1 = a' := ⟨a' - 1, by omega⟩
                      have HY : Hid (a' - 1 = y) := by show a' - 1 = y; omega
                      have i7 : (a' : Int) - 1 = (y : Int) := by omega
                      have hsz2 := P5.out.sz
                      have k1 : (y : Int) < n := by omega
                      have k2 : (p : Int) < n := by omega
                      have l1 : y < n := by omega
                      have l2 : p < n := by omega
                      obtain ⟨G, hG⟩ : ∃ G : Nat → Nat, ∀ t, d3[t]! = G t := ⟨fun t => d3[t]!, fun _ => rfl⟩
                      have hcw := P5.out.now.cells
                      simp only [hG] at hcw
                      have HG := Lib.hid hG
                      clear hG ey hsz2
                      have HX : Hid ((!lt6 (G y) (G p)) = C) := by rw [← HCC.out, decide_eq_true h0, HG.out, HG.out, HY.out]; exact rfl
                      go_quiet (first | (go_at_call 47; refine Calls.quiet_of_same (less_c _ _ _)))
                      go_wp2_with fail
                      go_meet
                      exact ⟨by rw [← HX.out], P5.out.same ((Fr.refl _ _).drewN nq)⟩
                    · have hd0 : decide ((0 : Int) < (a' : Int)) = false := decide_eq_false (by omega)
                      have HX : Hid (false = C) := by rw [← HCC.out, decide_eq_false h0]; exact rfl
                      go_quiet (first | (go_at_call 47; refine Calls.quiet_of_same (less_c _ _ _)))
                      go_wp2_with fail
                      go_meet
                      exact ⟨by rw [← HX.out], P5.out.same ((Fr.refl _ _).drewN nq)⟩
                  case rest =>
                    clear P5
                    obtain ⟨rfl, P5⟩ := hcut
                    cases C with
                    | true =>
                      have hc := HCC.out
                      rw [Bool.and_eq_true] at hc
                      have h0 : 0 < a' := of_decide_eq_true hc.1
                      have hnl : lt6 d3[a' - 1]! d3[p]! = false := by have := hc.2; rwa [Bool.not_eq_true'] at this
                      have h := partE_c wc g c a' b' p d3 rest P5.out.now.2.1 hp1 hp2 (by rw [P5.out.now.2.2]; exact P5.out.sz) (by rw [P5.out.now.2.2]; exact hsz)
                      rw [P5.out.now.2.2] at h
                      obtain ⟨mid, d4, hx⟩ : ∃ mid d4, partitionEqual lt6 d3 a' b' p = (mid, d4) := ⟨_, _, rfl⟩
                      have hq := round_eq lt6_swo (partitionEqual_holds lt6) h0 hp1 hp2 (by rw [P5.out.now.2.2]; exact P5.out.sz) P5.out.bel hnl hx
                      rw [hx] at h
                      obtain ⟨q1, q2, q3, q4, q5⟩ := hq
                      have HC := Lib.hid h
                      have HQ := Lib.hid (And.intro q4 q5)
                      clear h hc hnl hx q3 q4 q5
                      go_wp2_with fail
                      refine HC.out.mono ?_
                      rintro e w3 ⟨rfl, n3⟩
                      have P6 : Hid (Pq w g n rest a b d mid b' w3 d4) := ⟨P5.out.now.then n3, HQ.out.1, fun R r1 r2 => by have := HQ.out.2 R r1 r2; exact P5.out.cont R this.1 this.2, P5.out.sz⟩
                      clear n3
                      go_wp2_with fail
                      go_roundw
                      case rel => exact ⟨mid, b', lim2, bal, par, d4, rfl, rfl, rfl, rfl, rfl, by omega, q2, h3, hl2, P6⟩
                      case measure => simp [intOf]; omega
                    | false =>
                      have h := part_c wc g c a' b' p d3 rest P5.out.now.2.1 hp1 hp2 (by rw [P5.out.now.2.2]; exact P5.out.sz) (by rw [P5.out.now.2.2]; exact hsz)
                      rw [P5.out.now.2.2] at h
                      obtain ⟨mid, ap, d4, hx⟩ : ∃ mid ap d4, partition lt6 d3 a' b' p = (mid, ap, d4) := ⟨_, _, _, rfl⟩
                      have hq := round_part lt6_swo (partition_holds lt6) hp1 hp2 (by rw [P5.out.now.2.2]; exact P5.out.sz) P5.out.bel hx
                      rw [hx] at h
                      obtain ⟨q1, q2, q3, q4, q5, q6, q7⟩ := hq
                      have HC := Lib.hid h
                      have HQ := Lib.hid (And.intro q4 (And.intro q5 (And.intro q6 q7)))
                      clear h hx q3 q4 q5 q6 q7
                      obtain ⟨x, ex⟩ : ∃ x, a' + x = mid := ⟨mid - a', by omega⟩
                      obtain ⟨y, ey⟩ : ∃ y, mid + y = b' := ⟨b' - mid, by omega⟩
                      have j1 : (mid : Int) - (a' : Int) = (x : Int) := by omega
                      have j2 : (b' : Int) - (mid : Int) = (y : Int) := by omega
                      obtain ⟨t, et⟩ : ∃ t, l / 8 = t := ⟨_, rfl⟩
                      have j3 : (l : Int) / 8 = (t : Int) := by omega
                      have EXY := Lib.hid (And.intro ex ey)
                      have hsz2 := P5.out.sz
                      have jb : x ≤ 1000000 ∧ y ≤ 1000000 ∧ l ≤ 1000000 := by omega
                      obtain ⟨jb1, jb2, jb3⟩ := jb
                      clear ex ey
                      go_wp2_with fail
                      refine HC.out.mono ?_
                      rintro e w3 ⟨rfl, n3⟩
                      have N3 := Lib.hid (P5.out.now.then n3)
                      clear n3
                      by_cases hxy : x < y
                      · have dxy : decide ((x : Int) < (y : Int)) = true := decide_eq_true (by omega)
                        have h := IH.out w3 g c a' mid lim2 d4 rest (by omega) N3.out.2.1 q1 (by rw [N3.out.2.2]; omega) (by rw [N3.out.2.2]; exact hsz) hl2 HQ.out.1
                        rw [N3.out.2.2] at h
                        have HP := Lib.hid h
                        clear h
                        go_wp2_with fail
                        refine HP.out.mono ?_
                        rintro e w4 ⟨rfl, L, hL, n4⟩
                        have r := HQ.out.2.2.1 L hL.1 hL.2
                        have P6 : Hid (Pq w g n rest a b d (mid + 1) b' w4 L) := ⟨N3.out.then n4, r.1, fun R r1 r2 => by have := r.2 R r1 r2; exact P5.out.cont R this.1 this.2, P5.out.sz⟩
                        clear n4 hL r
                        go_wp2_with fail
                        go_roundw
                        case rel => exact ⟨mid + 1, b', lim2, _, ap, L, by go_num, rfl, rfl, rfl, rfl, by omega, by omega, h3, hl2, P6⟩
                        case measure => simp [intOf]; omega
                      · have dxy : decide ((x : Int) < (y : Int)) = false := decide_eq_false (by omega)
                        obtain ⟨mid1, em⟩ : ∃ x, x = mid + 1 := ⟨_, rfl⟩
                        have i7 : (mid : Int) + 1 = (mid1 : Int) := by omega
                        have h := IH.out w3 g c mid1 b' lim2 d4 rest (by have := EXY.out; omega) N3.out.2.1 (by omega) (by rw [N3.out.2.2]; omega) (by rw [N3.out.2.2]; exact hsz) hl2 (by rw [em]; exact HQ.out.2.1)
                        rw [N3.out.2.2] at h
                        have HP := Lib.hid h
                        have EM := Lib.hid em
                        clear h em
                        go_wp2_with fail
                        refine HP.out.mono ?_
                        rintro e w4 ⟨rfl, L, hL, n4⟩
                        rw [EM.out] at hL
                        have r := HQ.out.2.2.2 L hL.1 hL.2
                        have P6 : Hid (Pq w g n rest a b d a' mid w4 L) := ⟨N3.out.then n4, r.1, fun R r1 r2 => by have := r.2 R r1 r2; exact P5.out.cont R this.1 this.2, by omega⟩
                        clear n4 hL r
                        go_wp2_with fail
                        go_roundw
                        case rel => exact ⟨a', mid, lim2, _, ap, L, rfl, rfl, rfl, rfl, rfl, h1, q1, by omega, hl2, P6⟩
                        case measure => simp [intOf]; omega
set_option maxRecDepth 100000 in
set_option maxHeartbeats 8000000 in
theorem sort_c (w : World) (g c : Nat) (d : Array Nat) (rest : List Value) (hR : RowU w g d rest) (hsz : d.size ≤ 1000000) :
    Calls Try.prog 35 #[.slice (some ⟨g, 0, none⟩) d.size c] w fun e w' => e = .returned (.tuple #[]) ∧ ∃ d', (PermIn 0 d.size d d' ∧ SortedIn lt6 0 d.size d') ∧ Now w g rest d.size w' d' := by
  obtain ⟨n, hn⟩ : ∃ n, d.size = n := ⟨_, rfl⟩
  have hL := len64_c (n : Int) w (by omega) (by omega)
  rw [Int.toNat_natCast] at hL
  have hb : Lib.bitLen n ≤ 20 := Lib.bitLen_le n 20 (by omega) (by omega)
  obtain ⟨L, hl⟩ : ∃ L, Lib.bitLen n = L := ⟨_, rfl⟩
  rw [hl] at hL hb
  have hw : IntKind.u64.wrap (n : Int) = (n : Int) := by rw [IntKind.wrap_u64]; omega
  have hLEN : Calls Try.prog 39 #[.int .u64 n] w fun e w' => e = .returned (.int .i64 L) ∧ w' = w := by
    have HL := Lib.hid hL
    clear hL
    go_enter Try.func39, Try.ntmps39
    go_wp2_with fail
    refine HL.out.mono ?_
    rintro e w1 ⟨rfl, hw1⟩
    rw [hw1]
    go_wp2_with fail
    go_ret
    exact ⟨rfl, rfl⟩
  have HL := Lib.hid hLEN
  have hP := pdq_n (n + 1) w g c 0 n L d rest (by omega) hR (Nat.zero_le _) (by omega) hsz (by omega) (.inl rfl)
  rw [hn] at hP ⊢
  have HP := Lib.hid hP
  clear hL hLEN hl hR hP hn
  go_enter Try.func35, Try.ntmps35
  go_wp2_with fail
  refine HL.out.mono ?_
  rintro e w1 ⟨rfl, hw1⟩
  rw [hw1]
  clear hw1 w1
  go_wp2_with fail
  refine HP.out.mono ?_
  rintro e w2 ⟨rfl, h⟩
  have H2 := Lib.hid h
  clear h
  go_wp2_with fail
  go_end0
  exact ⟨rfl, H2.out⟩
end Go.Proofs.Ytpgklhbbjbdejaa
