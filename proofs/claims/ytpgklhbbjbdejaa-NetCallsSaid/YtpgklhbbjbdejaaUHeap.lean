/-
  CONTRACTS of heapSortOrdered at uint64. Written by gen_u1.py.
-/
import Derived.Test.YtpgklhbbjbdejaaUSift
import Derived.Deep.CutRange
namespace Go.Proofs.Ytpgklhbbjbdejaa
set_option linter.unusedSimpArgs false
set_option linter.unusedVariables false
open Go Go.RowKit Go.Sort

theorem Now.sift_ {w wr : World} {g n c lo hi first : Nat} {d : Array Nat} {rest : List Value} (h : Now w g rest n wr d) (hb : first + hi ≤ n) (hlo : lo ≤ hi) (hsz : n ≤ 1000000) :
    Calls Try.prog 52 #[.slice (some ⟨g, 0, none⟩) n c, .int .i64 lo, .int .i64 hi, .int .i64 first] wr fun e w' => e = .returned (.tuple #[]) ∧ Now w g rest n w' (siftDown lt6 hi first lo d) := by
  have := sift_c wr g c lo hi first d rest h.2.1 (by rw [h.2.2]; exact hb) hlo (by rw [h.2.2]; exact hsz)
  rw [h.2.2] at this
  exact this.mono fun e w' k => ⟨k.1, h.then k.2⟩
set_option maxRecDepth 100000 in
set_option maxHeartbeats 2000000 in
theorem heap_c (w : World) (g c a b : Nat) (d : Array Nat) (rest : List Value) (hR : RowU w g d rest) (hab : a < b) (hb : b ≤ d.size) (hsz : d.size ≤ 1000000) :
    Calls Try.prog 42 #[.slice (some ⟨g, 0, none⟩) d.size c, .int .i64 a, .int .i64 b] w fun e w' => e = .returned (.tuple #[]) ∧ Now w g rest d.size w' (heapSort lt6 d a b) := by
  obtain ⟨n, hn⟩ : ∃ n, d.size = n := ⟨_, rfl⟩
  have H0 : Hid (Now w g rest n w d) := hn ▸ Now.start hR
  rw [hn] at hb hsz ⊢
  clear hR hn
  obtain ⟨hi, eh⟩ : ∃ hi, hi = b - a := ⟨_, rfl⟩
  have i0 : (b : Int) - (a : Int) = (hi : Int) := by omega
  obtain ⟨k0, ek⟩ : ∃ k0, k0 = (hi - 1) / 2 := ⟨_, rfl⟩
  obtain ⟨hm, em⟩ : ∃ hm, hm = hi - 1 := ⟨_, rfl⟩
  have i1 : (hi : Int) - 1 = (hm : Int) := by omega
  have i2 : (hm : Int) / 2 = (k0 : Int) := by omega
  have i4 : hm / 2 = k0 := by omega
  have hh : heapSort lt6 d a b = heapPop lt6 a hi (heapBuild lt6 hi a (k0 + 1) d) := by unfold heapSort; rw [eh, ek, eh]
  rw [hh]
  have h1 : a + hi ≤ n := by omega
  have h2 : k0 + 1 ≤ hi := by omega
  have h3 : a < n := by omega
  clear hh eh ek em hab hb
  go_enter Try.func42, Try.ntmps42
  go_wp2_with fail
  go_loopw [9] (fun vi wr => ∃ (k : Nat) (dk : Array Nat), vi = .int .i64 ((k : Int) - 1) ∧ k ≤ k0 + 1 ∧ Hid (Now w g rest n wr dk) ∧ Hid (heapBuild lt6 hi a k dk = heapBuild lt6 hi a (k0 + 1) d)) (fun vi _ => ((intOf vi) + 1).toNat)
  case atStart => exact ⟨k0 + 1, d, by go_num, Nat.le_refl _, H0, rfl⟩
  case round =>
    obtain ⟨k, dk, rfl, hk, N1, HS⟩ := hrel
    clear H0
    cases k with
    | succ k =>
      have e1 : ((k + 1 : Nat) : Int) - 1 = (k : Int) := by omega
      rw [e1]
      clear e1
      have q1 : a + hi ≤ n := by omega
      have q2 : k ≤ hi := by omega
      have HSF := Lib.hid (Now.sift_ (c := c) N1.out q1 q2 hsz)
      clear q1 q2 i0 i1 i2 i4
      go_wp2_with fail
      refine HSF.out.mono ?_
      rintro e w2 ⟨rfl, n2⟩
      have N2 := Lib.hid n2
      clear n2
      go_wp2_with fail
      go_roundw
      case rel => exact ⟨k, siftDown lt6 hi a k dk, by go_num, by omega, N2, by rw [← HS.out]; rfl⟩
      case measure => simp [intOf]
    | zero =>
      have e1 : ((0 : Nat) : Int) - 1 = -1 := rfl
      rw [e1]
      clear e1
      have HB : Hid (dk = heapBuild lt6 hi a (k0 + 1) d) := HS.out
      clear HS
      obtain ⟨d0, hd0⟩ : ∃ d0, dk = d0 := ⟨_, rfl⟩
      subst hd0
      go_wp2_with fail
      go_loopw [10] (fun vi wr => ∃ (k : Nat) (dj : Array Nat), vi = .int .i64 ((k : Int) - 1) ∧ k ≤ hi ∧ Hid (Now w g rest n wr dj) ∧ Hid (heapPop lt6 a k dj = heapPop lt6 a hi dk)) (fun vi _ => ((intOf vi) + 1).toNat)
      case atStart => exact ⟨hi, dk, by go_num, Nat.le_refl _, N1, rfl⟩
      case round =>
        obtain ⟨k, dj, rfl, hk2, N2, HS⟩ := hrel
        clear N1
        cases k with
        | succ k =>
          have e2 : ((k + 1 : Nat) : Int) - 1 = (k : Int) := by omega
          rw [e2]
          clear e2 i0 i1 i2 i4
          obtain ⟨p, ep⟩ : ∃ p, p = a + k := ⟨_, rfl⟩
          have i3 : (a : Int) + (k : Int) = (p : Int) := by omega
          have k1 : (p : Int) < n := by omega
          have k2 : (a : Int) < n := by omega
          have l1 : p < n := by omega
          have l2 : a < n := by omega
          have lz : a = p → k = 0 := fun h => by omega
          have LZ := Lib.hid lz
          have EP := Lib.hid ep
          clear ep lz
          obtain ⟨G, hG⟩ : ∃ G : Nat → Nat, ∀ t, dj[t]! = G t := ⟨fun t => dj[t]!, fun _ => rfl⟩
          have hcw := N2.out.cells
          have hfw := N2.out.froz
          simp only [hG] at hcw
          have HG := Lib.hid hG
          clear hG
          go_wp2_with fail
          go_cut [] from 33 to 50 (fun wx => Hid (Now w g rest n wx (swp dj a p)))
          case first =>
            by_cases hxy : a = p
            · have hk0 : k = 0 := LZ.out hxy
              subst hk0
              subst hxy
              go_region
              all_goals go_wp2_with fail
              all_goals go_meet
              all_goals exact (by have h := (N2.out.drew).swp (i := a) (j := a) l2 l1; simp only [HG.out] at h; exact h)
            · have n1 : ¬ (a = p) := hxy
              have n2 : ¬ (p = a) := fun h => hxy h.symm
              clear hxy
              go_region
              all_goals go_wp2_with fail
              all_goals go_meet
              all_goals exact (by have h := (N2.out.drew).swp (i := a) (j := p) l2 l1; simp only [HG.out] at h; exact h)
          case rest =>
           have N3 := hcut
           clear hcut
           have q1 : a + k ≤ n := by omega
           have HSF := Lib.hid (Now.sift_ (c := c) (w := w) N3.out q1 (Nat.zero_le k) hsz)
           clear q1
           go_wp2_with fail
           refine HSF.out.mono ?_
           rintro e w4 ⟨rfl, n4⟩
           have N4 := Lib.hid n4
           clear n4
           go_wp2_with fail
           go_roundw
           case rel => exact ⟨k, siftDown lt6 k a 0 (swp dj a p), by go_num, by omega, N4, by rw [← HS.out, EP.out]; exact rfl⟩
           case measure => simp [intOf]
        | zero =>
          go_wp2_with fail
          go_end0
          refine ⟨rfl, ?_⟩
          have h0 : dj = heapPop lt6 a hi dk := HS.out
          rw [← HB.out, ← h0]
          exact N2.out
end Go.Proofs.Ytpgklhbbjbdejaa
