/-
  THE WALK OF 'tidewracklaw02.CodeAgain': what any items write is read again by the same calls; of a beginning of it, as much as stands there whole.
-/
import Derived.Test.YtokhebplmldfkaaItem3
namespace Go.Proofs.Ytokhebplmldfkaa
set_option linter.unusedSimpArgs false
set_option linter.unusedVariables false
open Go Go.RowKit

def encAll (ts : List It) : List UInt8 := (ts.map encItem).flatten
theorem encAll_split (ts : List It) (k : Nat) : encAll ts = encAll (ts.take k) ++ encAll (ts.drop k) := by
  unfold encAll
  rw [← List.flatten_append, ← List.map_append, List.take_append_drop]
theorem encAll_succ (ts : List It) (k : Nat) (h : k < ts.length) : encAll (ts.take (k + 1)) = encAll (ts.take k) ++ encItem ts[k] := by
  unfold encAll
  rw [List.take_succ_eq_append_getElem h, List.map_append, List.flatten_append, List.map_cons, List.map_nil, List.flatten_cons, List.flatten_nil, List.append_nil]
theorem encAll_drop (ts : List It) (k : Nat) (h : k < ts.length) : encAll (ts.drop k) = encItem ts[k] ++ encAll (ts.drop (k + 1)) := by
  unfold encAll
  rw [List.drop_eq_getElem_cons h, List.map_cons, List.flatten_cons]
theorem encAll_at (ts : List It) (k : Nat) (h : k < ts.length) : (encAll ts).drop (encAll (ts.take k)).length = encItem ts[k] ++ encAll (ts.drop (k + 1)) := by
  rw [← encAll_drop ts k h]
  conv => lhs; arg 2; rw [encAll_split ts k]
  exact List.drop_left
theorem encAll_le : ∀ (ts : List It), (encAll ts).length ≤ 24 * (ts.map fun t => 1 + t.s.size / 16).sum
  | [] => by simp [encAll]
  | t :: r => by
    have h1 := encItem_le t
    have h2 := encAll_le r
    have : encAll (t :: r) = encItem t ++ encAll r := by simp [encAll]
    rw [this, List.length_append, List.map_cons, List.sum_cons]
    omega
theorem weigh_mem : ∀ (ts : List It) (t : It), t ∈ ts → 1 + t.s.size / 16 ≤ (ts.map fun t => 1 + t.s.size / 16).sum
  | [], _, h => by cases h
  | a :: r, t, h => by
    rw [List.map_cons, List.sum_cons]
    rcases List.mem_cons.1 h with rfl | h
    · omega
    · have := weigh_mem r t h
      omega
theorem short_all {ts : List It} (h : long ts = false) : (encAll ts).length ≤ 48000 ∧ ∀ t ∈ ts, t.s.size ≤ 32000 := by
  have h1 := longAt_false ts 0 h (by omega)
  have h2 := encAll_le ts
  refine ⟨by omega, fun t ht => ?_⟩
  have h3 := weigh_mem ts t ht
  omega

/-- A read that finds too little, or comes behind a fault. -/
theorem read_part (w : World) (b : Nat) (v : Value) (l : List UInt8) (p : Nat) (f : Bool) (t : It) (ht : t.Ok) (h : Rr w b v l p f) (hf : f = true ∨ rdItem t (l.drop p) = none) :
    Calls Try.prog 19 #[.pointer (some ⟨b, 0, none⟩), t.val] w fun e w' => e = .returned (.tuple #[.int .u64 0, .string ⟨#[]⟩]) ∧ Rr w' b v l p true ∧ Fr (fun k => k = b) w w' := by
  cases f with
  | true =>
    refine (read_bad w _ t ht (err_bad w b v l p h)).mono ?_
    rintro e w' ⟨rfl, f1⟩
    exact ⟨rfl, h.fr f1 (fun h => h) (fun _ _ h => h), f1.mono (fun _ _ h => h.elim)⟩
  | false =>
    rcases hf with hf | hf
    · cases hf
    refine (read_c w b v l p t ht h).mono ?_
    rintro e w' ⟨f1, ⟨x, s, n, hr, rfl, h1⟩ | ⟨hr, rfl, h1⟩⟩
    · rw [hf] at hr
      cases hr
    · exact ⟨rfl, h1, f1⟩
/-- A read that finds a whole one. -/
theorem read_whole (w : World) (b : Nat) (v : Value) (l : List UInt8) (p : Nat) (t : It) (ht : t.Ok) (h : Rr w b v l p false) (x : Nat) (s : List UInt8) (n : Nat) (hr : rdItem t (l.drop p) = some ((x, s), n)) :
    Calls Try.prog 19 #[.pointer (some ⟨b, 0, none⟩), t.val] w fun e w' => e = .returned (.tuple #[.int .u64 (x : Int), .string (strOf s)]) ∧ Rr w' b v l (p + n) false ∧ Fr (fun k => k = b) w w' := by
  refine (read_c w b v l p t ht h).mono ?_
  rintro e w' ⟨f1, ⟨x1, s1, n1, h2, rfl, h1⟩ | ⟨h2, rfl, h1⟩⟩
  · rw [hr] at h2
    injection h2 with h2
    injection h2 with h2 h3
    injection h2 with h4 h5
    subst h3 h4 h5
    exact ⟨rfl, h1, f1⟩
  · rw [hr] at h2
    cases h2
theorem It.Ok.self {t : It} (h : t.Ok) : t.self.Ok := by
  have := h.s1
  unfold maxLen at this
  exact ⟨h.k0, h.k1, by unfold It.self; simp only; omega, by unfold It.self; simp only; omega, h.x1, h.s1⟩
/-- What the second Reader is at: the same place, while that lies in its beginning; else it has failed. -/
def Half (w3 : World) (b5 : Nat) (v5 : Value) (l : List UInt8) (I P : Nat) (wr : World) : Prop :=
  ∃ q f, RN w3 b5 v5 (l.take I) q f wr ∧ (f = true ∧ I < P ∨ f = false ∧ q = P)

theorem read_item (w : World) (b : Nat) (v : Value) (l : List UInt8) (p : Nat) (t : It) (ht : t.Ok) (h : Rr w b v l p false) (hd : ∃ r, l.drop p = encItem t ++ r) (V : Int) (S : ByteArray) (hV : ((itemGives t).1 : Int) = V) (hS : strOf (itemGives t).2 = S) :
    Calls Try.prog 19 #[.pointer (some ⟨b, 0, none⟩), t.self.val] w fun e w' => e = .returned (.tuple #[.int .u64 V, .string S]) ∧ Rr w' b v l (p + (encItem t).length) false ∧ Fr (fun k => k = b) w w' := by
  obtain ⟨r, hd⟩ := hd
  have := read_whole w b v l p t.self ht.self h (itemGives t).1 (itemGives t).2 (encItem t).length (by rw [hd]; exact rdItem_enc t ht r)
  rw [hV, hS] at this
  exact this
theorem Half.whole {w3 wr : World} {b5 : Nat} {v5 : Value} {l : List UInt8} {I P P' : Nat} (h : Half w3 b5 v5 l I P wr) (hp : P ≤ P') (hi : P' ≤ I) : RN w3 b5 v5 (l.take I) P false wr := by
  obtain ⟨q, f, h, ⟨rfl, h1⟩ | ⟨rfl, rfl⟩⟩ := h
  · omega
  · exact h
theorem take_whole {l : List UInt8} {I P : Nat} {t : It} (hd : ∃ r, l.drop P = encItem t ++ r) (hi : P + (encItem t).length ≤ I) : ∃ r, (l.take I).drop P = encItem t ++ r := by
  obtain ⟨r, hd⟩ := hd
  rw [List.drop_take, hd, List.take_append, List.take_of_length_le (by omega)]
  exact ⟨_, rfl⟩
theorem Half.part {w3 wr : World} {b5 : Nat} {v5 : Value} {l : List UInt8} {I P : Nat} {t : It} (ht : t.Ok) (h : Half w3 b5 v5 l I P wr) (hd : ∃ r, l.drop P = encItem t ++ r) (hi : I < P + (encItem t).length) :
    ∃ q f, RN w3 b5 v5 (l.take I) q f wr ∧ (f = true ∨ rdItem t.self ((l.take I).drop q) = none) := by
  obtain ⟨r, hd⟩ := hd
  obtain ⟨q, f, h, ⟨rfl, h1⟩ | ⟨rfl, rfl⟩⟩ := h
  · exact ⟨q, true, h, .inl rfl⟩
  · refine ⟨q, false, h, .inr ?_⟩
    have := h.rr.2.2.1
    rw [List.length_take] at this
    rw [List.drop_take, hd]
    exact rdItem_cut t ht r _ (by omega)
theorem rerr_ok (w : World) (b : Nat) (v : Value) (l : List UInt8) (p : Nat) (h : Rr w b v l p false) :
    Calls Try.prog 22 #[.pointer (some ⟨b, 0, none⟩)] w fun e w' => e = .returned (.int .i64 0) ∧ w = w' := rerr_c w b v l p false h
theorem rerr_bad (w : World) (b : Nat) (v : Value) (l : List UInt8) (p : Nat) (h : Rr w b v l p true) :
    Calls Try.prog 22 #[.pointer (some ⟨b, 0, none⟩)] w fun e w' => e = .returned (.int .i64 2) ∧ w = w' := rerr_c w b v l p true h
theorem Half.by {w3 wr wj : World} {b5 : Nat} {v5 : Value} {l : List UInt8} {I P : Nat} {fp : Nat → Prop} (h : Half w3 b5 v5 l I P wr) (hf : Fr fp wr wj) (h0 : ∀ k, k < w3.heap.size → ¬ fp k) (h1 : ¬ fp b5) (h2 : ∀ k, v5.ownBlock = some k → ¬ fp k) : Half w3 b5 v5 l I P wj := by
  obtain ⟨q, f, h, h3⟩ := h
  exact ⟨q, f, h.by hf h0 h1 h2, h3⟩

set_option maxRecDepth 100000 in
set_option maxHeartbeats 4000000 in
theorem codeAgain_c (w : World) (A : Option Addr) (n c : Nat) (cut : Int) (hc0 : -9223372036854775808 ≤ cut) (hc1 : cut ≤ 9223372036854775807) (ts : List It) (hr : RdI w A n ts) (hok : ∀ t ∈ ts, t.Ok) (hn : n ≤ 9223372036854775807) :
    Calls Try.prog 6 #[.slice A n c, .int .i64 cut] w fun e w' => e = .returned (.bool true) ∧ Fr (fun _ => False) w w' := by
  have hlc := long_c w A n c ts hr hok hn
  have LC := Lib.hid hlc
  have HR := Lib.hid hr
  have HOK := Lib.hid hok
  clear hlc hr hok
  cases hlong : long ts with
  | true =>
    rw [hlong] at LC
    clear hlong
    go_enter Try.func6, Try.ntmps6
    go_wp2_with fail
    refine LC.out.mono ?_
    rintro e w1 ⟨rfl, rfl⟩
    go_wp2_with fail
    refine (awake_c _).mono ?_
    rintro e w1 ⟨rfl, f1⟩
    have F1 := Lib.hid f1
    clear f1
    go_wp2_with fail
    go_ret
    exact ⟨rfl, F1.out⟩
  | false =>
    have hsh := short_all hlong
    rw [hlong] at LC
    have SH := Lib.hid hsh
    clear hlong hsh
    go_enter Try.func6, Try.ntmps6
    go_wp2_with fail
    refine LC.out.mono ?_
    rintro e w1 ⟨rfl, rfl⟩
    go_wp2_with fail
    refine (newWriter_n _).mono ?_
    rintro e w1 ⟨b, v, rfl, h1⟩
    have H1 := Lib.hid h1
    clear h1
    go_wp2_with fail
    go_loopw [6] (fun i wr => ∃ (k : Nat), k ≤ n ∧ i = .int .i64 k ∧ Hid (∃ v', WN w b v' (encAll (ts.take k)) wr)) (fun i _ => n - (intOf i).toNat)
    case atStart => exact ⟨0, Nat.zero_le _, rfl, v, H1.out⟩
    case round =>
      obtain ⟨k, hk, rfl, hv⟩ := hrel
      by_cases hlt : k < n
      · obtain ⟨v', hv1⟩ := hv.out
        have HV := Lib.hid hv1
        clear hv hv1
        have ra := HR.out.far HV.out.fr
        obtain ⟨a, off, rfl, hc⟩ := ra.2 (by omega)
        have hkl : k < ts.length := by rw [HR.out.1]; exact hlt
        obtain ⟨c0, c1, c2, c3⟩ := hc k hkl
        have hOK := HOK.out ts[k] (List.getElem_mem _)
        have hsz := SH.out.2 ts[k] (List.getElem_mem _)
        have hsu := encAll_succ ts k hkl
        have hsp := encAll_split ts k
        generalize ts[k] = t at *
        have OK := Lib.hid hOK
        have SU := Lib.hid hsu
        have SP := Lib.hid hsp
        clear hc ra hOK hsu hsp
        go_wp2_with fail
        refine (write_c _ b v' _ t OK.out HV.out.wr ?_).mono ?_
        · have h1 := congrArg List.length SP.out
          rw [List.length_append] at h1
          have := SH.out.1
          omega
        rintro e w2 ⟨rfl, h2⟩
        rw [← SU.out] at h2
        obtain ⟨v2, h2, _⟩ := HV.out.step h2
        have H2 := Lib.hid h2
        clear h2
        go_wp2_with fail
        exact ⟨⟨k + 1, hlt, by go_num, v2, H2.out⟩, by simp [intOf]; omega⟩
      · obtain rfl : k = n := by omega
        obtain ⟨v', hv1⟩ := hv.out
        rw [List.take_of_length_le (by rw [HR.out.1]; exact Nat.le_refl _)] at hv1
        have HV := Lib.hid hv1
        clear hv hv1
        go_wp2_with fail
        refine (wbytes_c _ b v' _ HV.out.wr (by have := SH.out.1; omega)).mono ?_
        rintro e w3 ⟨v3, rfl, h3, f3⟩
        obtain ⟨L, hL⟩ : ∃ L, (encAll ts).length = L := ⟨_, rfl⟩
        rw [hL] at h3
        have hL2 := SH.out.1
        rw [hL] at hL2
        have HL := Lib.hid hL
        clear hL
        obtain ⟨A3, c3, rfl, hc30, hc31⟩ := own_slice h3
        have R3 := Lib.hid (Rd.of_own h3)
        have F3 := Lib.hid (HV.out.fr.trans f3 (fun _ _ h => h))
        clear h3 f3
        go_wp2_with fail
        refine (newReader_n _ _ _ _ _ R3.out (by omega)).mono ?_
        rintro e w4 ⟨b4, v4, rfl, h4⟩
        have H4 := Lib.hid h4
        clear h4
        obtain ⟨I, hI⟩ : ∃ I : Nat, max 0 cut % ((L : Int) + 1) = I := ⟨(max 0 cut % ((L : Int) + 1)).toNat, by have := Int.emod_nonneg (max 0 cut) (show ((L : Int) + 1) ≠ 0 by omega); omega⟩
        have hI2 : I < L + 1 := by have := Int.emod_lt_of_pos (max 0 cut) (show (0 : Int) < (L : Int) + 1 by omega); omega
        go_wp2_with fail
        refine (newReader_n _ _ _ _ ((encAll ts).take I) (by rw [bv_take]; exact (R3.out.far H4.out.fr).take (by omega)) (by omega)).mono ?_
        rintro e w5 ⟨b5, v5, rfl, h5⟩
        have H5 := Lib.hid h5
        clear h5
        go_wp2_with fail
        have D : Hid (b4 ≠ b5 ∧ (∀ j, v5.ownBlock = some j → j ≠ b4) ∧ ∀ j, v4.ownBlock = some j → j ≠ b5) := by
          have h1 := H4.out.rr.1.lt
          have h2 := H5.out.b0
          exact ⟨by omega, fun j hj => by have := H5.out.v0 j hj; omega, fun j hj => by have := (H4.out.rr.2.1.lt j hj).2; omega⟩
        go_loopw [11] (fun i wr => ∃ (j : Nat), j ≤ k ∧ i = .int .i64 j ∧ Hid (RN w3 b4 v4 (encAll ts) (encAll (ts.take j)).length false wr ∧ Half w3 b5 v5 (encAll ts) I (encAll (ts.take j)).length wr)) (fun i _ => k - (intOf i).toNat)
        case atStart => exact ⟨0, Nat.zero_le _, rfl, H4.out.far H5.out.fr, 0, false, RN.later H4.out.fr H5.out, .inr ⟨rfl, rfl⟩⟩
        case round =>
          obtain ⟨j, hj, rfl, hst⟩ := hrel
          by_cases hlt : j < k
          · have ra := HR.out.far (F3.out.trans hst.out.1.fr (fun _ _ h => h))
            obtain ⟨a, off, rfl, hc⟩ := ra.2 (by omega)
            have hkl : j < ts.length := by rw [HR.out.1]; exact hlt
            obtain ⟨c0, c1, c2, c3⟩ := hc j hkl
            have hOK := HOK.out ts[j] (List.getElem_mem _)
            have hsu := encAll_succ ts j hkl
            have hat := encAll_at ts j hkl
            generalize ts[j] = t at *
            have hk : t.kind % 5 = 0 ∨ t.kind % 5 = 1 ∨ t.kind % 5 = 2 ∨ t.kind % 5 = 3 ∨ t.kind % 5 = 4 := by omega
            have hd : ∃ r, (encAll ts).drop (encAll (ts.take j)).length = encItem t ++ r := ⟨_, hat⟩
            obtain ⟨P', hP⟩ : ∃ P', P' = (encAll (ts.take (j + 1))).length := ⟨_, rfl⟩
            have hPN : P' = (encAll (ts.take j)).length + (encItem t).length := by rw [hP, hsu, List.length_append]
            clear hat hsu hc ra
            generalize (encAll (ts.take j)).length = P at *
            have OK := Lib.hid hOK
            have HD := Lib.hid hd
            have HP := Lib.hid hP
            have HPN := Lib.hid hPN
            have hx1 := hOK.x1
            clear hOK hd hP hPN
            rcases hk with hk | hk | hk | hk | hk
            · have g1 : (((itemGives t).1 : Nat) : Int) = (t.x : Int) % 256 := by unfold itemGives; rw [if_pos hk]; simp only; omega
              have g2 : strOf (itemGives t).2 = ⟨#[]⟩ := by unfold itemGives; rw [if_pos hk]; rfl
              have G1 := Lib.hid g1
              have G2 := Lib.hid g2
              have HK := Lib.hid hk
              clear g1 g2 hk
              go_wp2_with fail
              have xb := Blk.new wr 31 #[.int .i64 t.kind, .int .i64 (t.s.size : Int), .int .u64 (t.x : Int), .string t.s]
              refine (read_item _ b4 v4 _ P t OK.out (hst.out.1.alloc _).rr HD.out _ _ G1.out G2.out).mono ?_
              rintro e w6 ⟨rfl, r6, f6⟩
              have R6 := Lib.hid ((hst.out.1.alloc _).step f6 r6)
              have S6 := Lib.hid ((hst.out.2.by ((Fr.refl (fun _ => False) wr).alloc _) (fun _ _ h => h) (fun h => h) (fun _ _ h => h)).by f6 (fun i hi e => by have := H4.out.b0; omega) (fun e => D.out.1 e.symm) (fun i hi e => D.out.2.1 i hi e))
              have xb6 := xb.fr f6 (fun e => by have := hst.out.1.rr.1.lt; omega)
              have XB := Lib.hid xb6
              have e0 := xb6.cell 0
              have e1 := xb6.cell 1
              have e2 := xb6.cell 2
              have e3 := xb6.cell 3
              clear xb xb6 f6 r6
              go_wp2_with fail
              refine (kind_c w6 t.self OK.out.self).mono ?_
              rintro e w7 ⟨rfl, f7⟩
              rw [show t.self.kind = t.kind from rfl, HK.out]
              have R7 := Lib.hid (R6.out.far f7)
              have S7 := Lib.hid (S6.out.by f7 (fun _ _ h => h) (fun h => h) (fun _ _ h => h))
              have xb7 := XB.out.fr f7 (fun h => h)
              have e0 := xb7.cell 0
              have e1 := xb7.cell 1
              have e2 := xb7.cell 2
              have e3 := xb7.cell 3
              clear f7 xb7
              go_wp2_with fail
              refine (rerr_ok _ b4 v4 _ _ R7.out.rr).mono ?_
              rintro e w8 ⟨rfl, rfl⟩
              go_wp2_with fail
              by_cases hI3 : P' ≤ I
              · have hw := S7.out.whole (P' := P') (by rw [HPN.out]; omega) hI3
                refine (read_item _ b5 v5 _ P t OK.out hw.rr (take_whole HD.out (by rw [← HPN.out]; exact hI3)) _ _ G1.out G2.out).mono ?_
                rintro e w9 ⟨rfl, r9, f9⟩
                rw [← HPN.out] at r9
                have S9 := Lib.hid (hw.step f9 r9)
                have R9 := Lib.hid (R7.out.by f9 (fun i hi e => by have := H5.out.b0; have := H4.out.fr.size; omega) D.out.1 (fun i hi e => D.out.2.2 i hi e))
                rw [← HPN.out] at R9
                clear f9 r9 hw
                go_wp2_with fail
                refine (at_c _ b4 v4 _ _ _ R9.out.rr).mono ?_
                rintro e w10 ⟨rfl, rfl⟩
                go_wp2_with fail
                refine (at_c _ b5 v5 _ _ _ S9.out.rr).mono ?_
                rintro e w10 ⟨rfl, rfl⟩
                go_wp2_with fail
                refine (at_c _ b4 v4 _ _ _ R9.out.rr).mono ?_
                rintro e w10 ⟨rfl, rfl⟩
                go_wp2_with fail
                refine (at_c _ b4 v4 _ _ _ R9.out.rr).mono ?_
                rintro e w10 ⟨rfl, rfl⟩
                go_wp2_with fail
                exact ⟨⟨j + 1, hlt, by go_num, by rw [← HP.out]; exact ⟨R9.out, P', false, S9.out, .inr ⟨rfl, rfl⟩⟩⟩, by simp [intOf]; omega⟩
              · obtain ⟨q, f, hw, hf⟩ := S7.out.part OK.out HD.out (by rw [← HPN.out]; omega)
                refine (read_part _ b5 v5 _ q f t.self OK.out.self hw.rr hf).mono ?_
                rintro e w9 ⟨rfl, r9, f9⟩
                have S9 := Lib.hid (hw.step f9 r9)
                have R9 := Lib.hid (R7.out.by f9 (fun i hi e => by have := H5.out.b0; have := H4.out.fr.size; omega) D.out.1 (fun i hi e => D.out.2.2 i hi e))
                rw [← HPN.out] at R9
                clear f9 r9 hw hf
                go_wp2_with fail
                refine (at_c _ b4 v4 _ _ _ R9.out.rr).mono ?_
                rintro e w10 ⟨rfl, rfl⟩
                go_wp2_with fail
                refine (at_c _ b4 v4 _ _ _ R9.out.rr).mono ?_
                rintro e w10 ⟨rfl, rfl⟩
                go_wp2_with fail
                refine (rerr_bad _ b5 v5 _ _ S9.out.rr).mono ?_
                rintro e w10 ⟨rfl, rfl⟩
                go_wp2_with fail
                exact ⟨⟨j + 1, hlt, by go_num, by rw [← HP.out]; exact ⟨R9.out, q, true, S9.out, .inl ⟨rfl, by omega⟩⟩⟩, by simp [intOf]; omega⟩
            · have g1 : (((itemGives t).1 : Nat) : Int) = (t.x : Int) % 4294967296 := by unfold itemGives; rw [if_neg (by omega), if_pos hk]; simp only; omega
              have g2 : strOf (itemGives t).2 = ⟨#[]⟩ := by unfold itemGives; rw [if_neg (by omega), if_pos hk]; rfl
              have G1 := Lib.hid g1
              have G2 := Lib.hid g2
              have HK := Lib.hid hk
              clear g1 g2 hk
              go_wp2_with fail
              have xb := Blk.new wr 31 #[.int .i64 t.kind, .int .i64 (t.s.size : Int), .int .u64 (t.x : Int), .string t.s]
              refine (read_item _ b4 v4 _ P t OK.out (hst.out.1.alloc _).rr HD.out _ _ G1.out G2.out).mono ?_
              rintro e w6 ⟨rfl, r6, f6⟩
              have R6 := Lib.hid ((hst.out.1.alloc _).step f6 r6)
              have S6 := Lib.hid ((hst.out.2.by ((Fr.refl (fun _ => False) wr).alloc _) (fun _ _ h => h) (fun h => h) (fun _ _ h => h)).by f6 (fun i hi e => by have := H4.out.b0; omega) (fun e => D.out.1 e.symm) (fun i hi e => D.out.2.1 i hi e))
              have xb6 := xb.fr f6 (fun e => by have := hst.out.1.rr.1.lt; omega)
              have XB := Lib.hid xb6
              have e0 := xb6.cell 0
              have e1 := xb6.cell 1
              have e2 := xb6.cell 2
              have e3 := xb6.cell 3
              clear xb xb6 f6 r6
              go_wp2_with fail
              refine (kind_c w6 t.self OK.out.self).mono ?_
              rintro e w7 ⟨rfl, f7⟩
              rw [show t.self.kind = t.kind from rfl, HK.out]
              have R7 := Lib.hid (R6.out.far f7)
              have S7 := Lib.hid (S6.out.by f7 (fun _ _ h => h) (fun h => h) (fun _ _ h => h))
              have xb7 := XB.out.fr f7 (fun h => h)
              have e0 := xb7.cell 0
              have e1 := xb7.cell 1
              have e2 := xb7.cell 2
              have e3 := xb7.cell 3
              clear f7 xb7
              go_wp2_with fail
              refine (rerr_ok _ b4 v4 _ _ R7.out.rr).mono ?_
              rintro e w8 ⟨rfl, rfl⟩
              go_wp2_with fail
              by_cases hI3 : P' ≤ I
              · have hw := S7.out.whole (P' := P') (by rw [HPN.out]; omega) hI3
                refine (read_item _ b5 v5 _ P t OK.out hw.rr (take_whole HD.out (by rw [← HPN.out]; exact hI3)) _ _ G1.out G2.out).mono ?_
                rintro e w9 ⟨rfl, r9, f9⟩
                rw [← HPN.out] at r9
                have S9 := Lib.hid (hw.step f9 r9)
                have R9 := Lib.hid (R7.out.by f9 (fun i hi e => by have := H5.out.b0; have := H4.out.fr.size; omega) D.out.1 (fun i hi e => D.out.2.2 i hi e))
                rw [← HPN.out] at R9
                clear f9 r9 hw
                go_wp2_with fail
                refine (at_c _ b4 v4 _ _ _ R9.out.rr).mono ?_
                rintro e w10 ⟨rfl, rfl⟩
                go_wp2_with fail
                refine (at_c _ b5 v5 _ _ _ S9.out.rr).mono ?_
                rintro e w10 ⟨rfl, rfl⟩
                go_wp2_with fail
                refine (at_c _ b4 v4 _ _ _ R9.out.rr).mono ?_
                rintro e w10 ⟨rfl, rfl⟩
                go_wp2_with fail
                refine (at_c _ b4 v4 _ _ _ R9.out.rr).mono ?_
                rintro e w10 ⟨rfl, rfl⟩
                go_wp2_with fail
                exact ⟨⟨j + 1, hlt, by go_num, by rw [← HP.out]; exact ⟨R9.out, P', false, S9.out, .inr ⟨rfl, rfl⟩⟩⟩, by simp [intOf]; omega⟩
              · obtain ⟨q, f, hw, hf⟩ := S7.out.part OK.out HD.out (by rw [← HPN.out]; omega)
                refine (read_part _ b5 v5 _ q f t.self OK.out.self hw.rr hf).mono ?_
                rintro e w9 ⟨rfl, r9, f9⟩
                have S9 := Lib.hid (hw.step f9 r9)
                have R9 := Lib.hid (R7.out.by f9 (fun i hi e => by have := H5.out.b0; have := H4.out.fr.size; omega) D.out.1 (fun i hi e => D.out.2.2 i hi e))
                rw [← HPN.out] at R9
                clear f9 r9 hw hf
                go_wp2_with fail
                refine (at_c _ b4 v4 _ _ _ R9.out.rr).mono ?_
                rintro e w10 ⟨rfl, rfl⟩
                go_wp2_with fail
                refine (at_c _ b4 v4 _ _ _ R9.out.rr).mono ?_
                rintro e w10 ⟨rfl, rfl⟩
                go_wp2_with fail
                refine (rerr_bad _ b5 v5 _ _ S9.out.rr).mono ?_
                rintro e w10 ⟨rfl, rfl⟩
                go_wp2_with fail
                exact ⟨⟨j + 1, hlt, by go_num, by rw [← HP.out]; exact ⟨R9.out, q, true, S9.out, .inl ⟨rfl, by omega⟩⟩⟩, by simp [intOf]; omega⟩
            · have g1 : (((itemGives t).1 : Nat) : Int) = (t.x : Int) := by unfold itemGives; rw [if_neg (by omega), if_neg (by omega), if_pos hk]
              have g2 : strOf (itemGives t).2 = ⟨#[]⟩ := by unfold itemGives; rw [if_neg (by omega), if_neg (by omega), if_pos hk]; rfl
              have G1 := Lib.hid g1
              have G2 := Lib.hid g2
              have HK := Lib.hid hk
              clear g1 g2 hk
              go_wp2_with fail
              have xb := Blk.new wr 31 #[.int .i64 t.kind, .int .i64 (t.s.size : Int), .int .u64 (t.x : Int), .string t.s]
              refine (read_item _ b4 v4 _ P t OK.out (hst.out.1.alloc _).rr HD.out _ _ G1.out G2.out).mono ?_
              rintro e w6 ⟨rfl, r6, f6⟩
              have R6 := Lib.hid ((hst.out.1.alloc _).step f6 r6)
              have S6 := Lib.hid ((hst.out.2.by ((Fr.refl (fun _ => False) wr).alloc _) (fun _ _ h => h) (fun h => h) (fun _ _ h => h)).by f6 (fun i hi e => by have := H4.out.b0; omega) (fun e => D.out.1 e.symm) (fun i hi e => D.out.2.1 i hi e))
              have xb6 := xb.fr f6 (fun e => by have := hst.out.1.rr.1.lt; omega)
              have XB := Lib.hid xb6
              have e0 := xb6.cell 0
              have e1 := xb6.cell 1
              have e2 := xb6.cell 2
              have e3 := xb6.cell 3
              clear xb xb6 f6 r6
              go_wp2_with fail
              refine (kind_c w6 t.self OK.out.self).mono ?_
              rintro e w7 ⟨rfl, f7⟩
              rw [show t.self.kind = t.kind from rfl, HK.out]
              have R7 := Lib.hid (R6.out.far f7)
              have S7 := Lib.hid (S6.out.by f7 (fun _ _ h => h) (fun h => h) (fun _ _ h => h))
              have xb7 := XB.out.fr f7 (fun h => h)
              have e0 := xb7.cell 0
              have e1 := xb7.cell 1
              have e2 := xb7.cell 2
              have e3 := xb7.cell 3
              clear f7 xb7
              go_wp2_with fail
              refine (rerr_ok _ b4 v4 _ _ R7.out.rr).mono ?_
              rintro e w8 ⟨rfl, rfl⟩
              go_wp2_with fail
              by_cases hI3 : P' ≤ I
              · have hw := S7.out.whole (P' := P') (by rw [HPN.out]; omega) hI3
                refine (read_item _ b5 v5 _ P t OK.out hw.rr (take_whole HD.out (by rw [← HPN.out]; exact hI3)) _ _ G1.out G2.out).mono ?_
                rintro e w9 ⟨rfl, r9, f9⟩
                rw [← HPN.out] at r9
                have S9 := Lib.hid (hw.step f9 r9)
                have R9 := Lib.hid (R7.out.by f9 (fun i hi e => by have := H5.out.b0; have := H4.out.fr.size; omega) D.out.1 (fun i hi e => D.out.2.2 i hi e))
                rw [← HPN.out] at R9
                clear f9 r9 hw
                go_wp2_with fail
                refine (at_c _ b4 v4 _ _ _ R9.out.rr).mono ?_
                rintro e w10 ⟨rfl, rfl⟩
                go_wp2_with fail
                refine (at_c _ b5 v5 _ _ _ S9.out.rr).mono ?_
                rintro e w10 ⟨rfl, rfl⟩
                go_wp2_with fail
                refine (at_c _ b4 v4 _ _ _ R9.out.rr).mono ?_
                rintro e w10 ⟨rfl, rfl⟩
                go_wp2_with fail
                refine (at_c _ b4 v4 _ _ _ R9.out.rr).mono ?_
                rintro e w10 ⟨rfl, rfl⟩
                go_wp2_with fail
                exact ⟨⟨j + 1, hlt, by go_num, by rw [← HP.out]; exact ⟨R9.out, P', false, S9.out, .inr ⟨rfl, rfl⟩⟩⟩, by simp [intOf]; omega⟩
              · obtain ⟨q, f, hw, hf⟩ := S7.out.part OK.out HD.out (by rw [← HPN.out]; omega)
                refine (read_part _ b5 v5 _ q f t.self OK.out.self hw.rr hf).mono ?_
                rintro e w9 ⟨rfl, r9, f9⟩
                have S9 := Lib.hid (hw.step f9 r9)
                have R9 := Lib.hid (R7.out.by f9 (fun i hi e => by have := H5.out.b0; have := H4.out.fr.size; omega) D.out.1 (fun i hi e => D.out.2.2 i hi e))
                rw [← HPN.out] at R9
                clear f9 r9 hw hf
                go_wp2_with fail
                refine (at_c _ b4 v4 _ _ _ R9.out.rr).mono ?_
                rintro e w10 ⟨rfl, rfl⟩
                go_wp2_with fail
                refine (at_c _ b4 v4 _ _ _ R9.out.rr).mono ?_
                rintro e w10 ⟨rfl, rfl⟩
                go_wp2_with fail
                refine (rerr_bad _ b5 v5 _ _ S9.out.rr).mono ?_
                rintro e w10 ⟨rfl, rfl⟩
                go_wp2_with fail
                exact ⟨⟨j + 1, hlt, by go_num, by rw [← HP.out]; exact ⟨R9.out, q, true, S9.out, .inl ⟨rfl, by omega⟩⟩⟩, by simp [intOf]; omega⟩
            · have g1 : (((itemGives t).1 : Nat) : Int) = 0 := by unfold itemGives; rw [if_neg (by omega), if_neg (by omega), if_neg (by omega)]; rfl
              have g2 : strOf (itemGives t).2 = t.s := by unfold itemGives; rw [if_neg (by omega), if_neg (by omega), if_neg (by omega)]; rfl
              have G1 := Lib.hid g1
              have G2 := Lib.hid g2
              have HK := Lib.hid hk
              clear g1 g2 hk
              go_wp2_with fail
              have xb := Blk.new wr 31 #[.int .i64 t.kind, .int .i64 (t.s.size : Int), .int .u64 (t.x : Int), .string t.s]
              refine (read_item _ b4 v4 _ P t OK.out (hst.out.1.alloc _).rr HD.out _ _ G1.out G2.out).mono ?_
              rintro e w6 ⟨rfl, r6, f6⟩
              have R6 := Lib.hid ((hst.out.1.alloc _).step f6 r6)
              have S6 := Lib.hid ((hst.out.2.by ((Fr.refl (fun _ => False) wr).alloc _) (fun _ _ h => h) (fun h => h) (fun _ _ h => h)).by f6 (fun i hi e => by have := H4.out.b0; omega) (fun e => D.out.1 e.symm) (fun i hi e => D.out.2.1 i hi e))
              have xb6 := xb.fr f6 (fun e => by have := hst.out.1.rr.1.lt; omega)
              have XB := Lib.hid xb6
              have e0 := xb6.cell 0
              have e1 := xb6.cell 1
              have e2 := xb6.cell 2
              have e3 := xb6.cell 3
              clear xb xb6 f6 r6
              go_wp2_with fail
              refine (kind_c w6 t.self OK.out.self).mono ?_
              rintro e w7 ⟨rfl, f7⟩
              rw [show t.self.kind = t.kind from rfl, HK.out]
              have R7 := Lib.hid (R6.out.far f7)
              have S7 := Lib.hid (S6.out.by f7 (fun _ _ h => h) (fun h => h) (fun _ _ h => h))
              have xb7 := XB.out.fr f7 (fun h => h)
              have e0 := xb7.cell 0
              have e1 := xb7.cell 1
              have e2 := xb7.cell 2
              have e3 := xb7.cell 3
              clear f7 xb7
              go_wp2_with fail
              refine (rerr_ok _ b4 v4 _ _ R7.out.rr).mono ?_
              rintro e w8 ⟨rfl, rfl⟩
              go_wp2_with fail
              by_cases hI3 : P' ≤ I
              · have hw := S7.out.whole (P' := P') (by rw [HPN.out]; omega) hI3
                refine (read_item _ b5 v5 _ P t OK.out hw.rr (take_whole HD.out (by rw [← HPN.out]; exact hI3)) _ _ G1.out G2.out).mono ?_
                rintro e w9 ⟨rfl, r9, f9⟩
                rw [← HPN.out] at r9
                have S9 := Lib.hid (hw.step f9 r9)
                have R9 := Lib.hid (R7.out.by f9 (fun i hi e => by have := H5.out.b0; have := H4.out.fr.size; omega) D.out.1 (fun i hi e => D.out.2.2 i hi e))
                rw [← HPN.out] at R9
                clear f9 r9 hw
                go_wp2_with fail
                refine (at_c _ b4 v4 _ _ _ R9.out.rr).mono ?_
                rintro e w10 ⟨rfl, rfl⟩
                go_wp2_with fail
                refine (at_c _ b5 v5 _ _ _ S9.out.rr).mono ?_
                rintro e w10 ⟨rfl, rfl⟩
                go_wp2_with fail
                refine (at_c _ b4 v4 _ _ _ R9.out.rr).mono ?_
                rintro e w10 ⟨rfl, rfl⟩
                go_wp2_with fail
                refine (at_c _ b4 v4 _ _ _ R9.out.rr).mono ?_
                rintro e w10 ⟨rfl, rfl⟩
                go_wp2_with fail
                exact ⟨⟨j + 1, hlt, by go_num, by rw [← HP.out]; exact ⟨R9.out, P', false, S9.out, .inr ⟨rfl, rfl⟩⟩⟩, by simp [intOf]; omega⟩
              · obtain ⟨q, f, hw, hf⟩ := S7.out.part OK.out HD.out (by rw [← HPN.out]; omega)
                refine (read_part _ b5 v5 _ q f t.self OK.out.self hw.rr hf).mono ?_
                rintro e w9 ⟨rfl, r9, f9⟩
                have S9 := Lib.hid (hw.step f9 r9)
                have R9 := Lib.hid (R7.out.by f9 (fun i hi e => by have := H5.out.b0; have := H4.out.fr.size; omega) D.out.1 (fun i hi e => D.out.2.2 i hi e))
                rw [← HPN.out] at R9
                clear f9 r9 hw hf
                go_wp2_with fail
                refine (at_c _ b4 v4 _ _ _ R9.out.rr).mono ?_
                rintro e w10 ⟨rfl, rfl⟩
                go_wp2_with fail
                refine (at_c _ b4 v4 _ _ _ R9.out.rr).mono ?_
                rintro e w10 ⟨rfl, rfl⟩
                go_wp2_with fail
                refine (rerr_bad _ b5 v5 _ _ S9.out.rr).mono ?_
                rintro e w10 ⟨rfl, rfl⟩
                go_wp2_with fail
                exact ⟨⟨j + 1, hlt, by go_num, by rw [← HP.out]; exact ⟨R9.out, q, true, S9.out, .inl ⟨rfl, by omega⟩⟩⟩, by simp [intOf]; omega⟩
            · have g1 : (((itemGives t).1 : Nat) : Int) = 0 := by unfold itemGives; rw [if_neg (by omega), if_neg (by omega), if_neg (by omega)]; rfl
              have g2 : strOf (itemGives t).2 = t.s := by unfold itemGives; rw [if_neg (by omega), if_neg (by omega), if_neg (by omega)]; rfl
              have G1 := Lib.hid g1
              have G2 := Lib.hid g2
              have HK := Lib.hid hk
              clear g1 g2 hk
              go_wp2_with fail
              have xb := Blk.new wr 31 #[.int .i64 t.kind, .int .i64 (t.s.size : Int), .int .u64 (t.x : Int), .string t.s]
              refine (read_item _ b4 v4 _ P t OK.out (hst.out.1.alloc _).rr HD.out _ _ G1.out G2.out).mono ?_
              rintro e w6 ⟨rfl, r6, f6⟩
              have R6 := Lib.hid ((hst.out.1.alloc _).step f6 r6)
              have S6 := Lib.hid ((hst.out.2.by ((Fr.refl (fun _ => False) wr).alloc _) (fun _ _ h => h) (fun h => h) (fun _ _ h => h)).by f6 (fun i hi e => by have := H4.out.b0; omega) (fun e => D.out.1 e.symm) (fun i hi e => D.out.2.1 i hi e))
              have xb6 := xb.fr f6 (fun e => by have := hst.out.1.rr.1.lt; omega)
              have XB := Lib.hid xb6
              have e0 := xb6.cell 0
              have e1 := xb6.cell 1
              have e2 := xb6.cell 2
              have e3 := xb6.cell 3
              clear xb xb6 f6 r6
              go_wp2_with fail
              refine (kind_c w6 t.self OK.out.self).mono ?_
              rintro e w7 ⟨rfl, f7⟩
              rw [show t.self.kind = t.kind from rfl, HK.out]
              have R7 := Lib.hid (R6.out.far f7)
              have S7 := Lib.hid (S6.out.by f7 (fun _ _ h => h) (fun h => h) (fun _ _ h => h))
              have xb7 := XB.out.fr f7 (fun h => h)
              have e0 := xb7.cell 0
              have e1 := xb7.cell 1
              have e2 := xb7.cell 2
              have e3 := xb7.cell 3
              clear f7 xb7
              go_wp2_with fail
              refine (rerr_ok _ b4 v4 _ _ R7.out.rr).mono ?_
              rintro e w8 ⟨rfl, rfl⟩
              go_wp2_with fail
              by_cases hI3 : P' ≤ I
              · have hw := S7.out.whole (P' := P') (by rw [HPN.out]; omega) hI3
                refine (read_item _ b5 v5 _ P t OK.out hw.rr (take_whole HD.out (by rw [← HPN.out]; exact hI3)) _ _ G1.out G2.out).mono ?_
                rintro e w9 ⟨rfl, r9, f9⟩
                rw [← HPN.out] at r9
                have S9 := Lib.hid (hw.step f9 r9)
                have R9 := Lib.hid (R7.out.by f9 (fun i hi e => by have := H5.out.b0; have := H4.out.fr.size; omega) D.out.1 (fun i hi e => D.out.2.2 i hi e))
                rw [← HPN.out] at R9
                clear f9 r9 hw
                go_wp2_with fail
                refine (at_c _ b4 v4 _ _ _ R9.out.rr).mono ?_
                rintro e w10 ⟨rfl, rfl⟩
                go_wp2_with fail
                refine (at_c _ b5 v5 _ _ _ S9.out.rr).mono ?_
                rintro e w10 ⟨rfl, rfl⟩
                go_wp2_with fail
                refine (at_c _ b4 v4 _ _ _ R9.out.rr).mono ?_
                rintro e w10 ⟨rfl, rfl⟩
                go_wp2_with fail
                refine (at_c _ b4 v4 _ _ _ R9.out.rr).mono ?_
                rintro e w10 ⟨rfl, rfl⟩
                go_wp2_with fail
                exact ⟨⟨j + 1, hlt, by go_num, by rw [← HP.out]; exact ⟨R9.out, P', false, S9.out, .inr ⟨rfl, rfl⟩⟩⟩, by simp [intOf]; omega⟩
              · obtain ⟨q, f, hw, hf⟩ := S7.out.part OK.out HD.out (by rw [← HPN.out]; omega)
                refine (read_part _ b5 v5 _ q f t.self OK.out.self hw.rr hf).mono ?_
                rintro e w9 ⟨rfl, r9, f9⟩
                have S9 := Lib.hid (hw.step f9 r9)
                have R9 := Lib.hid (R7.out.by f9 (fun i hi e => by have := H5.out.b0; have := H4.out.fr.size; omega) D.out.1 (fun i hi e => D.out.2.2 i hi e))
                rw [← HPN.out] at R9
                clear f9 r9 hw hf
                go_wp2_with fail
                refine (at_c _ b4 v4 _ _ _ R9.out.rr).mono ?_
                rintro e w10 ⟨rfl, rfl⟩
                go_wp2_with fail
                refine (at_c _ b4 v4 _ _ _ R9.out.rr).mono ?_
                rintro e w10 ⟨rfl, rfl⟩
                go_wp2_with fail
                refine (rerr_bad _ b5 v5 _ _ S9.out.rr).mono ?_
                rintro e w10 ⟨rfl, rfl⟩
                go_wp2_with fail
                exact ⟨⟨j + 1, hlt, by go_num, by rw [← HP.out]; exact ⟨R9.out, q, true, S9.out, .inl ⟨rfl, by omega⟩⟩⟩, by simp [intOf]; omega⟩
          · obtain rfl : j = k := by omega
            have hr := hst.out.1
            rw [List.take_of_length_le (by rw [HR.out.1]; exact Nat.le_refl _)] at hr
            have R8 := Lib.hid hr
            clear hst hr
            go_wp2_with fail
            refine (end_c _ b4 v4 _ _ _ R8.out.rr).mono ?_
            rintro e w9 ⟨rfl, h9, f9⟩
            rw [if_neg (by simp)]
            have F9 := Lib.hid ((F3.out.trans R8.out.fr (fun _ _ h => h)).trans f9 (fun i hi e => by have := H4.out.b0; have := F3.out.size; omega))
            clear h9 f9
            go_wp2_with fail
            refine (awake_c _).mono ?_
            rintro e w10 ⟨rfl, f10⟩
            have F10 := Lib.hid (F9.out.trans f10 (fun _ _ h => h))
            clear f10
            go_wp2_with fail
            go_ret
            exact ⟨rfl, F10.out⟩
end Go.Proofs.Ytokhebplmldfkaa
