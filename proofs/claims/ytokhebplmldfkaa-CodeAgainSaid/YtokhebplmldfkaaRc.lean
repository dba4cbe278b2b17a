/-
  CONTRACTS of code.Reader's calls: U8, U32, Uint, Text, Raw.
-/
import Derived.Test.YtokhebplmldfkaaUnit2
namespace Go.Proofs.Ytokhebplmldfkaa
set_option linter.unusedSimpArgs false
set_option linter.unusedVariables false
open Go Go.RowKit

def rdFix (k : Nat) (m : List UInt8) : Option (Nat × Nat) := if k ≤ m.length then some (num (m.take k), k) else none
def rdText (most : Int) (m : List UInt8) : Option (List UInt8 × Nat) :=
  match rdNum m with
  | some (x, n) => if most < 0 ∨ most < x then none else if x ≤ (m.drop n).length then some ((m.drop n).take x, n + x) else none
  | none => none
def rdRaw (k : Int) (m : List UInt8) : Option (List UInt8 × Nat) := if k < 0 then none else if k.toNat ≤ m.length then some (m.take k.toNat, k.toNat) else none

/-- What a reading leaves: its value, and the place behind it; or the fault, and the place as it was. -/
def RdPost {α : Type} (val : α → Value) (z : Value) (rd : Option (α × Nat)) (w : World) (b : Nat) (v : Value) (l : List UInt8) (p : Nat) (e : Ending) (w' : World) : Prop :=
  Fr (fun k => k = b) w w' ∧ match rd with
    | some (x, n) => e = .returned (val x) ∧ Rr w' b v l (p + n) false
    | none => e = .returned z ∧ Rr w' b v l p true

/-- The same, inside: the place behind a fault is open. -/
def RdIn {α : Type} (rd : Option (α × Nat)) (p : Nat) (x : α) (q : Nat) (f : Bool) : Prop :=
  match rd with
  | some (y, n) => y = x ∧ q = p + n ∧ f = false
  | none => f = true

theorem cf_Uint1 (caps : Array Value) (W : World) : (callFunc 51 caps).run Try.prog W = .ok (.enter 51 caps) W := by kernel_rfl
theorem cf_U81 (caps : Array Value) (W : World) : (callFunc 57 caps).run Try.prog W = .ok (.enter 57 caps) W := by kernel_rfl
theorem cf_U321 (caps : Array Value) (W : World) : (callFunc 60 caps).run Try.prog W = .ok (.enter 60 caps) W := by kernel_rfl
theorem cf_Text1 (caps : Array Value) (W : World) : (callFunc 54 caps).run Try.prog W = .ok (.enter 54 caps) W := by kernel_rfl
theorem cf_Raw1 (caps : Array Value) (W : World) : (callFunc 62 caps).run Try.prog W = .ok (.enter 62 caps) W := by kernel_rfl

/-- What a closure leaves that reads a number. -/
def NumIn (k : IntKind) (rd : Option (Nat × Nat)) (w : World) (b : Nat) (v : Value) (l : List UInt8) (p : Nat) (e : Ending) (w' : World) : Prop :=
  ∃ (x : Int) (q : Nat) (f : Bool), (0 ≤ x ∧ RdIn rd p x.toNat q f) ∧ e = .returned (.int k x) ∧ Rr w' b v l q f ∧ Fr (fun k => k = b) w w'

set_option maxHeartbeats 400000 in
theorem uint1_c (w : World) (b g : Nat) (v : Value) (l : List UInt8) (p : Nat) (hg : Blk w g 36 #[.pointer (some ⟨b, 0, none⟩)]) (h : Rr w b v l p false) :
    Calls Try.prog 51 #[.pointer (some ⟨g, 0, none⟩)] w (NumIn .u64 (rdNum (l.drop p)) w b v l p) := by
  have c0 := hg.cell 0
  have H := Lib.hid h
  clear hg h
  go_enter Try.func51, Try.ntmps51
  go_wp2_with fail
  refine (number_c w b v l p H.out).mono ?_
  rintro e w1 ⟨f1, h1⟩
  cases hr : rdNum (l.drop p) with
  | some xn =>
    obtain ⟨x, n⟩ := xn
    rw [hr] at h1
    obtain ⟨rfl, h1⟩ := h1
    have H1 := Lib.hid h1
    have HR := Lib.hid hr
    clear h1 hr
    go_wp2_with fail
    go_ret
    exact ⟨x, p + n, false, ⟨by omega, by simp [RdIn, HR.out]⟩, rfl, H1.out, f1⟩
  | none =>
    rw [hr] at h1
    obtain ⟨x, q, rfl, _, h1⟩ := h1
    have H1 := Lib.hid h1
    have HR := Lib.hid hr
    clear h1 hr
    go_wp2_with fail
    go_ret
    exact ⟨x, q, true, ⟨by omega, by simp [RdIn, HR.out]⟩, rfl, H1.out, f1⟩

set_option maxHeartbeats 400000 in
theorem u81_c (w : World) (b g : Nat) (v : Value) (l : List UInt8) (p : Nat) (hg : Blk w g 36 #[.pointer (some ⟨b, 0, none⟩)]) (h : Rr w b v l p false) :
    Calls Try.prog 57 #[.pointer (some ⟨g, 0, none⟩)] w (NumIn .u8 (rdFix 1 (l.drop p)) w b v l p) := by
  have c0 := hg.cell 0
  have H := Lib.hid h
  have hp := h.2.2.1
  clear hg h
  by_cases h1 : 1 ≤ (l.drop p).length
  · have hr : rdFix 1 (l.drop p) = some (num ((l.drop p).take 1), 1) := by simp only [rdFix, if_pos h1]
    rw [hr]
    clear hr
    have hlt := num_lt ((l.drop p).take 1)
    have hlt2 : num ((l.drop p).take 1) < 256 := Nat.lt_of_lt_of_le hlt (by rw [List.length_take]; exact pow256_mono (b := 1) (by omega))
    rw [List.length_drop] at h1
    clear hlt
    go_enter Try.func57, Try.ntmps57
    go_wp2_with fail
    refine (big_ok w b v l p 1 H.out (by omega) (by omega) (by omega)).mono ?_
    rintro e w1 ⟨rfl, h1, f1⟩
    simp only [Int.toNat_one] at h1 ⊢
    have H1 := Lib.hid h1
    clear h1
    generalize num ((l.drop p).take 1) = X at *
    go_wp2_with fail
    go_ret
    exact ⟨X, p + 1, false, ⟨by omega, by simp [RdIn]⟩, rfl, H1.out, f1⟩
  · have hr : rdFix 1 (l.drop p) = none := by simp only [rdFix, if_neg h1]
    rw [hr]
    rw [List.length_drop] at h1
    clear hr
    go_enter Try.func57, Try.ntmps57
    go_wp2_with fail
    refine (big_no w b v l p 1 H.out (by omega) (by omega)).mono ?_
    rintro e w1 ⟨rfl, h1, f1⟩
    have H1 := Lib.hid h1
    clear h1
    go_wp2_with fail
    go_ret
    exact ⟨0, p, true, ⟨by omega, by simp [RdIn]⟩, rfl, H1.out, f1⟩

set_option maxHeartbeats 400000 in
theorem u321_c (w : World) (b g : Nat) (v : Value) (l : List UInt8) (p : Nat) (hg : Blk w g 36 #[.pointer (some ⟨b, 0, none⟩)]) (h : Rr w b v l p false) :
    Calls Try.prog 60 #[.pointer (some ⟨g, 0, none⟩)] w (NumIn .u32 (rdFix 4 (l.drop p)) w b v l p) := by
  have c0 := hg.cell 0
  have H := Lib.hid h
  have hp := h.2.2.1
  clear hg h
  by_cases h1 : 4 ≤ (l.drop p).length
  · have hr : rdFix 4 (l.drop p) = some (num ((l.drop p).take 4), 4) := by simp only [rdFix, if_pos h1]
    rw [hr]
    clear hr
    have hlt := num_lt ((l.drop p).take 4)
    have hlt2 : num ((l.drop p).take 4) < 4294967296 := Nat.lt_of_lt_of_le hlt (by rw [List.length_take]; exact pow256_mono (b := 4) (by omega))
    rw [List.length_drop] at h1
    clear hlt
    go_enter Try.func60, Try.ntmps60
    go_wp2_with fail
    refine (big_ok w b v l p 4 H.out (by omega) (by omega) (by omega)).mono ?_
    rintro e w1 ⟨rfl, h1, f1⟩
    rw [show (4 : Int).toNat = 4 from rfl] at h1 ⊢
    have H1 := Lib.hid h1
    clear h1
    generalize num ((l.drop p).take 4) = X at *
    go_wp2_with fail
    go_ret
    exact ⟨X, p + 4, false, ⟨by omega, by simp [RdIn]⟩, rfl, H1.out, f1⟩
  · have hr : rdFix 4 (l.drop p) = none := by simp only [rdFix, if_neg h1]
    rw [hr]
    rw [List.length_drop] at h1
    clear hr
    go_enter Try.func60, Try.ntmps60
    go_wp2_with fail
    refine (big_no w b v l p 4 H.out (by omega) (by omega)).mono ?_
    rintro e w1 ⟨rfl, h1, f1⟩
    have H1 := Lib.hid h1
    clear h1
    go_wp2_with fail
    go_ret
    exact ⟨0, p, true, ⟨by omega, by simp [RdIn]⟩, rfl, H1.out, f1⟩

/-- A string of bytes. -/
def strOf (l : List UInt8) : ByteArray := ⟨l.toArray⟩
theorem sb_strOf (l : List UInt8) : sb (strOf l) = l := rfl
theorem strOf_sb (s : ByteArray) : strOf (sb s) = s := rfl
theorem conv_str (w : World) (A : Option Addr) (n c : Nat) (l : List UInt8) (h : Rd w A n (bv l)) : (convert 27 9 (.slice A n c)).run Try.prog w = .ok (.string (strOf l)) w := by
  rw [run_convert_bytes_string w 27 9 5 A n c Try.underlying27 Try.underlying5 Try.underlying9]
  have hl : l.length = n := by rw [← h.1, bv_length]
  have hbv : bv l = (l.map fun b => (b.toNat : Int)).map (Value.int .u8) := by simp [bv]
  cases A with
  | none =>
    have hn : n = 0 := by
      rcases Nat.eq_zero_or_pos n with h0 | h0
      · exact h0
      · obtain ⟨ad, he, _⟩ := h.2 h0
        cases he
    subst hn
    obtain rfl : l = [] := List.eq_nil_of_length_eq_zero hl
    rfl
  | some ad =>
    have hload : (loadCells ad n).run Try.prog w = .ok ((l.map fun b => (b.toNat : Int)).map (Value.int .u8)).toArray w := by
      have := run_loadCells_list (P := Try.prog) w ad ((l.map fun b => (b.toNat : Int)).map (Value.int .u8)) (fun j u hj => by
        rw [← hbv] at hj
        have hjl : 0 < n := by
          rcases Nat.eq_zero_or_pos n with h0 | h0
          · subst h0
            obtain rfl : l = [] := List.eq_nil_of_length_eq_zero hl
            simp [bv] at hj
          · exact h0
        obtain ⟨ad', he, hc⟩ := h.2 hjl
        injection he with he
        subst he
        exact hc j u hj)
      simpa [hl] using this
    rw [run_bytesToString w ad n c _ hload, foldl_push_bytes]
    congr 1
    have e : l.map ((fun n : Int => UInt8.ofNat n.toNat) ∘ fun b : UInt8 => (b.toNat : Int)) = l := by
      conv => rhs; rw [← List.map_id l]
      apply List.map_congr_left
      intro b _
      simp
    simp [strOf, ByteArray.empty, ByteArray.emptyWithCapacity]
    exact e

/-- What the closure of Text leaves. -/
def TextIn (most : Int) (w : World) (b : Nat) (v : Value) (l : List UInt8) (p : Nat) (e : Ending) (w' : World) : Prop :=
  ∃ (x : ByteArray) (q : Nat) (f : Bool), RdIn (rdText most (l.drop p)) p (sb x) q f ∧ e = .returned (.string x) ∧ Rr w' b v l q f ∧ Fr (fun k => k = b) w w'

theorem Rr.failed {w : World} {b : Nat} {v : Value} {l : List UInt8} {p : Nat} {f : Bool} (h : Rr w b v l p f) : Rr (w.setCell ⟨b, 2, none⟩ (.bool true)) b v l p true :=
  ⟨by have := h.1.set_ 2 (.bool true); simpa using this, own_fr h.2.1 ((Fr.refl (fun k => k = b) _).setCell (fun _ => rfl) _) (fun k hk e => h.ne (by rw [hk, e])), h.2.2⟩

set_option maxHeartbeats 800000 in
theorem text1_c (w : World) (b g g' : Nat) (v : Value) (l : List UInt8) (p : Nat) (most : Int) (hm0 : -9223372036854775808 ≤ most) (hm1 : most ≤ 9223372036854775807) (hg : Blk w g 36 #[.pointer (some ⟨b, 0, none⟩)]) (hg' : Blk w g' 3 #[.int .i64 most]) (h : Rr w b v l p false) :
    Calls Try.prog 54 #[.pointer (some ⟨g, 0, none⟩), .pointer (some ⟨g', 0, none⟩)] w (TextIn most w b v l p) := by
  have hgb : g ≠ b := hg.ne_ h.1 (by decide)
  have hgb' : g' ≠ b := hg'.ne_ h.1 (by decide)
  have c0 := hg.cell 0
  have H := Lib.hid h
  have HG := Lib.hid hg
  have HG' := Lib.hid hg'
  clear hg hg' h
  go_enter Try.func54, Try.ntmps54
  go_wp2_with fail
  refine (number_c w b v l p H.out).mono ?_
  rintro e w1 ⟨f1, h1⟩
  have d0 := (HG.out.fr f1 hgb).cell 0
  have d1 := (HG'.out.fr f1 hgb').cell 0
  cases hr : rdNum (l.drop p) with
  | none =>
    rw [hr] at h1
    obtain ⟨x, q, rfl, hx, h1⟩ := h1
    have k2 := h1.1.frozen 2
    have c2 := h1.1.cell 2
    have r1 := h1.failed
    have f2 : Fr (fun k => k = b) w (w1.setCell ⟨b, 2, none⟩ (.bool true)) := f1.setCell (fun _ => rfl) _
    have e0 := (HG.out.fr f2 hgb).cell 0
    have e2 := r1.1.cell 2
    have H1 := Lib.hid h1
    have R1 := Lib.hid r1
    have F1 := Lib.hid f1
    have F2 := Lib.hid f2
    have HR := Lib.hid hr
    clear h1 hr r1 f1 f2
    by_cases hm : most < 0
    · go_wp2_with fail
      go_ret
      exact ⟨_, q, true, by simp [RdIn, rdText, HR.out], rfl, R1.out, F2.out⟩
    · by_cases hm2 : most < x
      · go_wp2_with fail
        go_ret
        exact ⟨_, q, true, by simp [RdIn, rdText, HR.out], rfl, R1.out, F2.out⟩
      · go_wp2_with fail
        go_ret
        exact ⟨_, q, true, by simp [RdIn, rdText, HR.out], rfl, H1.out, F1.out⟩
  | some xn =>
    obtain ⟨x, n⟩ := xn
    rw [hr] at h1
    obtain ⟨rfl, h1⟩ := h1
    have k2 := h1.1.frozen 2
    have c2 := h1.1.cell 2
    have r1 := h1.failed
    have f2 : Fr (fun k => k = b) w (w1.setCell ⟨b, 2, none⟩ (.bool true)) := f1.setCell (fun _ => rfl) _
    have e0 := (HG.out.fr f2 hgb).cell 0
    have e2 := r1.1.cell 2
    have H1 := Lib.hid h1
    have R1 := Lib.hid r1
    have F1 := Lib.hid f1
    have F2 := Lib.hid f2
    have HR := Lib.hid hr
    have hpl := h1.2.2
    clear h1 hr r1 f1 f2
    by_cases hm : most < 0
    · go_wp2_with fail
      go_ret
      exact ⟨_, p + n, true, by simp [RdIn, rdText, HR.out, hm], rfl, R1.out, F2.out⟩
    · by_cases hm2 : most < x
      · go_wp2_with fail
        go_ret
        exact ⟨_, p + n, true, by simp [RdIn, rdText, HR.out, hm2], rfl, R1.out, F2.out⟩
      · have hno : ¬ (most < 0 ∨ most < x) := by omega
        have HNO := Lib.hid hno
        clear hno
        by_cases hlen : x ≤ l.length - (p + n)
        · have HLEN := Lib.hid hlen
          clear hlen
          go_wp2_with fail
          refine (next_ok w1 b v l (p + n) x H1.out (by omega) (by have := HLEN.out; omega)).mono ?_
          rintro e w2 ⟨A, c, rfl, h2, r2, f2⟩
          rw [Int.toNat_natCast] at *
          have hcv := conv_str w2 A x c _ r2
          have H2 := Lib.hid h2
          have FF := Lib.hid (F1.out.trans f2 (fun _ _ h => h))
          clear h2 r2 f2
          go_wp2_with fail
          go_ret
          refine ⟨_, p + n + x, false, ?_, rfl, H2.out, FF.out⟩
          simp only [RdIn, rdText, HR.out, if_neg HNO.out, sb_strOf]
          rw [if_pos (by rw [List.length_drop, List.length_drop]; have := HLEN.out; omega), List.drop_drop]
          exact ⟨rfl, by omega, trivial⟩
        · have HLEN := Lib.hid hlen
          clear hlen
          go_wp2_with fail
          refine (next_no w1 b v l (p + n) x H1.out (by omega) (by have := HLEN.out; omega)).mono ?_
          rintro e w2 ⟨rfl, h2, f2⟩
          have hcv := conv_str w2 none 0 0 [] (Rd.none_ _ _)
          have H2 := Lib.hid h2
          have FF := Lib.hid (F1.out.trans f2 (fun _ _ h => h))
          clear h2 f2
          go_wp2_with fail
          go_ret
          refine ⟨_, p + n, true, ?_, rfl, H2.out, FF.out⟩
          simp only [RdIn, rdText, HR.out, if_neg HNO.out]
          rw [if_neg (by rw [List.length_drop, List.length_drop]; have := HLEN.out; omega)]
          trivial

/-- What the closure of Raw leaves. -/
def RawIn (k : Int) (w : World) (b : Nat) (v : Value) (l : List UInt8) (p : Nat) (e : Ending) (w' : World) : Prop :=
  ∃ (A : Option Addr) (n c q : Nat) (f : Bool), ((rdRaw k (l.drop p)).isSome = !f ∧ (f = false → q = p + k.toNat)) ∧ e = .returned (.slice A n c) ∧ Rr w' b v l q f ∧ Fr (fun k => k = b) w w' ∧
    (f = false → w'.ownsRow w.heap.size 5 1 (.slice A n c) ((l.drop p).take k.toNat).length (bv ((l.drop p).take k.toNat)) ∧ n = ((l.drop p).take k.toNat).length)

set_option maxHeartbeats 800000 in
theorem raw1_c (w : World) (b g g' : Nat) (v : Value) (l : List UInt8) (p : Nat) (k : Int) (hm0 : -9223372036854775808 ≤ k) (hm1 : k ≤ 9223372036854775807) (hg : Blk w g 36 #[.pointer (some ⟨b, 0, none⟩)]) (hg' : Blk w g' 3 #[.int .i64 k]) (h : Rr w b v l p false) :
    Calls Try.prog 62 #[.pointer (some ⟨g', 0, none⟩), .pointer (some ⟨g, 0, none⟩)] w (RawIn k w b v l p) := by
  have c0 := hg.cell 0
  have c1 := hg'.cell 0
  have H := Lib.hid h
  have hpl := h.2.2
  by_cases hk : k < 0
  · have k2 := h.1.frozen 2
    have c2 := h.1.cell 2
    have r1 := h.failed
    have R1 := Lib.hid r1
    clear hg hg' h r1
    go_enter Try.func62, Try.ntmps62
    go_wp2_with fail
    go_ret
    exact ⟨_, _, _, p, true, ⟨by simp [rdRaw, hk], fun h => by cases h⟩, rfl, R1.out, (Fr.refl (fun k => k = b) w).setCell (fun _ => rfl) _, fun h => by cases h⟩
  · have hsz := h.1.lt
    clear hg hg' h
    by_cases hlen : k.toNat ≤ l.length - p
    · have HLEN := Lib.hid hlen
      clear hlen
      go_enter Try.func62, Try.ntmps62
      go_wp2_with fail
      refine (next_ok w b v l p k H.out (by omega) (by have := HLEN.out; omega)).mono ?_
      rintro e w2 ⟨A, c, rfl, h2, r2, f2⟩
      have H2 := Lib.hid h2
      have F2 := Lib.hid f2
      have R2 := Lib.hid r2
      clear h2 r2 f2
      go_wp2_with fail
      refine (clone_c w2 A k.toNat c _ R2.out (by have := HLEN.out; omega)).mono ?_
      rintro e w3 ⟨v3, rfl, h3, f3⟩
      obtain ⟨A3, c3, rfl, _, _⟩ := own_slice h3
      have H3 := Lib.hid h3
      have R3 := Lib.hid (H2.out.fr f3 (fun h => h) (fun _ _ h => h))
      have FF := Lib.hid (F2.out.trans f3 (fun _ _ h => h.elim))
      clear h3 f3
      go_wp2_with fail
      go_ret
      have hl3 : ((l.drop p).take k.toNat).length = k.toNat := by rw [List.length_take, List.length_drop]; have := HLEN.out; omega
      refine ⟨_, _, _, p + k.toNat, false, ⟨?_, fun _ => rfl⟩, rfl, R3.out, FF.out, fun _ => ⟨?_, hl3.symm⟩⟩
      · rw [rdRaw, if_neg (by omega)]
        rw [if_pos (by rw [List.length_drop]; exact HLEN.out)]
        rfl
      · rw [hl3]
        exact own_base H3.out (fun kk hkk => Nat.le_trans F2.out.size (H3.out.lt kk hkk).1)
    · have HLEN := Lib.hid hlen
      clear hlen
      go_enter Try.func62, Try.ntmps62
      go_wp2_with fail
      refine (next_no w b v l p k H.out (by omega) (by have := HLEN.out; omega)).mono ?_
      rintro e w2 ⟨rfl, h2, f2⟩
      have H2 := Lib.hid h2
      have F2 := Lib.hid f2
      clear h2 f2
      go_wp2_with fail
      refine (clone_c w2 none 0 0 [] (Rd.none_ _ _) (by omega)).mono ?_
      rintro e w3 ⟨v3, rfl, h3, f3⟩
      obtain ⟨A3, c3, rfl, _, _⟩ := own_slice h3
      have R3 := Lib.hid (H2.out.fr f3 (fun h => h) (fun _ _ h => h))
      have FF := Lib.hid (F2.out.trans f3 (fun _ _ h => h.elim))
      clear h3 f3
      go_wp2_with fail
      go_ret
      refine ⟨_, _, _, p, true, ⟨?_, fun h => by cases h⟩, rfl, R3.out, FF.out, fun h => by cases h⟩
      rw [rdRaw, if_neg (by omega)]
      rw [if_neg (by rw [List.length_drop]; exact HLEN.out)]
      rfl
end Go.Proofs.Ytokhebplmldfkaa
