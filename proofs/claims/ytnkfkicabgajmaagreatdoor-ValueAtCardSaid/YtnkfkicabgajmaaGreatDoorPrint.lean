/-
  CONTRACT of value.Print.
-/
import Derived.Test.YtnkfkicabgajmaaGreatDoorGTxt
import Derived.Test.YtnkfkicabgajmaaGreatDoorGMay
import Derived.Laws.BytesString
namespace Go.Proofs.YtnkfkicabgajmaaGreatDoor
set_option linter.unusedSimpArgs false
set_option linter.unusedVariables false
open Go Go.RowKit

theorem conv_str (w : World) (A : Option Addr) (n c : Nat) (l : List UInt8) (h : Rd w A n (bv l)) : (convert 79 9 (.slice A n c)).run Tryz.prog w = .ok (.string (strOf l)) w := by
  rw [run_convert_bytes_string w 79 9 5 A n c Tryz.underlying79 Tryz.underlying5 Tryz.underlying9]
  have hl : l.length = n := by rw [← h.1, bv_length]
  have hbv : bv l = (l.map fun b => (b.toNat : Int)).map (Value.int .u8) := by simp [bv]
  cases A with
  | none =>
    have hn : n = 0 := by
      rcases Nat.eq_zero_or_pos n with h0 | h0
      · exact h0
      · obtain ⟨ad, he, _⟩ := h.2 h0
        cases he
    subst hn
    obtain rfl : l = [] := List.eq_nil_of_length_eq_zero hl
    rfl
  | some ad =>
    have hload : (loadCells ad n).run Tryz.prog w = .ok ((l.map fun b => (b.toNat : Int)).map (Value.int .u8)).toArray w := by
      have := run_loadCells_list (P := Tryz.prog) w ad ((l.map fun b => (b.toNat : Int)).map (Value.int .u8)) (fun j u hj => by
        rw [← hbv] at hj
        have hjl : 0 < n := by
          rcases Nat.eq_zero_or_pos n with h0 | h0
          · subst h0
            obtain rfl : l = [] := List.eq_nil_of_length_eq_zero hl
            simp [bv] at hj
          · exact h0
        obtain ⟨ad', he, hc⟩ := h.2 hjl
        injection he with he
        subst he
        exact hc j u hj)
      simpa [hl] using this
    rw [run_bytesToString w ad n c _ hload, foldl_push_bytes]
    congr 1
    have e : l.map ((fun n : Int => UInt8.ofNat n.toNat) ∘ fun b : UInt8 => (b.toNat : Int)) = l := by
      conv => rhs; rw [← List.map_id l]
      apply List.map_congr_left
      intro b _
      simp
    simp [strOf, ByteArray.empty, ByteArray.emptyWithCapacity]
    exact e

theorem prE_len : ∀ (obj : Bool) (l : List V), (∀ x ∈ l, (prV x).length = psz x) → ∀ (first : Bool) (ks : List (List UInt8)), (obj = true → ks.length = l.length) → (obj = false → ks = []) →
    (prE obj first l ks).length = (if first then l.length - 1 else l.length) + ksz ks + pszs l
  | obj, [], _, first, ks, ho, hf => by
    have hk : ks = [] := by
      cases obj with
      | false => exact hf rfl
      | true => exact List.eq_nil_of_length_eq_zero (ho rfl)
    subst hk
    cases first <;> simp [prE, ksz, pszs]
  | obj, v :: l, h, first, ks, ho, hf => by
    have ih := prE_len obj l (fun x hx => h x (List.mem_cons_of_mem _ hx)) false ks.tail (fun e => by have := ho e; simp at this ⊢; omega) (fun e => by rw [hf e]; rfl)
    have hv := h v List.mem_cons_self
    have e1 : (if first = true then ([] : List UInt8) else [44]).length = if first = true then 0 else 1 := by cases first <;> rfl
    cases obj with
    | false =>
      obtain rfl := hf rfl
      cases first <;> simp [prE, ih, hv, ksz, pszs] at * <;> omega
    | true =>
      cases ks with
      | nil => have := ho rfl; simp at this
      | cons s ks =>
        simp only [List.tail_cons] at ih
        cases first <;> simp [prE, ih, hv, ksz, pszs, quoted_len] <;> omega
theorem prV_len : ∀ v : V, fieldsV v = true → (prV v).length = psz v := by
  intro v
  induction v using V.ind with
  | h k n t l ks ih =>
    intro hv
    obtain ⟨hu, -, -, hfs⟩ := fields_kids hv
    rw [uses_iff] at hu
    have hx : ∀ x ∈ l, (prV x).length = psz x := fun x hx => ih x hx (fieldss_mem hfs x hx)
    have dl : k < 5 → l = [] := fun h => List.eq_nil_of_length_eq_zero (hu.lst h)
    have dk : k ≠ 6 → ks = [] := fun h => List.eq_nil_of_length_eq_zero (hu.key h)
    rw [prV, psz]
    unfold ownSz
    by_cases h1 : k = 1
    · rw [if_pos h1, if_pos h1, dl (by omega)]; rfl
    rw [if_neg h1, if_neg h1]
    by_cases h2 : k = 2
    · rw [if_pos h2, if_neg (by omega), if_neg (by omega), if_neg (by omega), dl (by omega)]; rfl
    rw [if_neg h2]
    by_cases h3 : k = 3
    · rw [if_pos h3, if_pos h3, dl (by omega)]; rfl
    rw [if_neg h3, if_neg h3]
    by_cases h4 : k = 4
    · rw [if_pos h4, if_pos h4, dl (by omega), quoted_len]; rfl
    rw [if_neg h4, if_neg h4]
    by_cases h5 : k = 5
    · rw [if_pos h5, if_pos (.inl h5)]
      simp only [List.length_cons, List.length_append, List.length_nil]
      rw [prE_len false l hx true ks (fun h => by cases h) (fun _ => dk (by omega))]
      simp
      omega
    rw [if_neg h5]
    by_cases h6 : k = 6
    · rw [if_pos h6, if_pos (.inr h6)]
      simp only [List.length_cons, List.length_append, List.length_nil]
      rw [prE_len true l hx true ks (fun _ => hu.obj h6) (fun h => by cases h)]
      simp
      omega
    rw [if_neg h6, if_neg (fun h => h.elim h5 h6), dl (by have := hu.k6; omega)]
    rfl
theorem may_fields {v : V} (h : mayV v = true) : fieldsV v = true ∧ (prV v).length ≤ 512 ∧ dep v ≤ 8 := by
  unfold mayV at h
  simp only [Bool.and_eq_true, decide_eq_true_eq] at h
  refine ⟨h.1.2, ?_, h.1.1⟩
  rw [prV_len v h.1.2]
  exact h.2
set_option maxRecDepth 100000 in
set_option maxHeartbeats 1000000 in
theorem print_c (v : V) (w : World) (D : Nat → Prop) (C : Array Value) (h : RdV D w C v) (hs : Sm v) (hL : LaidOk w) :
    Calls Tryz.prog 50 #[.agg C] w fun e w' => e = .returned (.tuple #[.string (if mayV v then strOf (prV v) else ⟨#[]⟩), .int .i64 (if mayV v then 0 else 1)]) ∧ Fr (fun _ => False) w w' := by
  have HRV := Lib.hid h.lts
  have HL := Lib.hid hL
  have HSC := Lib.hid (szV h)
  have MAY := Lib.hid (fun W (hW : Fr (fun _ => False) w W) => may_c v W D C (h.far hW) hs (hL.far hW))
  have h8 := hL.size
  clear h hs hL
  obtain ⟨z, hz⟩ : ∃ z, mayV v = z := ⟨_, rfl⟩
  have HZ := Lib.hid hz
  rw [hz] at MAY ⊢
  clear hz
  go_enter Tryz.func50, Tryz.ntmps50
  go_upto_region 1 with fail
  refine abs_world (fun W => Hid (Blk W w.heap.size 25 C) ∧ Hid (Fr (fun _ => False) w W)) ⟨Blk.new w _ _, (Fr.refl _ w).alloc _⟩ ?_
  rintro W1 ⟨B1, F1⟩
  have BA := Lib.hid (blk_all B1.out)
  go_wp2_with (refine wpList_load_val rfl 25 _ rfl w.heap.size _ rfl C BA.out _ Tryz.underlying25 rfl HSC.out ?_)
  refine (MAY.out W1 F1.out).mono ?_
  rintro e W2 ⟨rfl, f2⟩
  have F2 := Lib.hid (F1.out.trans f2 (fun _ _ h => h))
  have BA2 := Lib.hid (blk_all (keepB B1.out f2))
  have s2 := F2.out.size
  clear f2 BA
  cases z with
  | false =>
    go_wp2_with fail
    go_ret2
    exact ⟨rfl, F2.out⟩
  | true =>
    obtain ⟨hf, hlen, -⟩ := may_fields HZ.out
    have CALL := Lib.hid (text_c w.heap.size (fun b => D b ∧ b < w.heap.size) h8 (fun b hb => hb.2) v W2 C 0 [] (bv (prV v)) none 0 (HRV.out.far F2.out) hf (World.ownsRow_nil W2 _ _ _) (.inr rfl) s2 (by omega) (by simp) (HL.out.far F2.out))
    go_wp2_with (refine wpList_load_val rfl 25 _ rfl w.heap.size _ rfl C BA2.out _ Tryz.underlying25 rfl HSC.out ?_)
    refine CALL.out.mono ?_
    rintro e W3 ⟨A3, c3, rfl, o3, g3⟩
    have F3 : Hid (Fr (fun _ => False) w W3) := Lib.hid (F2.out.trans g3.1.old (fun i hi hq => by omega))
    rw [Nat.zero_add] at o3 ⊢
    have hcv := conv_str W3 A3 (prV v).length c3 (prV v) (Rd.of_own (by simpa using o3))
    clear o3 g3 CALL hlen hf
    go_wp2_with fail
    go_ret2
    exact ⟨rfl, F3.out⟩
end Go.Proofs.YtnkfkicabgajmaaGreatDoor
