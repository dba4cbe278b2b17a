/-
  VaPrint, VaLong, VaSm2, VaOpenV, in one text (merge.py).
-/
import Derived.Test.YtjaocgmicdnghaaGreatDoorVaHT
import Derived.Test.YtjaocgmicdnghaaGreatDoorVaGMay
import Derived.Laws.BytesString
import Derived.Test.YtjaocgmicdnghaaGreatDoorVaGVal
import Derived.Test.YtjaocgmicdnghaaGreatDoorProg
import Derived.ProofKit
import Derived.OpenShut
import Derived.Deep.Slices
import Derived.Deep.Fields
import Derived.Deep.Matrix
import Derived.ChangeSame
import Derived.ChangeVars
import Derived.RowKit

/-
  CONTRACT of value.Print.
-/
namespace Go.Proofs.YtjaocgmicdnghaaGreatDoor.V1
set_option linter.unusedSimpArgs false
set_option linter.unusedVariables false
open Go Go.RowKit

theorem conv_str (w : World) (A : Option Addr) (n c : Nat) (l : List UInt8) (h : Rd w A n (bv l)) : (convert 43 9 (.slice A n c)).run Tryz.prog w = .ok (.string (strOf l)) w := by
  rw [run_convert_bytes_string w 43 9 5 A n c Tryz.underlying43 Tryz.underlying5 Tryz.underlying9]
  have hl : l.length = n := by rw [← h.1, bv_length]
  have hbv : bv l = (l.map fun b => (b.toNat : Int)).map (Value.int .u8) := by simp [bv]
  cases A with
  | none =>
    have hn : n = 0 := by
      rcases Nat.eq_zero_or_pos n with h0 | h0
      · exact h0
      · obtain ⟨ad, he, _⟩ := h.2 h0
        cases he
    subst hn
    obtain rfl : l = [] := List.eq_nil_of_length_eq_zero hl
    rfl
  | some ad =>
    have hload : (loadCells ad n).run Tryz.prog w = .ok ((l.map fun b => (b.toNat : Int)).map (Value.int .u8)).toArray w := by
      have := run_loadCells_list (P := Tryz.prog) w ad ((l.map fun b => (b.toNat : Int)).map (Value.int .u8)) (fun j u hj => by
        rw [← hbv] at hj
        have hjl : 0 < n := by
          rcases Nat.eq_zero_or_pos n with h0 | h0
          · subst h0
            obtain rfl : l = [] := List.eq_nil_of_length_eq_zero hl
            simp [bv] at hj
          · exact h0
        obtain ⟨ad', he, hc⟩ := h.2 hjl
        injection he with he
        subst he
        exact hc j u hj)
      simpa [hl] using this
    rw [run_bytesToString w ad n c _ hload, foldl_push_bytes]
    congr 1
    have e : l.map ((fun n : Int => UInt8.ofNat n.toNat) ∘ fun b : UInt8 => (b.toNat : Int)) = l := by
      conv => rhs; rw [← List.map_id l]
      apply List.map_congr_left
      intro b _
      simp
    simp [strOf, ByteArray.empty, ByteArray.emptyWithCapacity]
    exact e

theorem prE_len : ∀ (obj : Bool) (l : List V), (∀ x ∈ l, (prV x).length = psz x) → ∀ (first : Bool) (ks : List (List UInt8)), (obj = true → ks.length = l.length) → (obj = false → ks = []) →
    (prE obj first l ks).length = (if first then l.length - 1 else l.length) + ksz ks + pszs l
  | obj, [], _, first, ks, ho, hf => by
    have hk : ks = [] := by
      cases obj with
      | false => exact hf rfl
      | true => exact List.eq_nil_of_length_eq_zero (ho rfl)
    subst hk
    cases first <;> simp [prE, ksz, pszs]
  | obj, v :: l, h, first, ks, ho, hf => by
    have ih := prE_len obj l (fun x hx => h x (List.mem_cons_of_mem _ hx)) false ks.tail (fun e => by have := ho e; simp at this ⊢; omega) (fun e => by rw [hf e]; rfl)
    have hv := h v List.mem_cons_self
    have e1 : (if first = true then ([] : List UInt8) else [44]).length = if first = true then 0 else 1 := by cases first <;> rfl
    cases obj with
    | false =>
      obtain rfl := hf rfl
      cases first <;> simp [prE, ih, hv, ksz, pszs] at * <;> omega
    | true =>
      cases ks with
      | nil => have := ho rfl; simp at this
      | cons s ks =>
        simp only [List.tail_cons] at ih
        cases first <;> simp [prE, ih, hv, ksz, pszs, quoted_len] <;> omega
theorem prV_len : ∀ v : V, fieldsV v = true → (prV v).length = psz v := by
  intro v
  induction v using V.ind with
  | h k n t l ks ih =>
    intro hv
    obtain ⟨hu, -, -, hfs⟩ := fields_kids hv
    rw [uses_iff] at hu
    have hx : ∀ x ∈ l, (prV x).length = psz x := fun x hx => ih x hx (fieldss_mem hfs x hx)
    have dl : k < 5 → l = [] := fun h => List.eq_nil_of_length_eq_zero (hu.lst h)
    have dk : k ≠ 6 → ks = [] := fun h => List.eq_nil_of_length_eq_zero (hu.key h)
    rw [prV, psz]
    unfold ownSz
    by_cases h1 : k = 1
    · rw [if_pos h1, if_pos h1, dl (by omega)]; rfl
    rw [if_neg h1, if_neg h1]
    by_cases h2 : k = 2
    · rw [if_pos h2, if_neg (by omega), if_neg (by omega), if_neg (by omega), dl (by omega)]; rfl
    rw [if_neg h2]
    by_cases h3 : k = 3
    · rw [if_pos h3, if_pos h3, dl (by omega)]; rfl
    rw [if_neg h3, if_neg h3]
    by_cases h4 : k = 4
    · rw [if_pos h4, if_pos h4, dl (by omega), quoted_len]; rfl
    rw [if_neg h4, if_neg h4]
    by_cases h5 : k = 5
    · rw [if_pos h5, if_pos (.inl h5)]
      simp only [List.length_cons, List.length_append, List.length_nil]
      rw [prE_len false l hx true ks (fun h => by cases h) (fun _ => dk (by omega))]
      simp
      omega
    rw [if_neg h5]
    by_cases h6 : k = 6
    · rw [if_pos h6, if_pos (.inr h6)]
      simp only [List.length_cons, List.length_append, List.length_nil]
      rw [prE_len true l hx true ks (fun _ => hu.obj h6) (fun h => by cases h)]
      simp
      omega
    rw [if_neg h6, if_neg (fun h => h.elim h5 h6), dl (by have := hu.k6; omega)]
    rfl
theorem may_fields {v : V} (h : mayV v = true) : fieldsV v = true ∧ (prV v).length ≤ 512 ∧ dep v ≤ 8 := by
  unfold mayV at h
  simp only [Bool.and_eq_true, decide_eq_true_eq] at h
  refine ⟨h.1.2, ?_, h.1.1⟩
  rw [prV_len v h.1.2]
  exact h.2
set_option maxRecDepth 100000 in
set_option maxHeartbeats 1000000 in
theorem print_c (v : V) (w : World) (D : Nat → Prop) (C : Array Value) (h : RdV D w C v) (hs : Sm v) (hL : LaidOk w) :
    Calls Tryz.prog 15 #[.agg C] w fun e w' => e = .returned (.tuple #[.string (if mayV v then strOf (prV v) else ⟨#[]⟩), .int .i64 (if mayV v then 0 else 1)]) ∧ Fr (fun _ => False) w w' := by
  have HRV := Lib.hid h.lts
  have HL := Lib.hid hL
  have HSC := Lib.hid (szV h)
  have MAY := Lib.hid (fun W (hW : Fr (fun _ => False) w W) => may_c v W D C (h.far hW) hs (hL.far hW))
  have h8 := hL.size
  clear h hs hL
  obtain ⟨z, hz⟩ : ∃ z, mayV v = z := ⟨_, rfl⟩
  have HZ := Lib.hid hz
  rw [hz] at MAY ⊢
  clear hz
  go_enter Tryz.func15, Tryz.ntmps15
  go_upto_region 1 with fail
  refine abs_world (fun W => Hid (Blk W w.heap.size 29 C) ∧ Hid (Fr (fun _ => False) w W)) ⟨Blk.new w _ _, (Fr.refl _ w).alloc _⟩ ?_
  rintro W1 ⟨B1, F1⟩
  have BA := Lib.hid (blk_all B1.out)
  go_wp2_with (refine wpList_load_val rfl 29 _ rfl w.heap.size _ rfl C BA.out _ Tryz.underlying29 rfl HSC.out ?_)
  refine (MAY.out W1 F1.out).mono ?_
  rintro e W2 ⟨rfl, f2⟩
  have F2 := Lib.hid (F1.out.trans f2 (fun _ _ h => h))
  have BA2 := Lib.hid (blk_all (keepB B1.out f2))
  have s2 := F2.out.size
  clear f2 BA
  cases z with
  | false =>
    go_wp2_with fail
    go_ret2
    exact ⟨rfl, F2.out⟩
  | true =>
    obtain ⟨hf, hlen, -⟩ := may_fields HZ.out
    have CALL := Lib.hid (text_c w.heap.size (fun b => D b ∧ b < w.heap.size) h8 (fun b hb => hb.2) v W2 C 0 [] (bv (prV v)) none 0 (HRV.out.far F2.out) hf (World.ownsRow_nil W2 _ _ _) (.inr rfl) s2 (by omega) (by simp) (HL.out.far F2.out))
    go_wp2_with (refine wpList_load_val rfl 29 _ rfl w.heap.size _ rfl C BA2.out _ Tryz.underlying29 rfl HSC.out ?_)
    refine CALL.out.mono ?_
    rintro e W3 ⟨A3, c3, rfl, o3, g3⟩
    have F3 : Hid (Fr (fun _ => False) w W3) := Lib.hid (F2.out.trans g3.1.old (fun i hi hq => by omega))
    rw [Nat.zero_add] at o3 ⊢
    have hcv := conv_str W3 A3 (prV v).length c3 (prV v) (Rd.of_own (by simpa using o3))
    clear o3 g3 CALL hlen hf
    go_wp2_with fail
    go_ret2
    exact ⟨rfl, F3.out⟩
end Go.Proofs.YtjaocgmicdnghaaGreatDoor.V1

/-
  CONTRACT of the law's parts and Long.
-/
namespace Go.Proofs.YtjaocgmicdnghaaGreatDoor.V1
set_option linter.unusedSimpArgs false
set_option linter.unusedVariables false
open Go Go.RowKit

def kparts : List (List UInt8) → Nat
  | [] => 0
  | s :: ks => 1 + s.length / 100 + kparts ks
mutual
def partsV : V → Nat → Nat
  | .mk _ _ t l ks, d => if d < 1 ∨ 3000 < l.length ∨ 3000 < ks.length ∨ 4000 < t.length then 100000 else partsL l (d - 1) (1 + t.length / 100 + kparts ks)
def partsL : List V → Nat → Nat → Nat
  | [], _, n => n
  | v :: l, d, n => if n < 100000 then partsL l d (n + partsV v d) else n
end
theorem kparts_snoc (l : List (List UInt8)) (s : List UInt8) : kparts (l ++ [s]) = kparts l + (1 + s.length / 100) := by
  induction l with
  | nil => simp [kparts]
  | cons a l ih => rw [List.cons_append, kparts, ih, kparts]; omega
theorem kparts_le (l : List (List UInt8)) (h : ∀ s ∈ l, s.length ≤ 140737488355328) : kparts l ≤ l.length * 1407374883555 := by
  induction l with
  | nil => simp [kparts]
  | cons a l ih =>
    have := ih (fun s hs => h s (List.mem_cons_of_mem _ hs))
    have := h a List.mem_cons_self
    rw [kparts, List.length_cons]
    omega
theorem lw1 : (Tryz.prog.info? 29).map (·.size) = some 5 := by kernel_rfl

theorem kparts_take (ks : List (List UInt8)) (i : Nat) : kparts (ks.take i) ≤ kparts ks := by
  induction ks generalizing i with
  | nil => simp
  | cons s ks ih =>
    cases i with
    | zero => simp [kparts]
    | succ i => have := ih i; rw [List.take_succ_cons, kparts, kparts]; omega
theorem kparts_bd {ks : List (List UInt8)} (h3 : ¬ 3000 < ks.length) (hk : ∀ s ∈ ks, s.length ≤ 140737488355328) : kparts ks ≤ 4222124650665000 := by
  have := kparts_le ks hk
  omega
theorem partsV_early {k n : Int} {t : List UInt8} {l : List V} {ks : List (List UInt8)} {d : Nat} (h : d < 1 ∨ 3000 < l.length ∨ 3000 < ks.length ∨ 4000 < t.length) : partsV (.mk k n t l ks) d = 100000 := by
  rw [partsV, if_pos h]
set_option maxHeartbeats 1000000 in
theorem parts_early (w : World) {D : Nat → Prop} {k n : Int} {t : List UInt8} {l : List V} {ks : List (List UInt8)} {Al Ak : Option Addr} {cl ck : Nat} {css : List (Array Value)} (hp : VP D w k n t l ks Al cl Ak ck css) (d : Nat) (hd : d ≤ 20)
    (h : d < 1 ∨ 3000 < l.length ∨ 3000 < ks.length ∨ 4000 < t.length) : Calls Tryz.prog 12 #[.agg (vcs k n t Al l.length cl Ak ks.length ck), .int .i64 (d : Int)] w fun e w' => e = .returned (.int .i64 100000) ∧ Fr (fun _ => False) w w' := by
  have hb1 := hp.b.tl
  have hb2 := hp.b.ll
  have hb3 := hp.b.kl
  have hts : (strOf t).size = t.length := strOf_size t
  by_cases h1 : d < 1
  · clear h
    have d1 : decide ((d : Int) < 1) = true := decide_eq_true (by omega)
    clear hp
    go_enter Tryz.func12, Tryz.ntmps12
    go_upto_region 1 with fail
    refine abs_world (fun W => Hid (Blk W w.heap.size 29 (vcs k n t Al l.length cl Ak ks.length ck)) ∧ Hid (Fr (fun _ => False) w W)) ⟨Blk.new w _ _, (Fr.refl _ w).alloc _⟩ ?_
    rintro W1 ⟨B1, F1⟩
    have c0 : W1.cell? ⟨w.heap.size, 0, none⟩ = some (.int .i64 k) := B1.out.cell 0
    have c2 : W1.cell? ⟨w.heap.size, 2, none⟩ = some (.string (strOf t)) := B1.out.cell 2
    have c3 : W1.cell? ⟨w.heap.size, 3, none⟩ = some (.slice Al l.length cl) := B1.out.cell 3
    have c4 : W1.cell? ⟨w.heap.size, 4, none⟩ = some (.slice Ak ks.length ck) := B1.out.cell 4
    go_wp2_with fail
    go_ret
    exact ⟨rfl, F1.out⟩
  by_cases h2 : 3000 < l.length
  · clear h
    have d1 : decide ((d : Int) < 1) = false := decide_eq_false (by omega)
    have d2 : decide (3000 < (l.length : Int)) = true := decide_eq_true (by omega)
    have d2' : decide (3000 < l.length) = true := decide_eq_true (by omega)
    clear hp
    go_enter Tryz.func12, Tryz.ntmps12
    go_upto_region 1 with fail
    refine abs_world (fun W => Hid (Blk W w.heap.size 29 (vcs k n t Al l.length cl Ak ks.length ck)) ∧ Hid (Fr (fun _ => False) w W)) ⟨Blk.new w _ _, (Fr.refl _ w).alloc _⟩ ?_
    rintro W1 ⟨B1, F1⟩
    have c0 : W1.cell? ⟨w.heap.size, 0, none⟩ = some (.int .i64 k) := B1.out.cell 0
    have c2 : W1.cell? ⟨w.heap.size, 2, none⟩ = some (.string (strOf t)) := B1.out.cell 2
    have c3 : W1.cell? ⟨w.heap.size, 3, none⟩ = some (.slice Al l.length cl) := B1.out.cell 3
    have c4 : W1.cell? ⟨w.heap.size, 4, none⟩ = some (.slice Ak ks.length ck) := B1.out.cell 4
    go_wp2_with fail
    go_ret
    exact ⟨rfl, F1.out⟩
  by_cases h3 : 3000 < ks.length
  · clear h
    have d1 : decide ((d : Int) < 1) = false := decide_eq_false (by omega)
    have d2 : decide (3000 < (l.length : Int)) = false := decide_eq_false (by omega)
    have d2' : decide (3000 < l.length) = false := decide_eq_false (by omega)
    have d3 : decide (3000 < (ks.length : Int)) = true := decide_eq_true (by omega)
    have d3' : decide (3000 < ks.length) = true := decide_eq_true (by omega)
    clear hp
    go_enter Tryz.func12, Tryz.ntmps12
    go_upto_region 1 with fail
    refine abs_world (fun W => Hid (Blk W w.heap.size 29 (vcs k n t Al l.length cl Ak ks.length ck)) ∧ Hid (Fr (fun _ => False) w W)) ⟨Blk.new w _ _, (Fr.refl _ w).alloc _⟩ ?_
    rintro W1 ⟨B1, F1⟩
    have c0 : W1.cell? ⟨w.heap.size, 0, none⟩ = some (.int .i64 k) := B1.out.cell 0
    have c2 : W1.cell? ⟨w.heap.size, 2, none⟩ = some (.string (strOf t)) := B1.out.cell 2
    have c3 : W1.cell? ⟨w.heap.size, 3, none⟩ = some (.slice Al l.length cl) := B1.out.cell 3
    have c4 : W1.cell? ⟨w.heap.size, 4, none⟩ = some (.slice Ak ks.length ck) := B1.out.cell 4
    go_wp2_with fail
    go_ret
    exact ⟨rfl, F1.out⟩
  by_cases h4 : 4000 < t.length
  · clear h
    have d1 : decide ((d : Int) < 1) = false := decide_eq_false (by omega)
    have d2 : decide (3000 < (l.length : Int)) = false := decide_eq_false (by omega)
    have d2' : decide (3000 < l.length) = false := decide_eq_false (by omega)
    have d3 : decide (3000 < (ks.length : Int)) = false := decide_eq_false (by omega)
    have d3' : decide (3000 < ks.length) = false := decide_eq_false (by omega)
    have d4 : decide (4000 < (t.length : Int)) = true := decide_eq_true (by omega)
    have d4' : decide (4000 < t.length) = true := decide_eq_true (by omega)
    clear hp
    go_enter Tryz.func12, Tryz.ntmps12
    go_upto_region 1 with fail
    refine abs_world (fun W => Hid (Blk W w.heap.size 29 (vcs k n t Al l.length cl Ak ks.length ck)) ∧ Hid (Fr (fun _ => False) w W)) ⟨Blk.new w _ _, (Fr.refl _ w).alloc _⟩ ?_
    rintro W1 ⟨B1, F1⟩
    have c0 : W1.cell? ⟨w.heap.size, 0, none⟩ = some (.int .i64 k) := B1.out.cell 0
    have c2 : W1.cell? ⟨w.heap.size, 2, none⟩ = some (.string (strOf t)) := B1.out.cell 2
    have c3 : W1.cell? ⟨w.heap.size, 3, none⟩ = some (.slice Al l.length cl) := B1.out.cell 3
    have c4 : W1.cell? ⟨w.heap.size, 4, none⟩ = some (.slice Ak ks.length ck) := B1.out.cell 4
    go_wp2_with fail
    go_ret
    exact ⟨rfl, F1.out⟩
  omega
theorem partsL_drop (l : List V) (d i n : Nat) (h : i < l.length) : partsL (l.drop i) d n = if n < 100000 then partsL (l.drop (i + 1)) d (n + partsV l[i] d) else n := by
  rw [List.drop_eq_getElem_cons h, partsL]
set_option maxHeartbeats 1000000 in
theorem parts_late (w : World) {D : Nat → Prop} {k n : Int} {t : List UInt8} {l : List V} {ks : List (List UInt8)} {Al Ak : Option Addr} {cl ck : Nat} {css : List (Array Value)} (hp : VP D w k n t l ks Al cl Ak ck css) (d : Nat) (hd : d ≤ 20)
    (h1 : ¬ d < 1) (h2 : ¬ 3000 < l.length) (h3 : ¬ 3000 < ks.length) (h4 : ¬ 4000 < t.length)
    (ih : ∀ (x : V), x ∈ l → ∀ (W : World) (C : Array Value), RdV D W C x → Calls Tryz.prog 12 #[.agg C, .int .i64 ((d : Int) - 1)] W fun e w' => e = .returned (.int .i64 (partsV x (d - 1))) ∧ Fr (fun _ => False) W w')
    (hbd : ∀ x ∈ l, partsV x (d - 1) ≤ 200000000000000000) :
    Calls Tryz.prog 12 #[.agg (vcs k n t Al l.length cl Ak ks.length ck), .int .i64 (d : Int)] w fun e w' => e = .returned (.int .i64 (partsL l (d - 1) (1 + t.length / 100 + kparts ks))) ∧ Fr (fun _ => False) w w' := by
  have hb1 := hp.b.tl
  have hb2 := hp.b.ll
  have hb3 := hp.b.kl
  have hts : (strOf t).size = t.length := strOf_size t
  have hkk := kparts_bd h3 hp.b.ks
  have d1 : decide ((d : Int) < 1) = false := decide_eq_false (by omega)
  have d2 : decide (3000 < (l.length : Int)) = false := decide_eq_false (by omega)
  have d2' : decide (3000 < l.length) = false := decide_eq_false (by omega)
  have d3 : decide (3000 < (ks.length : Int)) = false := decide_eq_false (by omega)
  have d3' : decide (3000 < ks.length) = false := decide_eq_false (by omega)
  have d4 : decide (4000 < (t.length : Int)) = false := decide_eq_false (by omega)
  have d4' : decide (4000 < t.length) = false := decide_eq_false (by omega)
  have HP := Lib.hid hp
  have IH := Lib.hid ih
  have HBD := Lib.hid hbd
  clear hp ih hbd
  go_enter Tryz.func12, Tryz.ntmps12
  go_upto_region 1 with fail
  refine abs_world (fun W => Hid (Blk W w.heap.size 29 (vcs k n t Al l.length cl Ak ks.length ck)) ∧ Hid (Fr (fun _ => False) w W)) ⟨Blk.new w _ _, (Fr.refl _ w).alloc _⟩ ?_
  rintro W1 ⟨B1, F1⟩
  have c0 : W1.cell? ⟨w.heap.size, 0, none⟩ = some (.int .i64 k) := B1.out.cell 0
  have c2 : W1.cell? ⟨w.heap.size, 2, none⟩ = some (.string (strOf t)) := B1.out.cell 2
  have c3 : W1.cell? ⟨w.heap.size, 3, none⟩ = some (.slice Al l.length cl) := B1.out.cell 3
  have c4 : W1.cell? ⟨w.heap.size, 4, none⟩ = some (.slice Ak ks.length ck) := B1.out.cell 4
  have HP1 := Lib.hid (HP.out.far F1.out)
  clear HP
  go_wp2_with fail
  have hps := kparts_take ks
  have HPS := Lib.hid hps
  clear hps
  go_loop [5, 6] (fun nv iv => ∃ i : Nat, i ≤ ks.length ∧ iv = .int .i64 (i : Int) ∧ nv = .int .i64 ((1 + t.length / 100 + kparts (ks.take i) : Nat) : Int)) (fun _ iv => ks.length - (intOf iv).toNat)
  case atStart => exact ⟨0, Nat.zero_le _, rfl, by simp [kparts]⟩
  case round =>
    obtain ⟨i, hi, rfl, rfl⟩ := hrel
    have hkp := HPS.out i
    by_cases hlt : i < ks.length
    · obtain ⟨b, off, hA, hc⟩ := HP1.out.key hlt
      subst hA
      have hq := HP1.out.b.ks ks[i] (List.getElem_mem hlt)
      have hsz : (strOf ks[i]).size = (ks[i]).length := strOf_size _
      have hdl : decide ((i : Int) < (ks.length : Int)) = true := decide_eq_true (by omega)
      have hdl' : decide (i < ks.length) = true := decide_eq_true hlt
      go_wp2_with fail
      go_round
      case rel => exact ⟨i + 1, by omega, by go_num, by rw [show ks.take (i + 1) = ks.take i ++ [ks[i]] by rw [List.take_succ_eq_append_getElem hlt], kparts_snoc]; go_num⟩
      case measure => simp [intOf]; omega
    · obtain rfl : i = ks.length := by omega
      have hdl : decide ((ks.length : Int) < (ks.length : Int)) = false := decide_eq_false (by omega)
      have hdl' : decide (ks.length < ks.length) = false := decide_eq_false (by omega)
      go_wp2_with fail
      have hn0 : 1 + t.length / 100 + kparts ks ≤ 200000000000100000 := by omega
      obtain ⟨n0, hn0e⟩ : ∃ n0 : Nat, 1 + t.length / 100 + kparts ks = n0 := ⟨_, rfl⟩
      rw [hn0e] at hn0
      have HN0 := Lib.hid hn0e
      clear hn0e hkp hkk c0 c2 c3 c4 hts
      go_loopw [5, 7] (fun nv iv wr => ∃ i m : Nat, i ≤ l.length ∧ m ≤ 200000000000100000 ∧ iv = .int .i64 (i : Int) ∧ nv = .int .i64 (m : Int) ∧ Hid (partsL l (d - 1) n0 = partsL (l.drop i) (d - 1) m) ∧ Hid (Fr (fun _ => False) W1 wr)) (fun _ iv _ => l.length - (intOf iv).toNat)
      case atStart => exact ⟨0, n0, Nat.zero_le _, by omega, rfl, by rw [← HN0.out]; go_num, rfl, Fr.refl _ _⟩
      case round =>
        obtain ⟨i, m, hi, hm, rfl, rfl, he, hf⟩ := hrel
        have BW := Lib.hid (B1.out.fr hf.out (fun h => h))
        have c3 : wr.cell? ⟨w.heap.size, 3, none⟩ = some (.slice Al l.length cl) := BW.out.cell 3
        by_cases hlt : i < l.length
        · have hdl2 : decide ((i : Int) < (l.length : Int)) = true := decide_eq_true (by omega)
          have hdl2' : decide (i < l.length) = true := decide_eq_true hlt
          by_cases hm1 : m < 100000
          · have hdm : decide ((m : Int) < 100000) = true := decide_eq_true (by omega)
            have hdm' : decide (m < 100000) = true := decide_eq_true (by omega)
            obtain ⟨b, off, C, hA, hci, hrv, hrg, h5⟩ := (HP1.out.far hf.out).at_ hlt
            subst hA
            have HC := Lib.hid hci
            have HR := Lib.hid hrv
            have HG := Lib.hid hrg
            have H5 := Lib.hid (show (Tryz.prog.info? 29).map (·.size) = some C.size by rw [h5]; exact lw1)
            have hxb := HBD.out l[i] (List.getElem_mem hlt)
            clear hci hrv hrg h5
            go_wp2_with (refine wpList_load_val rfl 29 _ rfl b _ rfl C HG.out _ Tryz.underlying29 rfl H5.out ?_)
            refine (IH.out l[i] (List.getElem_mem hlt) wr C HR.out).mono ?_
            rintro e W2 ⟨rfl, f2⟩
            have HF2 := Lib.hid (hf.out.trans f2 (fun _ _ h => h))
            have HE2 : Hid (partsL l (d - 1) n0 = partsL (l.drop (i + 1)) (d - 1) (m + partsV l[i] (d - 1))) := by
              refine Lib.hid ?_
              rw [he.out, partsL_drop l (d - 1) i m hlt, if_pos hm1]
            obtain ⟨y, hy⟩ : ∃ y, partsV l[i] (d - 1) = y := ⟨_, rfl⟩
            rw [hy] at HE2 hxb ⊢
            clear hy f2 BW c3 hf he HC HR HG H5
            go_wp2_with fail
            go_roundw
            case rel => exact ⟨i + 1, m + y, by omega, by omega, by go_num, by go_num, HE2.out, HF2.out⟩
            case measure => simp [intOf]; omega
          · have hdm : decide ((m : Int) < 100000) = false := decide_eq_false (by omega)
            have hdm' : decide (m < 100000) = false := decide_eq_false (by omega)
            have hr : partsL l (d - 1) n0 = m := by rw [he.out, partsL_drop l (d - 1) i m hlt, if_neg hm1]
            have HR := Lib.hid hr
            clear hr
            go_wp2_with fail
            go_ret
            exact ⟨ret_int (by rw [HN0.out, HR.out]), F1.out.trans hf.out (fun _ _ h => h)⟩
        · obtain rfl : i = l.length := by omega
          have hdl2 : decide ((l.length : Int) < (l.length : Int)) = false := decide_eq_false (by omega)
          have hdl2' : decide (l.length < l.length) = false := decide_eq_false (by omega)
          have hr : partsL l (d - 1) n0 = m := by rw [he.out, List.drop_length, partsL]
          have HR := Lib.hid hr
          clear hr
          go_wp2_with fail
          go_ret
          exact ⟨ret_int (by rw [HN0.out, HR.out]), F1.out.trans hf.out (fun _ _ h => h)⟩
theorem partsV_late {k n : Int} {t : List UInt8} {l : List V} {ks : List (List UInt8)} {d : Nat} (h : ¬ (d < 1 ∨ 3000 < l.length ∨ 3000 < ks.length ∨ 4000 < t.length)) : partsV (.mk k n t l ks) d = partsL l (d - 1) (1 + t.length / 100 + kparts ks) := by
  rw [partsV, if_neg h]
theorem partsL_le : ∀ (l : List V) (d n B : Nat), (∀ x ∈ l, partsV x d ≤ B) → n ≤ 100000 + B → partsL l d n ≤ 100000 + B
  | [], d, n, B, _, h => by rw [partsL]; exact h
  | x :: l, d, n, B, hx, h => by
    rw [partsL]
    have := hx x List.mem_cons_self
    split
    · exact partsL_le l d _ B (fun y hy => hx y (List.mem_cons_of_mem _ hy)) (by omega)
    · exact h
theorem parts_bd : ∀ (v : V) (d : Nat) (w : World) (D : Nat → Prop) (C : Array Value), RdV D w C v → partsV v d ≤ (d + 1) * 4300000000000000 := by
  intro v
  induction v using V.ind with
  | h k n t l ks ih =>
    intro d w D C h
    obtain ⟨k', n', t', l', ks', Al, cl, Ak, ck, css, e, rfl, hp⟩ := h.inv
    injection e with e1 e2 e3 e4 e5
    subst e1 e2 e3 e4 e5
    by_cases hc : d < 1 ∨ 3000 < l.length ∨ 3000 < ks.length ∨ 4000 < t.length
    · rw [partsV_early hc]
      omega
    · rw [partsV_late hc]
      simp only [not_or] at hc
      have hk := kparts_bd hc.2.2.1 hp.b.ks
      have hel : ∀ x ∈ l, partsV x (d - 1) ≤ d * 4300000000000000 := by
        intro x hx
        obtain ⟨i, hi, rfl⟩ := List.mem_iff_getElem.1 hx
        have := ih _ hx (d - 1) w D _ (hp.el i _ _ (List.getElem?_eq_getElem (by rw [hp.cn]; exact hi)) (List.getElem?_eq_getElem hi))
        rw [show d - 1 + 1 = d by omega] at this
        exact this
      by_cases hd : 4300000000000000 ≤ d * 4300000000000000
      · have := partsL_le l (d - 1) (1 + t.length / 100 + kparts ks) _ hel (by omega)
        omega
      · omega
theorem parts_c : ∀ (v : V) (d : Nat) (w : World) (D : Nat → Prop) (C : Array Value), RdV D w C v → d ≤ 20 → Calls Tryz.prog 12 #[.agg C, .int .i64 (d : Int)] w fun e w' => e = .returned (.int .i64 (partsV v d : Int)) ∧ Fr (fun _ => False) w w' := by
  intro v
  induction v using V.ind with
  | h k n t l ks ih =>
    intro d w D C h hd
    obtain ⟨k', n', t', l', ks', Al, cl, Ak, ck, css, e, rfl, hp⟩ := h.inv
    injection e with e1 e2 e3 e4 e5
    subst e1 e2 e3 e4 e5
    by_cases hc : d < 1 ∨ 3000 < l.length ∨ 3000 < ks.length ∨ 4000 < t.length
    · rw [partsV_early hc]
      exact parts_early w hp d hd hc
    · rw [partsV_late hc]
      simp only [not_or] at hc
      refine parts_late w (D := fun b => D b) hp d hd hc.1 hc.2.1 hc.2.2.1 hc.2.2.2 (fun x hx W C hC => ?_) (fun x hx => ?_)
      · have := ih x hx (d - 1) W _ C hC (by omega)
        rw [show ((d - 1 : Nat) : Int) = (d : Int) - 1 by omega] at this
        exact this
      · obtain ⟨i, hi, rfl⟩ := List.mem_iff_getElem.1 hx
        have := parts_bd l[i] (d - 1) w D _ (hp.el i _ _ (List.getElem?_eq_getElem (by rw [hp.cn]; exact hi)) (List.getElem?_eq_getElem hi))
        omega
theorem Long_c (v : V) (w : World) (D : Nat → Prop) (C : Array Value) (h : RdV D w C v) : Calls Tryz.prog 4 #[.agg C] w fun e w' => e = .returned (.bool (decide (4000 < partsV v 20))) ∧ Fr (fun _ => False) w w' := by
  have hc := fun W (hW : Fr (fun _ => False) w W) => parts_c v 20 W D C (h.far hW) (by omega)
  have hb := parts_bd v 20 w D C h
  have h5 : (Tryz.prog.info? 29).map (·.size) = some C.size := by rw [h.size]; exact lw1
  have HC := Lib.hid hc
  have H5 := Lib.hid h5
  clear hc h5 h
  go_enter Tryz.func4, Tryz.ntmps4
  go_upto_region 1 with fail
  refine abs_world (fun W => Hid (Blk W w.heap.size 29 C) ∧ Hid (Fr (fun _ => False) w W)) ⟨Blk.new w _ _, (Fr.refl _ w).alloc _⟩ ?_
  rintro W1 ⟨B1, F1⟩
  go_wp2_with (refine wpList_load_val rfl 29 _ rfl w.heap.size _ rfl C (by simpa using B1.out.rng) _ Tryz.underlying29 rfl H5.out ?_)
  refine (HC.out W1 F1.out).mono ?_
  rintro e W2 ⟨rfl, f2⟩
  have F2 := Lib.hid (F1.out.trans f2 (fun _ _ h => h))
  clear f2
  obtain ⟨m, hm⟩ : ∃ m, partsV v 20 = m := ⟨_, rfl⟩
  rw [hm] at hb ⊢
  have HM := Lib.hid hm
  clear hm
  by_cases hlt : 4000 < m
  · have d1 : decide (4000 < (m : Int)) = true := decide_eq_true (by omega)
    have d2 : decide (4000 < m) = true := decide_eq_true (by omega)
    go_wp2_with fail
    go_ret
    exact ⟨ret_bool (by rw [HM.out]; simp [hlt]), F2.out⟩
  · have d1 : decide (4000 < (m : Int)) = false := decide_eq_false (by omega)
    have d2 : decide (4000 < m) = false := decide_eq_false (by omega)
    go_wp2_with fail
    go_ret
    exact ⟨ret_bool (by rw [HM.out]; simp [hlt]), F2.out⟩
end Go.Proofs.YtjaocgmicdnghaaGreatDoor.V1

/-
  WHAT IS NOT LONG IS SMALL. No statement is proved here.
-/
namespace Go.Proofs.YtjaocgmicdnghaaGreatDoor.V1
set_option linter.unusedSimpArgs false
set_option linter.unusedVariables false
open Go Go.RowKit
theorem partsL_sm : ∀ (l : List V) (d n : Nat), partsL l d n ≤ 4000 → n ≤ 4000 ∧ ∀ x ∈ l, partsV x d ≤ 4000
  | [], d, n, h => by
    unfold partsL at h
    exact ⟨h, fun x hx => by cases hx⟩
  | v :: l, d, n, h => by
    unfold partsL at h
    by_cases hn : n < 100000
    · rw [if_pos hn] at h
      obtain ⟨h1, h2⟩ := partsL_sm l d _ h
      refine ⟨by omega, fun x hx => ?_⟩
      rcases List.mem_cons.1 hx with rfl | hx
      · omega
      · exact h2 x hx
    · rw [if_neg hn] at h
      omega
theorem kparts_mem : ∀ (l : List (List UInt8)) (s : List UInt8), s ∈ l → s.length / 100 ≤ kparts l
  | a :: l, s, h => by
    unfold kparts
    rcases List.mem_cons.1 h with rfl | h
    · omega
    · have := kparts_mem l s h
      omega
theorem sm_of_parts : ∀ (v : V) (d : Nat), partsV v d ≤ 4000 → Sm v := by
  intro v
  induction v using V.ind with
  | h k n t l ks ih =>
    intro d h
    unfold partsV at h
    by_cases hc : d < 1 ∨ 3000 < l.length ∨ 3000 < ks.length ∨ 4000 < t.length
    · rw [if_pos hc] at h
      omega
    · rw [if_neg hc] at h
      obtain ⟨h1, h2⟩ := partsL_sm l _ _ h
      refine .mk (by omega) (by omega) (by omega) (fun s hs => ?_) (fun x hx => ih x hx _ (h2 x hx))
      have := kparts_mem ks s hs
      omega
theorem sm_of_not_long {v : V} (h : decide (4000 < partsV v 20) = false) : Sm v := sm_of_parts v 20 (by simpa using h)
end Go.Proofs.YtjaocgmicdnghaaGreatDoor.V1

/-
  HOW A LAW's ARGUMENTS ARE OPENED: a value (of values).
-/
namespace Go.Proofs.YtjaocgmicdnghaaGreatDoor.V1
set_option linter.unusedSimpArgs false
set_option linter.unusedVariables false
open Go Go.RowKit Go.ChangeShapes Go.WideShapes Go.Deep

theorem oflat_at {α : Type} (f : α → List Value) (c : Nat) (hf : ∀ a, (f a).length = c) : ∀ (l : List α) (i : Nat) (h : i < l.length) (j : Nat), j < c → (l.flatMap f)[i * c + j]? = (f l[i])[j]?
  | a :: l, 0, _, j, hj => by
    rw [List.flatMap_cons, Nat.zero_mul, Nat.zero_add, List.getElem?_append_left (by rw [hf]; exact hj)]
    rfl
  | a :: l, i + 1, h, j, hj => by
    rw [List.flatMap_cons, List.getElem?_append_right (by rw [hf, Nat.add_mul]; omega), hf, show (i + 1) * c + j - c = i * c + j by rw [Nat.add_mul]; omega]
    exact oflat_at f c hf l i (by simpa using h) j hj
theorem oflat_len {α : Type} (f : α → List Value) (c : Nat) (hf : ∀ a, (f a).length = c) (l : List α) : (l.flatMap f).length = l.length * c := by
  induction l with
  | nil => simp
  | cons a l ih => rw [List.flatMap_cons, List.length_append, hf, ih, List.length_cons, Nat.add_mul]; omega
theorem rd_flat {α : Type} {W : World} {x : Addr} (f : α → List Value) (c : Nat) (hc : 0 < c) (hf : ∀ a, (f a).length = c) (l : List α) (h : ∀ (i : Nat) (hi : i < l.length) (j : Nat), j < c → W.cell? (x.add (i * c + j)) = (f l[i])[j]?) : Rd W (some x) (l.length * c) (l.flatMap f) := by
  refine ⟨oflat_len f c hf l, fun _ => ⟨x, rfl, fun q u hu => ?_⟩⟩
  have hq : q < l.length * c := by rw [← oflat_len f c hf l]; exact (List.getElem?_eq_some_iff.1 hu).1
  have hi : q / c < l.length := (Nat.div_lt_iff_lt_mul hc).2 hq
  have hj : q % c < c := Nat.mod_lt _ hc
  have e : q / c * c + q % c = q := by rw [Nat.mul_comm]; exact Nat.div_add_mod q c
  have h1 := h (q / c) hi (q % c) hj
  have h2 := oflat_at f c hf l (q / c) hi (q % c) hj
  rw [e] at h1 h2
  rw [h1, ← h2, hu]
theorem weightsAll_mem {H : Type} {P : Program} {e : TypeId} : ∀ {l : List (DataW H)} {d : DataW H}, d ∈ l → ∀ n ∈ d.weights P e, n ∈ DataW.weightsAll P e l
  | x :: l, d, h, n, hn => by
    simp only [DataW.weightsAll, List.mem_append]
    rcases List.mem_cons.1 h with rfl | h
    · exact Or.inl hn
    · exact Or.inr (weightsAll_mem h n hn)
section
variable {H : Type} {enc : TypeId × Value → H} {P : Program} {W : World} {base : Nat} {spare : Nat → Bool} {held : Bool}
/-- A slice, by its elements: each with less fuel. -/
theorem open_elems {α : Type} (z : α) (f : α → List Value) (Ok : α → Prop) {t e : TypeId} {c fuel : Nat} (ht : P.underlying t = some (.slice e)) (hC : P.cellsOf e = c) (hc : 0 < c) (hb : 1 ≤ P.bytesOf e) (hf : ∀ a, (f a).length = c)
    (hel : ∀ n, n < fuel → ∀ cs y, cs.length = c → DataW.trod enc P W base spare held n e cs = some y → (∀ k ∈ y.1.weights P e, k ≤ reachBytes) → ∃ a, Ok a ∧ cs = f a)
    {a : Option Addr} {len cap : Nat} {y : DataW H × List MemPlace} (h : DataW.trod enc P W base spare held fuel t [.slice a len cap] = some y) (hw : ∀ n ∈ y.1.weights P t, n ≤ reachBytes) :
    len ≤ cap ∧ len ≤ 140737488355328 ∧ ∃ l : List α, l.length = len ∧ Rd W a (len * c) (l.flatMap f) ∧ ∀ x ∈ l, Ok x := by
  rcases DataW.trod_slice ht h with ⟨hcs, _⟩ | ⟨x, len', cap', elems, rest, n, hfu, hcs, hy, _, hl, hm, hlen, hin, _, _⟩
  · injection hcs with hcs
    injection hcs with h1 h2 h3
    subst h1 h2 h3
    exact ⟨Nat.le_refl _, by omega, [], rfl, by rw [Nat.zero_mul]; exact Rd.none_ _ _, fun _ h => by cases h⟩
  · injection hcs with hcs
    injection hcs with h1 h2 h3
    subst h1 h2 h3
    subst hlen
    have hd1 : y.1 = .slice (elems.map (·.1)) (rest.map (·.1)) := congrArg Prod.fst hy
    have hlb : elems.length ≤ 140737488355328 := by
      have h1 := hw ((elems.map (·.1)).length * P.bytesOf e + (rest.map (·.1)).length * P.bytesOf e) (by rw [hd1]; simp only [DataW.weights, ht]; rw [← Nat.add_mul]; exact List.mem_cons_self)
      rw [List.length_map] at h1
      have h2 := Nat.le_mul_of_pos_right elems.length hb
      unfold reachBytes at h1
      omega
    have key : ∀ i, ∃ t : α, i < elems.length → Ok t ∧ ∀ j, j < c → W.cell? (x.add (i * c + j)) = (f t)[j]? := by
      intro i
      by_cases hil : i < elems.length
      · have hi := hin i hil
        rw [List.getElem?_eq_getElem hil, Option.bind_eq_some_iff] at hi
        obtain ⟨cs', hc', ht'⟩ := hi
        rw [hC] at hc'
        obtain ⟨_, hcl, hat⟩ := World.cells?_some hc'
        obtain ⟨t, hok, rfl⟩ := hel n (by omega) cs' _ hcl ht' (fun k hk => hw k (by
          rw [hd1]
          simp only [DataW.weights, ht, List.mem_cons, List.mem_append]
          exact Or.inr (Or.inl (weightsAll_mem (List.mem_map.2 ⟨elems[i], List.getElem_mem hil, rfl⟩) k hk))))
        refine ⟨t, fun _ => ⟨hok, fun j hj => ?_⟩⟩
        have := hat j hj
        rw [Go.Deep.add_add] at this
        rw [this]
      · exact ⟨z, fun h => absurd h hil⟩
    obtain ⟨g, hg⟩ := Classical.axiomOfChoice key
    refine ⟨hl, hlb, (List.range elems.length).map g, by simp, ?_, fun t ht' => ?_⟩
    · have := rd_flat (W := W) (x := x) f c hc hf ((List.range elems.length).map g) (fun i hi' j hj => by
        have hil : i < elems.length := by simpa using hi'
        rw [(hg i hil).2 j hj]
        simp)
      simpa using this
    · obtain ⟨i, hi', rfl⟩ := List.mem_map.1 ht'
      exact (hg i (List.mem_range.1 hi')).1
end
theorem one_flat : ∀ ks : List (List UInt8), ks.flatMap (fun s => [Value.string (strOf s)]) = strs ks
  | [] => rfl
  | a :: l => by
    rw [List.flatMap_cons, one_flat l]
    rfl
theorem rd_lt {W : World} {A : Option Addr} {n : Nat} {xs : List Value} (h : Rd W A n xs) (hn : 0 < n) (b : Nat) (hb : inA A b) : b < W.heap.size := by
  obtain ⟨b', off, rfl, hc⟩ := h.lit hn
  obtain ⟨ad, h1, h2⟩ := hb
  injection h1 with h1
  subst h1
  have h2 : b' = b := h2
  subst h2
  have hx := hc 0 hn
  have hl := h.1
  rw [List.getElem?_eq_getElem (by omega)] at hx
  exact World.block_lt_of_cell? _ _ hx
theorem list5 : ∀ (l : List Value), l.length = 5 → ∃ c0 c1 c2 c3 c4, l = [c0, c1, c2, c3, c4]
  | [a, b, c, d, e], _ => ⟨a, b, c, d, e, rfl⟩
abbrev VA := { x : Array Value × V // x.1.size = 5 }
section
variable {H : Type} {enc : TypeId × Value → H} {W : World} {base : Nat} {spare : Nat → Bool} {held : Bool}
set_option maxRecDepth 20000 in
theorem val_at : ∀ (n : Nat) (cs : List Value) (y : DataW H × List MemPlace), cs.length = 5 → DataW.trod enc Tryz.prog W base spare held n 29 cs = some y → (∀ k ∈ y.1.weights Tryz.prog 29, k ≤ reachBytes) → ∃ v, RdV (fun b => b < W.heap.size) W cs.toArray v := by
  intro n
  induction n using Nat.strongRecOn with
  | _ n ih =>
    intro cs y hl h hw
    obtain ⟨xs, m, hnm, hx, _, hxl, hf⟩ := DataW.trod_struct Tryz.underlying29 h
    obtain ⟨c0, c1, c2, c3, c4, rfl⟩ := list5 cs hl
    obtain ⟨y0, y1, y2, y3, y4, rfl⟩ : ∃ y0 y1 y2 y3 y4, xs = [y0, y1, y2, y3, y4] := by
      have hxl2 : xs.length = 5 := hxl
      match xs, hxl2 with
      | [a, b, c, d, e], _ => exact ⟨a, b, c, d, e, rfl⟩
    have h0 : DataW.trod enc Tryz.prog W base spare held m 3 (([c0, c1, c2, c3, c4].drop 0).take (Tryz.prog.cellsOf 3)) = some y0 := by simpa using hf 0 _ rfl
    have h1 : DataW.trod enc Tryz.prog W base spare held m 2 (([c0, c1, c2, c3, c4].drop 1).take (Tryz.prog.cellsOf 2)) = some y1 := by simpa using hf 1 _ rfl
    have h2 : DataW.trod enc Tryz.prog W base spare held m 9 (([c0, c1, c2, c3, c4].drop 2).take (Tryz.prog.cellsOf 9)) = some y2 := by simpa using hf 2 _ rfl
    have h3 : DataW.trod enc Tryz.prog W base spare held m 26 (([c0, c1, c2, c3, c4].drop 3).take (Tryz.prog.cellsOf 26)) = some y3 := by simpa using hf 3 _ rfl
    have h4 : DataW.trod enc Tryz.prog W base spare held m 27 (([c0, c1, c2, c3, c4].drop 4).take (Tryz.prog.cellsOf 27)) = some y4 := by simpa using hf 4 _ rfl
    rw [show Tryz.prog.cellsOf 3 = 1 by kernel_rfl] at h0
    rw [show Tryz.prog.cellsOf 2 = 1 by kernel_rfl] at h1
    rw [show Tryz.prog.cellsOf 9 = 1 by kernel_rfl] at h2
    rw [show Tryz.prog.cellsOf 26 = 1 by kernel_rfl] at h3
    rw [show Tryz.prog.cellsOf 27 = 1 by kernel_rfl] at h4
    obtain ⟨a0, e0, -, w0⟩ := DataW.trod_int Tryz.underlying3 h0
    obtain ⟨a1, e1, -, w1⟩ := DataW.trod_int Tryz.underlying2 h1
    obtain ⟨a2, e2, q2, w2⟩ := DataW.trod_string Tryz.underlying9 h2
    have b0 := bounds_i64 w0
    have b1 := bounds_i64 w1
    have hx1 : y.1 = .agg [y0.1, y1.1, y2.1, y3.1, y4.1] := by rw [hx]; rfl
    have g2 : a2.data.toList.length ≤ reachBytes := hw _ (by rw [hx1, q2]; simp [DataW.weights, DataW.weightsEach, Tryz.underlying29])
    have g3 : ∀ k ∈ y3.1.weights Tryz.prog 26, k ≤ reachBytes := fun k hk => hw k (by rw [hx1]; simp [DataW.weights, DataW.weightsEach, Tryz.underlying29, hk])
    have g4 : ∀ k ∈ y4.1.weights Tryz.prog 27, k ≤ reachBytes := fun k hk => hw k (by rw [hx1]; simp [DataW.weights, DataW.weightsEach, Tryz.underlying29, hk])
    unfold reachBytes at g2
    simp at e0 e1 e2
    subst e0 e1 e2
    have h3 : DataW.trod enc Tryz.prog W base spare held m 26 [c3] = some y3 := h3
    have h4 : DataW.trod enc Tryz.prog W base spare held m 27 [c4] = some y4 := h4
    obtain ⟨A3, n3, k3, e3⟩ := Joins.slice_form Tryz.underlying26 h3
    obtain ⟨A4, n4, k4, e4⟩ := Joins.slice_form Tryz.underlying27 h4
    cases e3
    cases e4
    obtain ⟨l1, l2, ks, l3, l4, l5⟩ := open_elems (α := List UInt8) [] (fun s => [.string (strOf s)]) (fun s => s.length ≤ 140737488355328) Tryz.underlying27 (by kernel_rfl) (by omega : 0 < 1) (of_decide_eq_true (by kernel_rfl)) (fun _ => rfl)
      (fun n' hn' cs' y' hl' hy' hw' => by
        obtain ⟨u, rfl⟩ : ∃ u, cs' = [u] := by
          match cs', hl' with
          | [u], _ => exact ⟨u, rfl⟩
        obtain ⟨s, es, qs, _⟩ := DataW.trod_string Tryz.underlying9 hy'
        have gs : s.data.toList.length ≤ reachBytes := hw' _ (by rw [qs]; simp [DataW.weights])
        unfold reachBytes at gs
        cases es
        exact ⟨s.data.toList, by omega, by rw [strOf_of]⟩) h4 g4
    obtain ⟨m1, m2, vs, m3, m4, m5⟩ := open_elems (α := VA) ⟨(vcs 0 0 [] none 0 0 none 0 0, V.zero), rfl⟩ (fun x => x.1.1.toList) (fun x => RdV (fun b => b < W.heap.size) W x.1.1 x.1.2) Tryz.underlying26 (by kernel_rfl) (by omega : 0 < 5) (of_decide_eq_true (by kernel_rfl)) (fun x => by rw [Array.length_toList]; exact x.2)
      (fun n' hn' cs' y' hl' hy' hw' => by
        obtain ⟨v, hv⟩ := ih n' (by omega) cs' y' hl' hy' hw'
        exact ⟨⟨(cs'.toArray, v), by simpa using hl'⟩, hv, by simp⟩) h3 g3
    subst l3
    have hkr : Rd W A4 ks.length (strs ks) := by
      rw [Nat.mul_one, one_flat] at l4
      exact l4
    have hln : (vs.map (·.1.2)).length = n3 := by rw [List.length_map]; exact m3
    have hfl : flat (vs.map (·.1.1)) = vs.flatMap (fun x => x.1.1.toList) := by
      unfold flat
      rw [List.flatMap_map]
    have hlr : Rd W A3 ((vs.map (·.1.2)).length * 5) (flat (vs.map (·.1.1))) := by
      rw [hln, hfl]
      exact m4
    refine ⟨.mk a0 a1 a2.data.toList (vs.map (·.1.2)) ks, ?_⟩
    have hb : VB a0 a1 a2.data.toList (vs.map (·.1.2)).length ks := ⟨b0.1, b0.2, b1.1, b1.2, by omega, by rw [hln]; exact m2, l2, l5⟩
    have := RdV.mk (D := fun b => b < W.heap.size) (w := W) (Al := A3) (cl := k3) (Ak := A4) (ck := k4) (vs.map (·.1.1)) hb hkr (fun hn b hb' => rd_lt hkr hn b hb') l1 (by simp) (fun C hC => by
      obtain ⟨x, _, rfl⟩ := List.mem_map.1 hC
      exact x.2) hlr (fun hn b hb' => rd_lt hlr (by omega) b hb') (by rw [hln]; exact m1) (fun i C x h1 h2 => by
      rw [List.getElem?_map] at h1 h2
      cases hx' : vs[i]? with
      | none => rw [hx'] at h1; cases h1
      | some z =>
        rw [hx'] at h1 h2
        cases h1
        cases h2
        exact m5 z (List.mem_of_getElem? hx'))
    rw [hln] at this
    have e : (vcs a0 a1 a2.data.toList A3 n3 k3 A4 ks.length k4) = #[.int .i64 a0, .int .i64 a1, .string a2, .slice A3 n3 k3, .slice A4 ks.length k4] := by
      unfold vcs
      rw [strOf_of]
    rw [e] at this
    exact this

set_option maxRecDepth 20000 in
theorem open_val {b0 : Nat} {r : Reach} {v : Value} {d : DataW H} {p : List MemPlace} (hv : Value.okWide Tryz.prog W r b0 29 v) (h : DataW.Trod enc Tryz.prog W base spare held 29 v d p) (hw : ∀ n ∈ d.weights Tryz.prog 29, n ≤ reachBytes) :
    ∃ C x, v = .agg C ∧ RdV (fun b => b < W.heap.size) W C x := by
  obtain ⟨xs, rfl, hs⟩ := okWide_struct Tryz.underlying29 hv
  obtain ⟨fuel, hf⟩ := h
  have hs5 : xs.toList.length = 5 := by rw [Array.length_toList, hs]; kernel_rfl
  obtain ⟨x, hx⟩ := val_at fuel xs.toList _ hs5 hf hw
  exact ⟨xs, x, rfl, by simpa using hx⟩
end
end Go.Proofs.YtjaocgmicdnghaaGreatDoor.V1
