/-
  AN INDEX AS A LIST; CONTRACTS of slices.BinarySearchFunc and of find.
-/
import Derived.Test.YtillifkilkjpdaaDoorStr
namespace Go.Proofs.YtillifkilkjpdaaDoor
set_option linter.unusedSimpArgs false
set_option linter.unusedVariables false
open Go Go.RowKit

/-- Entries: texts and numbers. -/
abbrev Ents := List (List UInt8 × Int)
def ec (m : Ents) : List Value := m.flatMap fun e => [.string (strOf e.1), .int .i64 e.2]
theorem ec_nil : ec [] = [] := rfl
theorem ec_cons (e : List UInt8 × Int) (m : Ents) : ec (e :: m) = .string (strOf e.1) :: .int .i64 e.2 :: ec m := rfl
theorem ec_append (m l : Ents) : ec (m ++ l) = ec m ++ ec l := by simp [ec]
theorem ec_length (m : Ents) : (ec m).length = m.length * 2 := by
  induction m with
  | nil => rfl
  | cons e m ih => rw [ec_cons, List.length_cons, List.length_cons, List.length_cons, ih]; omega
theorem ec_key : ∀ (m : Ents) (j : Nat) (h : j < m.length), (ec m)[j * 2]? = some (.string (strOf m[j].1))
  | e :: m, 0, _ => rfl
  | e :: m, j + 1, h => by
    rw [ec_cons, show (j + 1) * 2 = j * 2 + 1 + 1 by omega, List.getElem?_cons_succ, List.getElem?_cons_succ]
    exact ec_key m j (by simpa using h)
theorem ec_val : ∀ (m : Ents) (j : Nat) (h : j < m.length), (ec m)[j * 2 + 1]? = some (.int .i64 m[j].2)
  | e :: m, 0, _ => rfl
  | e :: m, j + 1, h => by
    rw [ec_cons, show (j + 1) * 2 + 1 = j * 2 + 1 + 1 + 1 by omega, List.getElem?_cons_succ, List.getElem?_cons_succ]
    exact ec_val m j (by simpa using h)
theorem ec_one (m : Ents) : ∀ u ∈ ec m, u.oneCell' = true := by
  intro u hu
  obtain ⟨e, _, he⟩ := List.mem_flatMap.1 hu
  simp at he
  rcases he with rfl | rfl <;> rfl
theorem ec_take (m : Ents) (k : Nat) : ec (m.take k) = (ec m).take (k * 2) := by
  induction m generalizing k with
  | nil => simp [ec]
  | cons e m ih => cases k with
    | zero => simp [ec]
    | succ k => rw [List.take_succ_cons, ec_cons, ec_cons, ih, show (k + 1) * 2 = k * 2 + 1 + 1 by omega, List.take_succ_cons, List.take_succ_cons]
theorem ec_drop (m : Ents) (k : Nat) : ec (m.drop k) = (ec m).drop (k * 2) := by
  induction m generalizing k with
  | nil => simp [ec]
  | cons e m ih => cases k with
    | zero => simp
    | succ k => rw [List.drop_succ_cons, ec_cons, ih, show (k + 1) * 2 = k * 2 + 1 + 1 by omega, List.drop_succ_cons, List.drop_succ_cons]
/-- Keys rise, each once. -/
def Srt (m : Ents) : Prop := m.Pairwise fun a b => kl a.1 b.1 = true
/-- Where the first key stands that is not less. -/
def pos (m : Ents) (key : List UInt8) : Nat := (m.takeWhile fun e => kl e.1 key).length
def fnd (m : Ents) (key : List UInt8) : Bool := m.any fun e => e.1 == key
theorem pos_le (m : Ents) (key : List UInt8) : pos m key ≤ m.length := by
  unfold pos
  exact (List.takeWhile_prefix _).length_le
theorem pos_cons (e : List UInt8 × Int) (m : Ents) (key : List UInt8) : pos (e :: m) key = if kl e.1 key then pos m key + 1 else 0 := by
  unfold pos
  rw [List.takeWhile_cons]
  split <;> simp_all
theorem srt_pos : ∀ (m : Ents) (_ : Srt m) (key : List UInt8) (h : Nat) (hh : h < m.length), kl m[h].1 key = decide (h < pos m key)
  | e :: m, hs, key, h, hh => by
    have hs1 := (List.pairwise_cons.1 hs)
    rw [pos_cons]
    cases hk : kl e.1 key with
    | true =>
      rw [if_pos rfl]
      cases h with
      | zero => simp [hk]
      | succ h =>
        have := srt_pos m hs1.2 key h (by simpa using hh)
        simp only [List.getElem_cons_succ]
        rw [this]
        simp
    | false =>
      rw [if_neg (by decide)]
      simp only [Nat.not_lt_zero, decide_false]
      cases h with
      | zero => exact hk
      | succ h =>
        simp only [List.getElem_cons_succ]
        have hm := hs1.1 (m[h]'(by simpa using hh)) (List.getElem_mem _)
        exact kl_le_trans (b := e.1) hk (kl_asym hm)
theorem fnd_pos (m : Ents) (hs : Srt m) (key : List UInt8) (h : pos m key < m.length) : fnd m key = decide (m[pos m key].1 = key) := by
  have h1 := srt_pos m hs key (pos m key) h
  rw [decide_eq_false (Nat.lt_irrefl _)] at h1
  rw [Bool.eq_iff_iff]
  simp only [fnd, List.any_eq_true, beq_iff_eq, decide_eq_true_eq]
  constructor
  · rintro ⟨e, he, rfl⟩
    obtain ⟨j, hj, rfl⟩ := List.mem_iff_getElem.1 he
    have hj2 := srt_pos m hs m[j].1 j hj
    rw [kl_irr] at hj2
    have hj3 : ¬ j < pos m m[j].1 := by simpa using hj2.symm
    rcases Nat.lt_or_ge (pos m m[j].1) j with hlt | hge
    · have := (List.pairwise_iff_getElem.1 hs) _ _ h hj hlt
      rw [h1] at this
      cases this
    · have e2 : pos m m[j].1 = j := by omega
      simp only [e2]
  · intro e
    exact ⟨_, List.getElem_mem h, e⟩
theorem fnd_end (m : Ents) (hs : Srt m) (key : List UInt8) (h : pos m key = m.length) : fnd m key = false := by
  rw [Bool.eq_false_iff]
  intro hf
  simp only [fnd, List.any_eq_true, beq_iff_eq] at hf
  obtain ⟨e, he, rfl⟩ := hf
  obtain ⟨j, hj, rfl⟩ := List.mem_iff_getElem.1 he
  have := srt_pos m hs m[j].1 j hj
  rw [kl_irr, h, decide_eq_true hj] at this
  cases this
theorem cmpK_lt (a b : List UInt8) : decide (cmpK a b < 0) = kl a b := by
  unfold cmpK
  cases kl a b
  · by_cases h : a = b <;> simp [h]
  · simp
theorem cmpK_eq (a b : List UInt8) : (cmpK a b == 0) = decide (a = b) := by
  unfold cmpK
  cases hk : kl a b with
  | true => simp [kl_ne hk]
  | false => by_cases h : a = b <;> simp [h]

set_option maxRecDepth 100000 in
set_option maxHeartbeats 1000000 in
theorem bsf_c (w : World) (A : Option Addr) (c : Nat) (m : Ents) (key : List UInt8) (hA : Rd w A (m.length * 2) (ec m)) (hc : m.length ≤ c) (hm : m.length ≤ 140737488355328) (hs : Srt m) :
    Calls Tryd.prog 45 #[.slice A m.length c, .string (strOf key), .func (.func 46) #[] #[]] w fun e w' => e = .returned (.tuple #[.int .i64 (pos m key : Nat), .bool (fnd m key)]) ∧ Fr (fun _ => False) w w' := by
  have HA := Lib.hid hA
  have HS := Lib.hid hs
  have HP := Lib.hid (pos_le m key)
  obtain ⟨n, hn⟩ : ∃ n, m.length = n := ⟨_, rfl⟩
  rw [hn] at HA HP hc hm ⊢
  have HN := Lib.hid hn
  clear hA hs hn
  go_enter Tryd.func45, Tryd.ntmps45
  go_wp2_with fail
  go_loopw [9, 10] (fun iv jv wr => ∃ i j : Nat, iv = .int .i64 i ∧ jv = .int .i64 j ∧ i ≤ pos m key ∧ pos m key ≤ j ∧ j ≤ n ∧ Hid (Fr (fun _ => False) w wr)) (fun iv jv _ => (intOf jv - intOf iv).toNat)
  case atStart => exact ⟨0, n, rfl, rfl, Nat.zero_le _, HP.out, Nat.le_refl _, Fr.refl _ _⟩
  case round =>
    obtain ⟨i, j, rfl, rfl, hi, hj, hjn, hf⟩ := hrel
    obtain ⟨p, hp⟩ : ∃ p, pos m key = p := ⟨_, rfl⟩
    rw [hp] at hi hj
    by_cases hlt : i < j
    · have hdl : decide ((i : Int) < j) = true := decide_eq_true (by omega)
      obtain ⟨h, hh⟩ : ∃ h, (i + j) / 2 = h := ⟨_, rfl⟩
      have h1 : i ≤ h := by omega
      have h2 : h < j := by omega
      have hq : ((i : Int) + (j : Int)) / 2 = (h : Int) := by rw [← hh]; omega
      have hhn : (h : Int) < n := by omega
      have hhn0 : h < n := by omega
      clear hh
      obtain ⟨b, off, rfl, hcl⟩ := HA.out.lit (by omega)
      have HCL := Lib.hid hcl
      clear hcl
      have x1 : w.cell? ⟨b, off + h * 2, none⟩ = some (.string (strOf (m[h]'(by have := HN.out; omega)).1)) := by
        rw [HCL.out _ (by omega)]
        exact ec_key m h _
      have x2 : w.cell? ⟨b, off + h * 2 + 1, none⟩ = some (.int .i64 (m[h]'(by have := HN.out; omega)).2) := by
        rw [Nat.add_assoc, HCL.out _ (by omega)]
        exact ec_val m h _
      have hbl : b < w.heap.size := HA.out.lt (by omega) ⟨_, rfl, rfl⟩
      rw [← hf.out.cell hbl (fun h => h)] at x1 x2
      obtain ⟨kk, hkk⟩ : ∃ kk, (m[h]'(by have := HN.out; omega)).1 = kk := ⟨_, rfl⟩
      obtain ⟨vv, hvv⟩ : ∃ vv, (m[h]'(by have := HN.out; omega)).2 = vv := ⟨_, rfl⟩
      rw [hkk] at x1
      rw [hvv] at x2
      have hkl : decide (cmpK kk key < 0) = decide (h < p) := by
        rw [cmpK_lt, ← hkk, ← hp]
        exact srt_pos m HS.out key h _
      clear hkk hvv
      have HF := Lib.hid hf.out
      by_cases hhp : h < p
      · rw [decide_eq_true hhp] at hkl
        go_wp2_with fail
        refine (find1_c _ kk key vv).mono ?_
        rintro e w2 ⟨rfl, f2⟩
        go_wp2_with fail
        exact ⟨⟨h + 1, j, by push_cast; rfl, rfl, by omega, by omega, by omega, HF.out.trans f2 (fun _ _ h => h)⟩, by simp only [intOf]; omega⟩
      · rw [decide_eq_false hhp] at hkl
        go_wp2_with fail
        refine (find1_c _ kk key vv).mono ?_
        rintro e w2 ⟨rfl, f2⟩
        go_wp2_with fail
        exact ⟨⟨i, h, rfl, rfl, by omega, by omega, by omega, HF.out.trans f2 (fun _ _ h => h)⟩, by simp only [intOf]; omega⟩
    · have hdl : decide ((i : Int) < j) = false := decide_eq_false (by omega)
      obtain rfl : i = p := by omega
      obtain rfl : j = i := by omega
      have HPE := Lib.hid hp
      have HF := Lib.hid hf.out
      clear hp
      by_cases hjn2 : j < n
      · have hdn : decide ((j : Int) < n) = true := decide_eq_true (by omega)
        obtain ⟨b, off, rfl, hcl⟩ := HA.out.lit (by omega)
        have HCL := Lib.hid hcl
        clear hcl
        have x1 : w.cell? ⟨b, off + j * 2, none⟩ = some (.string (strOf (m[j]'(by have := HN.out; omega)).1)) := by
          rw [HCL.out _ (by omega)]
          exact ec_key m j _
        have x2 : w.cell? ⟨b, off + j * 2 + 1, none⟩ = some (.int .i64 (m[j]'(by have := HN.out; omega)).2) := by
          rw [Nat.add_assoc, HCL.out _ (by omega)]
          exact ec_val m j _
        have hbl : b < w.heap.size := HA.out.lt (by omega) ⟨_, rfl, rfl⟩
        rw [← hf.out.cell hbl (fun h => h)] at x1 x2
        obtain ⟨kk, hkk⟩ : ∃ kk, (m[j]'(by have := HN.out; omega)).1 = kk := ⟨_, rfl⟩
        obtain ⟨vv, hvv⟩ : ∃ vv, (m[j]'(by have := HN.out; omega)).2 = vv := ⟨_, rfl⟩
        rw [hkk] at x1
        rw [hvv] at x2
        have hfd : (cmpK kk key == 0) = fnd m key := by
          rw [cmpK_eq, ← hkk, fnd_pos m HS.out key (by rw [HPE.out, HN.out]; omega)]
          simp only [HPE.out]
        have HFD := Lib.hid hfd
        clear hfd hkk hvv
        go_wp2_with fail
        refine (find1_c _ kk key vv).mono ?_
        rintro e w2 ⟨rfl, f2⟩
        go_wp2_with fail
        go_ret2
        refine ⟨?_, HF.out.trans f2 (fun _ _ h => h)⟩
        show Ending.returned (.tuple #[.int .i64 (j : Nat), .bool (cmpK kk key == 0)]) = _
        rw [HFD.out, HPE.out]
      · have hdn : decide ((j : Int) < n) = false := decide_eq_false (by omega)
        obtain rfl : j = n := by omega
        have hfd : fnd m key = false := fnd_end m HS.out key (by rw [HPE.out, HN.out])
        go_wp2_with fail
        go_ret2
        refine ⟨?_, HF.out⟩
        show Ending.returned (.tuple #[.int .i64 (j : Nat), .bool false]) = _
        rw [hfd, HPE.out]
end Go.Proofs.YtillifkilkjpdaaDoor
