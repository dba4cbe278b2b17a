/-
  CONTRACT of the reference's Scan, over a row in order; of same.
-/
import Derived.Test.YtillifkilkjpdaaDoorRset
namespace Go.Proofs.YtillifkilkjpdaaDoor
set_option linter.unusedSimpArgs false
set_option linter.unusedVariables false
open Go Go.RowKit

def rscP (fr tt : List UInt8) (e : List UInt8 × Int) : Bool := !kl e.1 fr && (decide (tt = []) || kl e.1 tt)
def rscn (m : Ents) (fr tt : List UInt8) : Ents := m.filter (rscP fr tt)
theorem filter_all {p : List UInt8 × Int → Bool} : ∀ {m : Ents}, (∀ e ∈ m, p e = true) → m.filter p = m := fun {m} h => List.filter_eq_self.2 h
theorem filter_no {p : List UInt8 × Int → Bool} : ∀ {m : Ents}, (∀ e ∈ m, p e = false) → m.filter p = [] := fun {m} h => List.filter_eq_nil_iff.2 fun e he => by rw [h e he]; decide
theorem filter_mid (m : Ents) (p : List UInt8 × Int → Bool) (a b : Nat) (hb : b ≤ m.length) (hab : a ≤ b) (h : ∀ j (hj : j < m.length), p m[j] = decide (a ≤ j ∧ j < b)) : m.filter p = (m.take b).drop a := by
  have h1 : m = (m.take b).take a ++ ((m.take b).drop a ++ m.drop b) := by
    rw [← List.append_assoc, List.take_append_drop, List.take_append_drop]
  conv => lhs; rw [h1]
  rw [List.filter_append, List.filter_append, filter_no (m := (m.take b).take a), filter_all (m := (m.take b).drop a), filter_no (m := m.drop b)]
  · simp
  · intro e he
    obtain ⟨j, hj, rfl⟩ := List.mem_iff_getElem.1 he
    rw [List.length_drop] at hj
    rw [List.getElem_drop, h _ (by omega)]
    exact decide_eq_false (by omega)
  · intro e he
    obtain ⟨j, hj, rfl⟩ := List.mem_iff_getElem.1 he
    rw [List.length_drop, List.length_take] at hj
    rw [List.getElem_drop, List.getElem_take, h _ (by omega)]
    exact decide_eq_true (by omega)
  · intro e he
    obtain ⟨j, hj, rfl⟩ := List.mem_iff_getElem.1 he
    rw [List.length_take, List.length_take] at hj
    rw [List.getElem_take, List.getElem_take, h _ (by omega)]
    exact decide_eq_false (by omega)
theorem rscn_eq {m : Ents} (hs : Srt m) (fr tt : List UInt8) : rscn m fr tt = scn m fr tt := by
  unfold rscn scn
  refine filter_mid m _ _ _ (scE_le m tt) (Nat.min_le_right _ _) fun j hj => ?_
  unfold rscP scK scE
  rw [srt_pos m hs fr j hj]
  by_cases ht : tt = []
  · simp only [ht, decide_true, Bool.true_or, Bool.and_true, if_true]
    rw [Bool.eq_iff_iff]
    simp only [Bool.not_eq_true', decide_eq_false_iff_not, decide_eq_true_eq, Nat.min_def]
    split <;> omega
  · rw [srt_pos m hs tt j hj, if_neg ht, decide_eq_false ht, Bool.false_or]
    rw [Bool.eq_iff_iff]
    simp only [Bool.not_eq_true', decide_eq_false_iff_not, decide_eq_true_eq, Nat.min_def, Bool.and_eq_true]
    split <;> omega

set_option maxRecDepth 100000 in
set_option maxHeartbeats 1000000 in
theorem rscan_c (w : World) (A : Option Addr) (c : Nat) (m : Ents) (fr tt : List UInt8) (hr : Rd w A (m.length * 2) (ec m)) (hc : m.length ≤ c) (hm : m.length ≤ 100000) (hs : Srt m) :
    Calls Tryd.prog 35 #[.slice A m.length c, .string (strOf fr), .string (strOf tt)] w fun e w' => ∃ v, e = .returned v ∧ OwR w' w.heap.size v (scn m fr tt) ∧ Fr (fun _ => False) w w' := by
  rw [← rscn_eq hs fr tt]
  obtain ⟨i0, hi0, hz0, hz1, hz2⟩ := info_parts ent_info
  have HIN := Lib.hid hi0
  obtain ⟨n, hn⟩ : ∃ n, m.length = n := ⟨_, rfl⟩
  have HR := Lib.hid hr
  rw [hn] at HR hc hm ⊢
  have HN := Lib.hid hn
  clear hr hn hi0 hs
  go_enter Tryd.func35, Tryd.ntmps35
  go_wp2_with fail
  go_loopw [8, 7] (fun u ov wr => ∃ (i : Nat) (Ao : Option Addr) (p co : Nat), u = .int .i64 i ∧ i ≤ n ∧ ov = .slice Ao p co ∧ p ≤ i ∧ Hid ((rscn (m.take i) fr tt).length = p) ∧ Hid (wr.ownsRow w.heap.size 63 2 (.slice Ao p co) p (ec (rscn (m.take i) fr tt))) ∧ Hid (Fr (fun _ => False) w wr)) (fun u _ _ => n - (intOf u).toNat)
  case atStart => exact ⟨0, none, 0, 0, rfl, Nat.zero_le _, rfl, Nat.le_refl _, rfl, World.ownsRow_nil _ _ _ _, Fr.refl _ _⟩
  case round =>
    obtain ⟨i, Ao, p, co, rfl, hi, rfl, hpi, hp, ho, hf⟩ := hrel
    by_cases hlt : i < n
    · have hdl : decide ((i : Int) < (n : Int)) = true := decide_eq_true (by omega)
      have hdn : decide (i < n) = true := decide_eq_true hlt
      have hI : (i : Int) < n := by omega
      obtain ⟨b, off, rfl, hcl⟩ := HR.out.lit (by omega)
      have hbl : b < w.heap.size := HR.out.lt (by omega) ⟨_, rfl, rfl⟩
      have hil : i < m.length := by rw [HN.out]; exact hlt
      have x1 : wr.cell? ⟨b, off + i * 2, none⟩ = some (.string (strOf m[i].1)) := by
        rw [hf.out.cell hbl (fun h => h), hcl _ (by omega)]
        exact ec_key m i hil
      have x2 : wr.cell? ⟨b, off + i * 2 + 1, none⟩ = some (.int .i64 m[i].2) := by
        rw [hf.out.cell hbl (fun h => h), Nat.add_assoc, hcl _ (by omega)]
        exact ec_val m i hil
      have htk := take_next hil
      have hws := hf.out.size
      have l1 : Op.bytesLess (strOf m[i].1).toList (strOf fr).toList = kl m[i].1 fr := by rw [strOf_toList, strOf_toList]; rfl
      have l2 : Op.bytesLess (strOf m[i].1).toList (strOf tt).toList = kl m[i].1 tt := by rw [strOf_toList, strOf_toList]; rfl
      clear hcl
      cases hps : rscP fr tt (m[i].1, m[i].2) with
      | true =>
        have hre : Hid (rscn (m.take (i + 1)) fr tt = rscn (m.take i) fr tt ++ [(m[i].1, m[i].2)]) := by
          show _ = _
          rw [htk]
          unfold rscn
          rw [List.filter_append]
          simp [hps]
        have hq : kl m[i].1 fr = false ∧ (tt = [] ∨ tt ≠ [] ∧ kl m[i].1 tt = true) := by
          unfold rscP at hps
          simp only [Bool.and_eq_true, Bool.not_eq_true', Bool.or_eq_true, decide_eq_true_eq] at hps
          refine ⟨hps.1, ?_⟩
          by_cases ht : tt = []
          · exact .inl ht
          · exact .inr ⟨ht, hps.2.resolve_left ht⟩
        clear htk hps
        generalize m[i].1 = k at *
        generalize m[i].2 = u at *
        obtain ⟨q1, q2⟩ := hq
        rw [q1] at l1
        clear q1
        rcases q2 with ht | ⟨ht, q2⟩
        all_goals
          first
            | (have hne : (strOf tt).toList.isEmpty = true := by rw [strOf_toList, ht]; rfl)
            | (have hne : (strOf tt).toList.isEmpty = false := by rw [strOf_toList]; cases tt; exact absurd rfl ht; rfl
               rw [q2] at l2
               clear q2)
          clear ht
          go_wp2_with (first
            | (at_builtin
               refine wpList_app rfl _ _ _ _ rfl w.heap.size 63 i0 _ 2 24 Tryd.underlying27 HIN.out hz0 hz1 hz2 (by kernel_rfl) _ p _ rfl (own_fr ho.out ((Fr.refl (fun _ => False) wr).alloc (.cells #[.string (strOf k), .int .i64 u] 63)) (fun _ _ h => h)) _ 1 (ec [(k, u)]) rfl
                 (Src.ofSlice _ Tryd.underlying27 ⟨wr.heap.size, 0, none⟩ 1 1 (ec [(k, u)]) (ec_length _) (fun j u' hj => by rw [Addr.add_lit, (Blk.new wr 63 #[.string (strOf k), .int .i64 u]).cell, ← Array.getElem?_toList, Nat.zero_add]; exact hj) (ec_one _))
                 (by omega) (by unfold maxLen; omega) (by rw [World.size_alloc]; omega) ?_
               intro v9 w9 hown9 hf9 hn9
               obtain ⟨A9, c9, rfl, -, -⟩ := own_slice hown9
               have HO9 := Lib.hid hown9
               have HF9 := Lib.hid hf9
               clear hown9 hf9 hn9))
          refine ⟨⟨i + 1, A9, p + 1, c9, by push_cast; rfl, by omega, rfl, by omega, ?_, ?_, ?_⟩, by simp only [intOf]; omega⟩
          · show _ = _
            rw [hre.out, List.length_append, hp.out]; rfl
          · rw [hre.out, ec_append]; exact HO9.out
          · refine (hf.out.alloc _).trans HF9.out (fun k hk e => ?_)
            have := (World.ownsRow.lt ho.out k e).1
            omega
      | false =>
        have hre : Hid (rscn (m.take (i + 1)) fr tt = rscn (m.take i) fr tt) := by
          show _ = _
          rw [htk]
          unfold rscn
          rw [List.filter_append]
          simp [hps]
        have hq : kl m[i].1 fr = true ∨ (kl m[i].1 fr = false ∧ tt ≠ [] ∧ kl m[i].1 tt = false) := by
          unfold rscP at hps
          cases h1 : kl m[i].1 fr with
          | true => exact .inl rfl
          | false =>
            rw [h1] at hps
            simp only [Bool.not_false, Bool.true_and, Bool.or_eq_false_iff, decide_eq_false_iff_not] at hps
            exact .inr ⟨rfl, hps⟩
        clear htk hps
        generalize m[i].1 = k at *
        generalize m[i].2 = u at *
        rcases hq with q1 | ⟨q1, ht, q2⟩
        all_goals
          rw [q1] at l1
          first
            | (have hne : (strOf tt).toList.isEmpty = false := by rw [strOf_toList]; cases tt; exact absurd rfl ht; rfl
               rw [q2] at l2
               clear q2 ht)
            | skip
          clear q1
          go_wp2_with fail
          refine ⟨⟨i + 1, Ao, p, co, by push_cast; rfl, by omega, rfl, by omega, ?_, ?_, hf.out⟩, by simp only [intOf]; omega⟩
          · show _ = _
            rw [hre.out]; exact hp.out
          · rw [hre.out]; exact ho.out
    · have hdl : decide ((i : Int) < (n : Int)) = false := decide_eq_false (by omega)
      have hdn : decide (i < n) = false := decide_eq_false hlt
      have hin : i = n := by omega
      have htk : Hid (m.take i = m) := by show _ = _; rw [hin, ← HN.out, List.take_length]
      go_wp2_with fail
      go_ret
      refine ⟨_, rfl, ?_, hf.out⟩
      have h1 := ho.out
      have h2 := hp.out
      rw [htk.out] at h1 h2
      unfold OwR
      rw [h2]
      exact h1
end Go.Proofs.YtillifkilkjpdaaDoor
