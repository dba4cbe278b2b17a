/-
  CONTRACT of the reference's Delete.
-/
import Derived.Test.YtillifkilkjpdaaDoorRefs
namespace Go.Proofs.YtillifkilkjpdaaDoor
set_option linter.unusedSimpArgs false
set_option linter.unusedVariables false
open Go Go.RowKit

def rdel (m : Ents) (key : List UInt8) : Ents := m.filter fun e => !(e.1 == key)

set_option maxRecDepth 100000 in
set_option maxHeartbeats 1000000 in
theorem rdel_c (w : World) (A : Option Addr) (c : Nat) (m : Ents) (key : List UInt8) (hr : Rd w A (m.length * 2) (ec m)) (hc : m.length ≤ c) (hm : m.length ≤ 100000) :
    Calls Tryd.prog 34 #[.slice A m.length c, .string (strOf key)] w fun e w' => ∃ v, e = .returned v ∧ OwR w' w.heap.size v (rdel m key) ∧ Fr (fun _ => False) w w' := by
  obtain ⟨i0, hi0, hz0, hz1, hz2⟩ := info_parts ent_info
  have HIN := Lib.hid hi0
  obtain ⟨n, hn⟩ : ∃ n, m.length = n := ⟨_, rfl⟩
  have HR := Lib.hid hr
  rw [hn] at HR hc hm ⊢
  have HN := Lib.hid hn
  clear hr hn hi0
  go_enter Tryd.func34, Tryd.ntmps34
  go_wp2_with fail
  go_loopw [6, 5] (fun u ov wr => ∃ (i : Nat) (Ao : Option Addr) (p co : Nat), u = .int .i64 i ∧ i ≤ n ∧ ov = .slice Ao p co ∧ p ≤ i ∧ Hid ((rdel (m.take i) key).length = p) ∧ Hid (wr.ownsRow w.heap.size 63 2 (.slice Ao p co) p (ec (rdel (m.take i) key))) ∧ Hid (Fr (fun _ => False) w wr)) (fun u _ _ => n - (intOf u).toNat)
  case atStart => exact ⟨0, none, 0, 0, rfl, Nat.zero_le _, rfl, Nat.le_refl _, rfl, World.ownsRow_nil _ _ _ _, Fr.refl _ _⟩
  case round =>
    obtain ⟨i, Ao, p, co, rfl, hi, rfl, hpi, hp, ho, hf⟩ := hrel
    by_cases hlt : i < n
    · have hdl : decide ((i : Int) < (n : Int)) = true := decide_eq_true (by omega)
      have hdn : decide (i < n) = true := decide_eq_true hlt
      have hI : (i : Int) < n := by omega
      obtain ⟨b, off, rfl, hcl⟩ := HR.out.lit (by omega)
      have hbl : b < w.heap.size := HR.out.lt (by omega) ⟨_, rfl, rfl⟩
      have hil : i < m.length := by rw [HN.out]; exact hlt
      have x1 : wr.cell? ⟨b, off + i * 2, none⟩ = some (.string (strOf m[i].1)) := by
        rw [hf.out.cell hbl (fun h => h), hcl _ (by omega)]
        exact ec_key m i hil
      have x2 : wr.cell? ⟨b, off + i * 2 + 1, none⟩ = some (.int .i64 m[i].2) := by
        rw [hf.out.cell hbl (fun h => h), Nat.add_assoc, hcl _ (by omega)]
        exact ec_val m i hil
      have htk : m.take (i + 1) = m.take i ++ [m[i]] := by rw [List.take_add_one, List.getElem?_eq_getElem hil]; rfl
      clear hcl
      by_cases he : m[i].1 = key
      · have heq : ((strOf m[i].1).toList == (strOf key).toList) = true := by rw [he]; simp
        have hre : Hid (rdel (m.take (i + 1)) key = rdel (m.take i) key) := by
          show _ = _
          rw [htk]
          unfold rdel
          rw [List.filter_append]
          simp [he]
        clear he htk
        generalize m[i].1 = k at *
        generalize m[i].2 = u at *
        go_wp2_with fail
        refine ⟨⟨i + 1, Ao, p, co, by push_cast; rfl, by omega, rfl, by omega, ?_, ?_, hf.out⟩, by simp only [intOf]; omega⟩
        · show _ = _
          rw [hre.out]; exact hp.out
        · rw [hre.out]; exact ho.out
      · have heq : ((strOf m[i].1).toList == (strOf key).toList) = false := by
          rw [strOf_toList, strOf_toList]
          simpa using he
        have hre : Hid (rdel (m.take (i + 1)) key = rdel (m.take i) key ++ [(m[i].1, m[i].2)]) := by
          show _ = _
          rw [htk]
          unfold rdel
          rw [List.filter_append]
          simp [he]
        clear he htk
        generalize m[i].1 = k at *
        generalize m[i].2 = u at *
        have hws := hf.out.size
        go_wp2_with (first
          | (at_builtin
             refine wpList_app rfl _ _ _ _ rfl w.heap.size 63 i0 _ 2 24 Tryd.underlying27 HIN.out hz0 hz1 hz2 (by kernel_rfl) _ p _ rfl (own_fr ho.out ((Fr.refl (fun _ => False) wr).alloc (.cells #[.string (strOf k), .int .i64 u] 63)) (fun _ _ h => h)) _ 1 (ec [(k, u)]) rfl
               (Src.ofSlice _ Tryd.underlying27 ⟨wr.heap.size, 0, none⟩ 1 1 (ec [(k, u)]) (ec_length _) (fun j u' hj => by rw [Addr.add_lit, (Blk.new wr 63 #[.string (strOf k), .int .i64 u]).cell, ← Array.getElem?_toList, Nat.zero_add]; exact hj) (ec_one _))
               (by omega) (by unfold maxLen; omega) (by rw [World.size_alloc]; omega) ?_
             intro v9 w9 hown9 hf9 hn9
             obtain ⟨A9, c9, rfl, -, -⟩ := own_slice hown9
             have HO9 := Lib.hid hown9
             have HF9 := Lib.hid hf9
             clear hown9 hf9 hn9))
        refine ⟨⟨i + 1, A9, p + 1, c9, by push_cast; rfl, by omega, rfl, by omega, ?_, ?_, ?_⟩, by simp only [intOf]; omega⟩
        · show _ = _
          rw [hre.out, List.length_append, hp.out]; rfl
        · rw [hre.out, ec_append]; exact HO9.out
        · refine (hf.out.alloc _).trans HF9.out (fun k hk e => ?_)
          have := (World.ownsRow.lt ho.out k e).1
          omega
    · have hdl : decide ((i : Int) < (n : Int)) = false := decide_eq_false (by omega)
      have hdn : decide (i < n) = false := decide_eq_false hlt
      have hin : i = n := by omega
      have htk : Hid (m.take i = m) := by show _ = _; rw [hin, ← HN.out, List.take_length]
      go_wp2_with fail
      go_ret
      refine ⟨_, rfl, ?_, hf.out⟩
      have h1 := ho.out
      have h2 := hp.out
      rw [htk.out] at h1 h2
      unfold OwR
      rw [h2]
      exact h1
end Go.Proofs.YtillifkilkjpdaaDoor
