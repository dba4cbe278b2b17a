/-
  THE WALK OF 'tidewracklaw02.CodeNobody': a nil Reader and a zero one.
-/
import Derived.Test.YtokhebplmldfkaaItem2
namespace Go.Proofs.Ytokhebplmldfkaa
set_option linter.unusedSimpArgs false
set_option linter.unusedVariables false
open Go Go.RowKit

theorem rdItem_nil (t : It) : rdItem t [] = none ∨ rdItem t [] = some ((0, []), 0) := by
  unfold rdItem
  split
  · exact .inl rfl
  split
  · exact .inl rfl
  split
  · exact .inl rfl
  split
  · exact .inl rfl
  · unfold rdRaw
    split
    · exact .inl rfl
    · split
      · rename_i h1 h2
        refine .inr ?_
        simp at h2 ⊢
        omega
      · exact .inl rfl
/-- A read of a Reader that stands at the end of no bytes. -/
theorem read_none (w : World) (b : Nat) (v : Value) (f : Bool) (t : It) (ht : t.Ok) (h : Rr w b v [] 0 f) :
    Calls Try.prog 19 #[.pointer (some ⟨b, 0, none⟩), t.val] w fun e w' => e = .returned (.tuple #[.int .u64 0, .string ⟨#[]⟩]) ∧ (∃ g, Rr w' b v [] 0 g) ∧ Fr (fun k => k = b) w w' := by
  cases f with
  | true =>
    refine (read_bad w _ t ht (err_bad w b v [] 0 h)).mono ?_
    rintro e w' ⟨rfl, f1⟩
    exact ⟨rfl, ⟨true, h.fr f1 (fun h => h) (fun _ _ h => h)⟩, f1.mono (fun _ _ h => h.elim)⟩
  | false =>
    refine (read_c w b v [] 0 t ht h).mono ?_
    rintro e w' ⟨f1, ⟨x, s, n, hr, rfl, h1⟩ | ⟨hr, rfl, h1⟩⟩
    · rw [List.drop_nil] at hr
      rcases rdItem_nil t with h2 | h2
      · rw [h2] at hr; cases hr
      · rw [h2] at hr
        injection hr with hr
        injection hr with hr hn
        injection hr with hx hs
        subst hx hs hn
        exact ⟨rfl, ⟨false, h1⟩, f1⟩
    · exact ⟨rfl, ⟨true, h1⟩, f1⟩

set_option maxRecDepth 100000 in
set_option maxHeartbeats 2000000 in
theorem codeNobody_c (w : World) (A : Option Addr) (n c : Nat) (ts : List It) (hr : RdI w A n ts) (hok : ∀ t ∈ ts, t.Ok) (hn : n ≤ 9223372036854775807) :
    Calls Try.prog 5 #[.slice A n c] w fun e w' => e = .returned (.bool true) ∧ Fr (fun _ => False) w w' := by
  have hlc := long_c w A n c ts hr hok hn
  have LC := Lib.hid hlc
  have HR := Lib.hid hr
  have HOK := Lib.hid hok
  clear hlc hr hok
  cases hlong : long ts with
  | true =>
    rw [hlong] at LC
    clear hlong
    go_enter Try.func5, Try.ntmps5
    go_wp2_with fail
    refine LC.out.mono ?_
    rintro e w1 ⟨rfl, rfl⟩
    go_wp2_with fail
    refine (awake_c _).mono ?_
    rintro e w1 ⟨rfl, f1⟩
    have F1 := Lib.hid f1
    clear f1
    go_wp2_with fail
    go_ret
    exact ⟨rfl, F1.out⟩
  | false =>
    rw [hlong] at LC
    clear hlong
    go_enter Try.func5, Try.ntmps5
    go_wp2_with fail
    refine LC.out.mono ?_
    rintro e w1 ⟨rfl, rfl⟩
    go_wp2_with fail
    refine (fail_nil _).mono ?_
    rintro e w1 ⟨rfl, rfl⟩
    go_wp2_with fail
    have h0 : Rr (w.alloc (.cells #[.slice none 0 0, .int .i64 0, .bool false] 49)) w.heap.size (.slice none 0 0) [] 0 false :=
      ⟨Blk.new _ _ _, World.ownsRow_nil _ _ _ _, Nat.zero_le _, by simp⟩
    refine (end_c _ _ _ _ _ _ h0).mono ?_
    rintro e w2 ⟨rfl, h2, f2⟩
    have H2 := Lib.hid h2
    have F2 := Lib.hid (((Fr.refl (fun _ => False) w).alloc (.cells #[.slice none 0 0, .int .i64 0, .bool false] 49)).trans f2 (fun i hi e => by omega))
    clear h0 h2 f2
    go_wp2_with fail
    refine (at_c _ _ _ _ _ _ H2.out).mono ?_
    rintro e w3 ⟨rfl, rfl⟩
    go_wp2_with fail
    go_loopw [6] (fun i wr => ∃ k : Nat, k ≤ n ∧ i = .int .i64 k ∧ Hid (∃ f, Rr wr w.heap.size (.slice none 0 0) [] 0 f) ∧ Hid (Fr (fun _ => False) w wr)) (fun i _ => n - (intOf i).toNat)
    case atStart => exact ⟨0, Nat.zero_le _, rfl, ⟨_, H2.out⟩, F2.out⟩
    case round =>
      obtain ⟨k, hk, rfl, hz, hf⟩ := hrel
      by_cases hlt : k < n
      · have ra := HR.out.far hf.out
        obtain ⟨b, off, rfl, hc⟩ := ra.2 (by omega)
        have hkl : k < ts.length := by rw [HR.out.1]; exact hlt
        obtain ⟨c0, c1, c2, c3⟩ := hc k hkl
        have hOK := HOK.out ts[k] (List.getElem_mem _)
        generalize ts[k] = t at *
        have OK := Lib.hid hOK
        clear hc ra hOK
        go_wp2_with fail
        refine (read_bad _ none t OK.out (err_bad_nil _)).mono ?_
        rintro e w4 ⟨rfl, f4⟩
        have F4 := Lib.hid f4
        clear f4
        go_wp2_with fail
        refine (at_nil _).mono ?_
        rintro e w5 ⟨rfl, rfl⟩
        go_wp2_with fail
        refine (err_nil _).mono ?_
        rintro e w5 ⟨rfl, rfl⟩
        go_wp2_with fail
        refine (end_nil _).mono ?_
        rintro e w5 ⟨rfl, f5⟩
        have F5 := Lib.hid (hf.out.trans (F4.out.trans f5 (fun _ _ h => h)) (fun _ _ h => h))
        have hz5 : ∃ f, Rr w5 w.heap.size (.slice none 0 0) [] 0 f := by
          obtain ⟨f, h⟩ := hz.out
          exact ⟨f, h.fr (F4.out.trans f5 (fun _ _ h => h)) (fun h => h) (fun _ _ h => h)⟩
        have keep : ∀ (p : Addr) (v : Value), wr.cell? p = some v → w5.cell? p = some v := fun p v hp => by
          rw [(F4.out.trans f5 (fun _ _ h => h)).cell (World.block_lt_of_cell? wr p hp) (fun h => h)]; exact hp
        have e0 := keep _ _ c0
        have e1 := keep _ _ c1
        have e2 := keep _ _ c2
        have e3 := keep _ _ c3
        clear f5 c0 c1 c2 c3 keep
        go_wp2_with fail
        obtain ⟨f, h5⟩ := hz5
        refine (read_none _ _ _ f t OK.out h5).mono ?_
        rintro e w6 ⟨rfl, ⟨g, h6⟩, f6⟩
        have H6 := Lib.hid h6
        have F6 := Lib.hid (F5.out.trans f6 (fun i hi e => by omega))
        clear h5 h6 f6
        go_wp2_with fail
        refine (at_c _ _ _ _ _ _ H6.out).mono ?_
        rintro e w7 ⟨rfl, rfl⟩
        go_wp2_with fail
        exact ⟨⟨k + 1, hlt, by go_num, ⟨g, H6.out⟩, F6.out⟩, by simp [intOf]; omega⟩
      · obtain rfl : k = n := by omega
        go_wp2_with fail
        refine (awake_c _).mono ?_
        rintro e w4 ⟨rfl, f4⟩
        have F4 := Lib.hid (hf.out.trans f4 (fun _ _ h => h))
        clear f4
        go_wp2_with fail
        go_ret
        exact ⟨rfl, F4.out⟩
end Go.Proofs.Ytokhebplmldfkaa
