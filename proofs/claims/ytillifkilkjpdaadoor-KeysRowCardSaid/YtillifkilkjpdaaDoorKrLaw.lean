/-
  KeysRow: FOR EVERY INPUT THE LAW RETURNS TRUE, AND EACH ARGUMENT READS BEHIND THE CALL AS IT READ BEFORE. No condition; the table lies as the program lays it (the card ties it).
-/
import Derived.Test.YtillifkilkjpdaaDoorKr
import Derived.WalkKit
import Derived.ProofKit
import Derived.OpenShut
import Derived.ShutString
import Derived.ChangeOld
import Derived.Below
import Derived.Test.YtillifkilkjpdaaDoorLaid
import Derived.Test.YtillifkilkjpdaaDoorTie
import Derived.Test.YtillifkilkjpdaaDoorCards
import Derived.SevenTiedAt
import Derived.Handed
import Derived.JoinedOf
namespace Go.Proofs.YtillifkilkjpdaaDoor.keysRow
set_option linter.unusedSimpArgs false
set_option linter.unusedVariables false
open Go Go.ChangeShapes Go.WideShapes Go.ChangeAt Go.RowKit
open Go.ChangeMaps (open_string shut_string)
set_option linter.unusedVariables false
set_option maxRecDepth 100000 in
theorem lifted (os : Os) (started : os.Started) (H : Type) (enc : TypeId × Value → H) :
    ReturnsInHanded {} Tryd.checked os 7 .any (fun w args => (Rows.keysRowSpec.pre enc Tryd.prog Tryd.f7 [] false w args ∧ laidMet Tryd.prog [("math/bits.deBruijn32tab", Rows.laid_math_bits_deBruijn32tab), ("math/bits.deBruijn64tab", Rows.laid_math_bits_deBruijn64tab), ("internal/strconv.uint64pow10", Rows.laid_internal_strconv_uint64pow10)] w) ∧ sizedMet enc Tryd.prog Tryd.f7 (OpenSpec.ofChange Rows.keysRowSpec) false w args) (Rows.keysRowSpec.post enc Tryd.prog Tryd.f7 false true false false) := by
  refine returnsInHanded_of_change_and (C := Tryd.checked) (X := fun w _ => laidMet Tryd.prog [("math/bits.deBruijn32tab", Rows.laid_math_bits_deBruijn32tab), ("math/bits.deBruijn64tab", Rows.laid_math_bits_deBruijn64tab), ("internal/strconv.uint64pow10", Rows.laid_internal_strconv_uint64pow10)] w) (fun _ _ _ hh h => h.of_heap hh) own started (by kernel_rfl) Tryd.func7
    (ChangeSpec.witness_at (enc := enc) (C := Tryd.checked) (os := os) (X := fun w _ => laidMet Tryd.prog [("math/bits.deBruijn32tab", Rows.laid_math_bits_deBruijn32tab), ("math/bits.deBruijn64tab", Rows.laid_math_bits_deBruijn64tab), ("internal/strconv.uint64pow10", Rows.laid_internal_strconv_uint64pow10)] w) false (World.laidAll Tryd.prog os laidL) #[.slice none 0 0, .string ⟨#[]⟩, .string ⟨#[]⟩] 8 (World.laidAll_os _ _ _) (by kernel_rfl) (by kernel_rfl) (by kernel_rfl) (by kernel_rfl) (by kernel_rfl)
      (laid_met os #[.slice none 0 0, .string ⟨#[]⟩, .string ⟨#[]⟩])) ?_
  intro W base args ds gs before hval0 hW hcnd hsz0 hL _
  have hN := tabs_of_laid hL
  have hval : ∀ (j : Nat) t v, Tryd.f7.params[j]? = some t → args[j]? = some v → Value.okWide Tryd.prog W .any base t v := hval0
  have hW' := hW
  obtain ⟨p, q, hA0, hV, rfl, hfz, hnd⟩ := hW
  have hA : DataW.TrodAll enc Tryd.prog W 0 (fun _ => true) true Tryd.f7.params.toList args.toList ds p := hA0
  have hsz1 : (DataW.weightsEach Tryd.prog (Tryd.f7.params.toList ++ []) (ds ++ gs)).all (· ≤ reachBytes) = true := hsz0
  rw [Tryd.params7] at hA hval hsz1
  obtain ⟨v0, vs0, d0, ds0, p0, q0, hargs, rfl, rfl, h0, r0⟩ := trodAll_cons hA
  obtain ⟨v1, vs1, d1, ds1, p1, q1, rfl, rfl, rfl, h1, r1⟩ := trodAll_cons r0
  obtain ⟨v2, vs2, d2, ds2, p2, q2, rfl, rfl, rfl, h2, r2⟩ := trodAll_cons r1
  obtain ⟨rfl, rfl, rfl⟩ := trodAll_nil r2
  obtain rfl : args = #[v0, v1, v2] := by cases args; simp_all
  obtain ⟨rfl, rfl⟩ := trodVars_none hV
  have hsz := fun n hn => of_decide_eq_true (List.all_eq_true.1 hsz1 n hn)
  have k0 := h0
  have lt0 : ∀ x ∈ p0, x.block < W.heap.size := by obtain ⟨m, hm⟩ := k0; exact DataW.trod_lt m _ _ _ hm
  have wt0 : ∀ n ∈ d0.weights Tryd.prog 22, n ≤ reachBytes := fun n hn => hsz n (by show n ∈ DataW.weightsEach _ _ _; simp only [List.cons_append, List.nil_append, List.append_nil, DataW.weightsEach, List.mem_append]; simp [hn])
  have k1 := h1
  have lt1 : ∀ x ∈ p1, x.block < W.heap.size := by obtain ⟨m, hm⟩ := k1; exact DataW.trod_lt m _ _ _ hm
  have wt1 : ∀ n ∈ d1.weights Tryd.prog 9, n ≤ reachBytes := fun n hn => hsz n (by show n ∈ DataW.weightsEach _ _ _; simp only [List.cons_append, List.nil_append, List.append_nil, DataW.weightsEach, List.mem_append]; simp [hn])
  have k2 := h2
  have lt2 : ∀ x ∈ p2, x.block < W.heap.size := by obtain ⟨m, hm⟩ := k2; exact DataW.trod_lt m _ _ _ hm
  have wt2 : ∀ n ∈ d2.weights Tryd.prog 9, n ≤ reachBytes := fun n hn => hsz n (by show n ∈ DataW.weightsEach _ _ _; simp only [List.cons_append, List.nil_append, List.append_nil, DataW.weightsEach, List.mem_append]; simp [hn])
  obtain ⟨a0, len0, cap0, rfl⟩ := okWide_slice Tryd.underlying22 (hval 0 22 v0 rfl rfl)
  obtain ⟨ln0, lm0, ls0, hl0, rd0, ok0⟩ := open_acts k0 wt0
  obtain ⟨s1, rfl, rfl, rfl, ss1⟩ := open_string Tryd.underlying9 (hval 1 9 v1 rfl rfl) h1
  have sl1 : s1.data.toList.length ≤ reachBytes := wt1 _ (by simp [DataW.weights])
  unfold reachBytes at sl1
  obtain ⟨s2, rfl, rfl, rfl, ss2⟩ := open_string Tryd.underlying9 (hval 2 9 v2 rfl rfl) h2
  have sl2 : s2.data.toList.length ≤ reachBytes := wt2 _ (by simp [DataW.weights])
  unfold reachBytes at sl2
  obtain ⟨x1, rfl⟩ : ∃ q, s1 = strOf q := ⟨s1.data.toList, (strOf_of s1).symm⟩
  obtain ⟨x2, rfl⟩ : ∃ q, s2 = strOf q := ⟨s2.data.toList, (strOf_of s2).symm⟩
  have e1 : (strOf x1).data.toList = x1 := by simp [strOf]
  have e2 : (strOf x2).data.toList = x2 := by simp [strOf]
  have y1 : x1.length ≤ 140737488355328 := by rw [e1] at sl1; omega
  have y2 : x2.length ≤ 140737488355328 := by rw [e2] at sl2; omega
  clear hA0 hval0
  refine (keysRow_c W a0 len0 cap0 ls0 x1 x2 rd0 hl0 lm0 ok0 y1 y2 hN).mono fun e W' ⟨he, hfr⟩ => ?_
  have bel : Below W.heap.size W W' := hfr.below (Nat.le_refl _) (fun _ _ h => h)
  subst he
  exact ⟨_, rfl, _, _, _, [], _, [], hW', trodAll_mk1 (shut_bool Tryd.underlying4 _), (trodAll_cons_mk (Below.trod laidOut (by kernel_rfl) (of_decide_eq_true (by kernel_rfl)) k0 bel lt0) (trodAll_cons_mk (Below.trod laidOut (by kernel_rfl) (of_decide_eq_true (by kernel_rfl)) k1 bel lt1) (trodAll_cons_mk (Below.trod laidOut (by kernel_rfl) (of_decide_eq_true (by kernel_rfl)) k2 bel lt2) trodAll_mk0))), rfl, bel.frame _, fun h => by cases h⟩

theorem over : Rows.keysRowRow.holds Tryd.pinned (OpenSpec.ofChange Rows.keysRowSpec) :=
  OpenClaim.holds_of_wide 7 Tryd.f7 rfl rfl rfl rfl rfl rfl rfl ⟨rfl, rfl, rfl, rfl, rfl⟩ rfl rfl rfl rfl rfl (by kernel_rfl) Tryd.func7 (by kernel_rfl)
    (of_decide_eq_true (by kernel_rfl)) (by unfold Func.isWrapper; first | (rw [if_pos (by decide +kernel)]; kernel_rfl) | (rw [if_neg (by decide +kernel)]; exact ⟨rfl, rfl⟩))
    (fun os started H enc _ => lifted os started H enc)

theorem proved : Rows.KeysRowCardSaid :=
  Claim7.holds_tied_plain_at .later [] [.data, .data, .data] true (true, "2b457499401abdabda49e452fc92c088ec6ec69568e920901d3a40a6aa0cb7e1") true
    over (fun _ h => by cases h) (by kernel_rfl) (fun _ h => by cases h) keysRow_row_tie rfl ⟨rfl, rfl⟩ (by kernel_rfl) rfl
    (fun f fn hf hfn => by
      obtain rfl : f = 7 := Option.some.inj ((show Tryd.prog.funcNamed "tidewrack/tidewracklaw12.KeysRow" = some 7 by kernel_rfl).symm.trans hf) |>.symm
      obtain rfl : fn = Tryd.f7 := (Option.some.inj (Tryd.func7.symm.trans hfn)).symm
      exact ⟨by kernel_rfl, fun j t ht => by
        rw [Tryd.params7] at ht
        have h3 : t = 22 ∨ t = 9 := by
          rcases j with _ | j
          · have := Option.some.inj ht; subst this; simp
          rcases j with _ | j
          · have := Option.some.inj ht; subst this; simp
          rcases j with _ | j
          · have := Option.some.inj ht; subst this; simp
          · simp at ht
        rcases h3 with rfl | rfl
        · exact (show Tryd.prog.wantsStandIn 22 = false by kernel_rfl)
        · exact (show Tryd.prog.wantsStandIn 9 = false by kernel_rfl)
      ⟩)
    (by kernel_rfl)
#print axioms proved
end Go.Proofs.YtillifkilkjpdaaDoor.keysRow
