/-
  RevChain, walked.
-/
import Derived.Test.YtjaocgmicdnghaaDoorAwk
import Derived.Test.YtjaocgmicdnghaaDoorRchain
namespace Go.Proofs.YtjaocgmicdnghaaDoor
set_option linter.unusedSimpArgs false
set_option linter.unusedVariables false
open Go Go.RowKit Go.Shelf
attribute [local go_sem] Oper.semAt_some

theorem rev_info : (Tryd.prog.info? 25).map (fun i => (i.zero, i.size, i.bytes)) = some (some (.agg (rc 0 zN).toArray), 17, 24) := by kernel_rfl
theorem rcs_one (l : List Nm) : ∀ u ∈ rcs l, u.oneCell' = true := fun u hu => by
  obtain ⟨x, _, hx⟩ := List.mem_flatMap.1 hu
  exact rc_one _ _ u hx
theorem src_revs (W : World) (A : Option Addr) (c : Nat) (l : List Nm) (hr : Rd W A (l.length * 17) (rcs l)) : Src Tryd.prog 17 37 (.slice A l.length c) l.length (rcs l) W := by
  cases A with
  | none =>
    cases l with
    | nil => exact Src.ofNil W Tryd.underlying37 c
    | cons x l =>
      obtain ⟨ad, he, _⟩ := hr.2 (by rw [List.length_cons]; omega)
      cases he
  | some ad =>
    refine Src.ofSlice W Tryd.underlying37 ad l.length c (rcs l) hr.1 (fun j u hu => ?_) (rcs_one l)
    have hlt : j < (rcs l).length := (List.getElem?_eq_some_iff.1 hu).1
    rw [hr.1] at hlt
    obtain ⟨ad', he, hc⟩ := hr.2 (by omega)
    obtain rfl := Option.some.inj he
    exact hc j u hu
theorem rd_own17 {w : World} {base n : Nat} {A : Option Addr} {c : Nat} {xs : List Value} (h : w.ownsRow base 25 17 (.slice A n c) n xs) : Rd w A (n * 17) xs := by
  refine ⟨h.1, fun hn => ?_⟩
  obtain ⟨g, cap, hv, _, hlt⟩ := h.form (by omega)
  have hA : A = some ⟨g, 0, none⟩ := by injection hv
  subst hA
  exact ⟨_, rfl, h.cells (g := g) rfl⟩

set_option maxRecDepth 100000 in
set_option maxHeartbeats 1000000 in
theorem revChain_c (w : World) (A : Option Addr) (c : Nat) (l : List Nm) (hl : ∀ x ∈ l, NmOk x) (hr : Rd w A (l.length * 17) (rcs l)) (hn : l.length ≤ 140737488355328) (hL : LaidOk w) :
    Calls Tryd.prog 4 #[.slice A l.length c] w fun e w' => e = .returned (.bool true) ∧ Fr (fun _ => False) w w' := by
  have HAW := Lib.hid (fun (W : World) (hW : Fr (fun _ => False) w W) => awake_c W (hL.far hW))
  have HR := Lib.hid hr
  have HLL := Lib.hid hl
  obtain ⟨n, hnn⟩ : ∃ n, l.length = n := ⟨_, rfl⟩
  by_cases h60 : l.length ≤ 60
  case neg =>
    have d1 : decide ((60 : Int) < (n : Int)) = true := decide_eq_true (by omega)
    have d2 : decide (60 < n) = true := decide_eq_true (by omega)
    rw [hnn]
    clear hL hr hl hnn hn h60
    go_enter Tryd.func4, Tryd.ntmps4
    go_wp2_with fail
    refine (HAW.out w (Fr.refl _ w)).mono ?_
    rintro e w1 ⟨rfl, f1⟩
    have F1 := Lib.hid f1
    clear f1
    go_wp2_with fail
    go_ret
    exact ⟨rfl, F1.out⟩
  case pos =>
    have d1 : decide ((60 : Int) < (n : Int)) = false := decide_eq_false (by omega)
    have d2 : decide (60 < n) = false := decide_eq_false (by omega)
    have hsrc := fun (W : World) (hW : Fr (fun _ => False) w W) => src_revs W A c l (hr.far hW)
    have hch := fun (W : World) (A' : Option Addr) (c' : Nat) (hR : Rd W A' (l.length * 17) (rcs l)) => chain_c W A' c' l hl hR (by omega)
    have hrc := fun (W : World) (hW : Fr (fun _ => False) w W) => rChain_c W A c l hl (hr.far hW) (by omega)
    obtain ⟨i0, hi0, hz0, hz1, hz2⟩ := info_parts rev_info
    rw [hnn]
    rw [hnn] at hn h60
    simp only [hnn] at hsrc hch hrc
    obtain ⟨r, hrr⟩ : ∃ r, chL l = r := ⟨_, rfl⟩
    simp only [hrr] at hch hrc
    have hq : (r == r) = true := by cases r <;> rfl
    have HSRC := Lib.hid hsrc
    have HCH := Lib.hid hch
    have HRC := Lib.hid hrc
    have HI0 := Lib.hid hi0
    have h60' : n ≤ 60 := h60
    clear hsrc hch hrc hi0 hL hr hl hnn hrr hn h60
    go_enter Tryd.func4, Tryd.ntmps4
    go_wp2_with (
      (at_builtin
       refine wpList_app rfl _ _ _ _ rfl w.heap.size 25 i0 _ 17 24 Tryd.underlying37 HI0.out hz0 hz1 hz2 (by kernel_rfl) _ 0 [] rfl (World.ownsRow_lit w #[] 0 (Nat.le_refl _) (Nat.zero_le _) rfl) _ n (rcs l) rfl (HSRC.out _ ((Fr.refl _ w).alloc _)) (by omega) (by unfold maxLen; omega) (by rw [World.size_alloc]; omega) ?_
       intro v1 w1 o1 f1 n1
       have F1 := Lib.hid (((Fr.refl (fun _ => False) w).alloc (.cells #[] 25)).trans f1 (fun i hi hq => by
         have hq' : (Value.slice (some ⟨w.heap.size, 0, none⟩) 0 0).ownBlock = some i := hq
         have hq2 : w.heap.size = i := by simpa [Value.ownBlock] using hq'
         omega))
       rw [Nat.zero_add, List.nil_append] at o1
       obtain ⟨A1, c1, rfl, -, -⟩ := own_slice o1
       have R1 := Lib.hid (rd_own17 o1)
       clear o1 f1 n1))
    refine (HCH.out w1 A1 c1 R1.out).mono ?_
    rintro e w2 ⟨rfl, f2⟩
    have F2 := Lib.hid (F1.out.trans f2 (fun _ _ h => h))
    clear f2
    go_wp2_with fail
    refine (HRC.out w2 F2.out).mono ?_
    rintro e w3 ⟨rfl, f3⟩
    have F3 := Lib.hid (F2.out.trans f3 (fun _ _ h => h))
    clear f3
    go_wp2_with fail
    refine (HAW.out w3 F3.out).mono ?_
    rintro e w4 ⟨rfl, f4⟩
    have F4 := Lib.hid (F3.out.trans f4 (fun _ _ h => h))
    clear f4
    go_wp2_with fail
    go_ret
    exact ⟨rfl, F4.out⟩
end Go.Proofs.YtjaocgmicdnghaaDoor
