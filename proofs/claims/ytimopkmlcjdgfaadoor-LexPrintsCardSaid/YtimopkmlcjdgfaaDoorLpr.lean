/-
  CONTRACTS of written and Print.
-/
import Derived.Test.YtimopkmlcjdgfaaDoorLrp
namespace Go.Proofs.YtimopkmlcjdgfaaDoor
set_option linter.unusedSimpArgs false
set_option linter.unusedVariables false
open Go Go.RowKit Go.Shelf

def strs (ks : List (List UInt8)) : List Value := ks.map fun s => .string (strOf s)
theorem strs_append (a b : List (List UInt8)) : strs (a ++ b) = strs a ++ strs b := by simp [strs]
theorem strs_len (a : List (List UInt8)) : (strs a).length = a.length := by simp [strs]
theorem s_info : (Tryd.prog.info? 9).map (fun i => (i.zero, i.size, i.bytes)) = some (some (.string ⟨#[]⟩), 1, 16) := by kernel_rfl
theorem src_s {W : World} {q : Nat} {a : List UInt8} (hb : Blk W q 9 #[.string (strOf a)]) : Src Tryd.prog 1 37 (.slice (some ⟨q, 0, none⟩) 1 1) 1 [.string (strOf a)] W :=
  Src.ofSlice W Tryd.underlying37 ⟨q, 0, none⟩ 1 1 _ rfl (fun j u hu => by
    cases j with
    | zero =>
      have e : Value.string (strOf a) = u := by simpa using hu
      rw [← e]
      exact hb.cell 0
    | succ j => simp at hu) (fun u hu => by simp at hu; subst hu; rfl)
theorem lens_le {M : Nat} : ∀ {xs : List (List UInt8)}, (∀ x ∈ xs, x.length ≤ M) → Lib.lens xs ≤ xs.length * M
  | [], _ => Nat.zero_le _
  | x :: r, h => by
    have ih := lens_le (xs := r) (fun y hy => h y (List.mem_cons_of_mem _ hy))
    have hx := h x List.mem_cons_self
    have e : Lib.lens (x :: r) = x.length + Lib.lens r := by simp [Lib.lens]
    rw [e, List.length_cons, Nat.add_mul, Nat.one_mul]
    omega
theorem join_le {M : Nat} {xs : List (List UInt8)} (h : ∀ x ∈ xs, x.length ≤ M) : (Lib.join xs [32]).length ≤ xs.length * (M + 1) := by
  cases xs with
  | nil => rw [Lib.join_nil]; exact Nat.zero_le _
  | cons x r =>
    rw [Lib.join_length]
    have := lens_le h
    rw [Nat.mul_add, Nat.mul_one]
    simp only [List.length_cons, List.length_nil] at *
    omega
theorem join_c (w : World) {A : Option Addr} {c : Nat} {xs : List (List UInt8)} (ho : w.ownsRow 0 9 1 (.slice A xs.length c) xs.length (strs xs)) (hn : xs.length ≤ 1000000) (hM : ∀ x ∈ xs, x.length ≤ 10000000) :
    Calls Tryd.prog 32 #[.slice A xs.length c, .string (strOf [32])] w fun e w' => e = .returned (.string (strOf (Lib.join xs [32]))) ∧ Fr (fun _ => False) w w' := by
  cases xs with
  | nil =>
    refine (Any.strings_Join_none Tryd.lays156 x156 A c (strOf [32]) w).mono ?_
    rintro e w' ⟨rfl, rfl⟩
    exact ⟨rfl, Fr.refl _ _⟩
  | cons x r =>
    obtain ⟨g, cap, hv, hc, hlt⟩ := ho.form (by simp)
    have hA : A = some ⟨g, 0, none⟩ := by injection hv
    have hcc : c = cap := by injection hv
    subst hA hcc
    have hcells := ho.cells (g := g) rfl
    have hcp : (x :: r).length ≤ c := by
      obtain ⟨A', c', e, h1, -⟩ := own_slice ho
      injection e with e1 e2 e3
      rw [e3]
      exact h1
    have hd : ((x :: r).map strOf).map (fun b => b.data.toList) = x :: r := by
      rw [List.map_map]
      have : ((fun b : ByteArray => b.data.toList) ∘ strOf) = id := by funext l; rfl
      rw [this, List.map_id]
    have hjl := join_le hM
    have hj := Any.strings_Join Tryd.lays156 x156 g 0 c ((x :: r).map strOf) (strOf [32]) w (fun j y hy => by
        rw [List.getElem?_map] at hy
        obtain ⟨z, hz, rfl⟩ := Option.map_eq_some_iff.1 hy
        have h2 := hcells j (.string (strOf z)) (by unfold strs; rw [List.getElem?_map, hz]; rfl)
        rw [Addr.add_lit] at h2
        exact h2) hlt (by rw [List.length_map]; omega) (by rw [List.length_map]; exact hcp) (by
        rw [hd, strOf_data]
        have : (x :: r).length * (10000000 + 1) ≤ 1000000 * 10000001 := Nat.mul_le_mul hn (Nat.le_refl _)
        omega)
    rw [List.length_map] at hj
    refine hj.mono ?_
    rintro e w' ⟨rfl, hb⟩
    rw [hd, strOf_data]
    exact ⟨rfl, fr_below hb⟩
/-- What a token may be that is written. -/
structure TkOk (x : Tk) : Prop where
  t : x.t.length ≤ 1000000
  n0 : -9223372036854775808 ≤ x.n
  n1 : x.n ≤ 9223372036854775807
set_option maxRecDepth 100000 in
set_option maxHeartbeats 4000000 in
theorem written_c (w : World) (x : Tk) (hx : TkOk x) (hL : LaidOk w) : Calls Tryd.prog 31 #[.agg (tk4 x)] w fun e w' => e = .returned (.string (strOf (wrt x))) ∧ Fr (fun _ => False) w w' := by
  obtain ⟨ht, hn0, hn1⟩ := hx
  obtain ⟨k, t, n, a⟩ := x
  dsimp only at ht hn0 hn1
  unfold wrt
  dsimp only [tk4]
  have HL := Lib.hid hL
  clear hL
  by_cases h2 : k = 2
  · subst h2
    rw [if_pos rfl]
    have hr1 := rep1_le 92 [92, 92] rfl t
    obtain ⟨u, hu⟩ : ∃ u, rep1 92 [92, 92] t = u := ⟨_, rfl⟩
    rw [hu] at hr1
    obtain ⟨v, hv⟩ : ∃ v, esc t = v := ⟨_, rfl⟩
    have huv : rep1 34 [92, 34] u = v := by rw [← hu, esc_two, hv]
    rw [hv]
    have R1 := Lib.hid (fun W hW => repl_c W t 92 [92, 92] rfl (by omega) hW)
    have R2 := Lib.hid (fun W hW => repl_c W u 34 [92, 34] rfl (by omega) hW)
    rw [hu] at R1
    rw [huv] at R2
    have hst : ∀ W : World, (strOf [34] ++ strOf v) ++ strOf [34] = strOf (34 :: (v ++ [34])) := fun _ => by rw [strOf_app, strOf_app]; rfl
    have hvl := rep1_le 34 [92, 34] rfl u
    rw [huv] at hvl
    have d1 : ¬ 9223372036854775807 < 1 + (strOf v).size := by rw [strOf_size]; omega
    have d2 : ¬ 9223372036854775807 < 1 + (strOf v).size + 1 := by rw [strOf_size]; omega
    clear hu hv huv
    go_enter Tryd.func31, Tryd.ntmps31
    go_upto_region 1 with fail
    refine abs_world (fun W => Hid (Blk W w.heap.size 32 (tcs 2 t n a)) ∧ Hid (Fr (fun _ => False) w W)) ⟨Blk.new w _ _, (Fr.refl _ w).alloc _⟩ ?_
    rintro W ⟨B, F⟩
    have x0 : W.cell? ⟨w.heap.size, 0, none⟩ = some (.int .i64 2) := B.out.cell 0
    have x1 : W.cell? ⟨w.heap.size, 1, none⟩ = some (.string (strOf t)) := B.out.cell 1
    have HW := Lib.hid (HL.out.far F.out)
    go_upto_region 3 with fail
    go_wp2_with (first
      | (go_at_call 49
         refine (R1.out W HW.out).mono ?_
         rintro e W2 ⟨rfl, f2⟩
         have F2 := Lib.hid f2
         have HW2 := Lib.hid (HW.out.far f2)
         clear f2)
      | (go_at_call 49
         refine (R2.out W2 HW2.out).mono ?_
         rintro e W3 ⟨rfl, f3⟩
         have F3 := Lib.hid f3
         clear f3))
    go_ret
    refine ⟨?_, (F.out.trans F2.out (fun _ _ h => h)).trans F3.out (fun _ _ h => h)⟩
    exact congrArg (fun q => Ending.returned (Value.string q)) (hst W)
  · rw [if_neg h2]
    have m2 : (k == 2) = false := by simpa using h2
    by_cases h3 : k = 3
    · subst h3
      rw [if_pos rfl]
      have FM := Lib.hid (fun W h => format_c W n hn0 hn1 h)
      go_enter Tryd.func31, Tryd.ntmps31
      go_upto_region 1 with fail
      refine abs_world (fun W => Hid (Blk W w.heap.size 32 (tcs 3 t n a)) ∧ Hid (Fr (fun _ => False) w W)) ⟨Blk.new w _ _, (Fr.refl _ w).alloc _⟩ ?_
      rintro W ⟨B, F⟩
      have x0 : W.cell? ⟨w.heap.size, 0, none⟩ = some (.int .i64 3) := B.out.cell 0
      have x2 : W.cell? ⟨w.heap.size, 2, none⟩ = some (.int .i64 n) := B.out.cell 2
      have HW := Lib.hid (HL.out.far F.out)
      go_wp2_with (
        go_at_call 50
        refine (FM.out W HW.out).mono ?_
        rintro e W2 ⟨rfl, f2⟩
        have F2 := Lib.hid f2
        clear f2)
      go_ret
      exact ⟨rfl, F.out.trans F2.out (fun _ _ h => h)⟩
    · rw [if_neg h3]
      have m3 : (k == 3) = false := by simpa using h3
      go_enter Tryd.func31, Tryd.ntmps31
      go_upto_region 1 with fail
      refine abs_world (fun W => Hid (Blk W w.heap.size 32 (tcs k t n a)) ∧ Hid (Fr (fun _ => False) w W)) ⟨Blk.new w _ _, (Fr.refl _ w).alloc _⟩ ?_
      rintro W ⟨B, F⟩
      have x0 : W.cell? ⟨w.heap.size, 0, none⟩ = some (.int .i64 k) := B.out.cell 0
      have x1 : W.cell? ⟨w.heap.size, 1, none⟩ = some (.string (strOf t)) := B.out.cell 1
      go_wp2_with fail
      go_ret
      exact ⟨rfl, F.out⟩
end Go.Proofs.YtimopkmlcjdgfaaDoor
