/-
  CONTRACT of awake. Written by gen_law.py.
-/
import Derived.Test.YtimopkmlcjdgfaaDoorLpt
namespace Go.Proofs.YtimopkmlcjdgfaaDoor
set_option linter.unusedSimpArgs false
set_option linter.unusedVariables false
open Go Go.RowKit Go.Shelf

def ex1 : List UInt8 := [119, 104, 101, 110, 32, 97, 46, 98, 32, 61, 32, 34, 120, 92, 34, 121, 34, 32, 123, 32, 99, 104, 97, 110, 110, 101, 108, 32, 105, 100, 59, 32, 125, 32, 35, 32, 99]
def ex2 : List UInt8 := [45, 49, 50, 32, 33, 61, 32, 48, 59]
def a9 : List Tk := [⟨1, [119, 104, 101, 110], 0, 0⟩, ⟨1, [97, 46, 98], 0, 5⟩, ⟨4, [61], 0, 9⟩, ⟨2, [120, 34, 121], 0, 11⟩, ⟨4, [123], 0, 18⟩, ⟨1, [99, 104, 97, 110, 110, 101, 108], 0, 20⟩, ⟨1, [105, 100], 0, 28⟩, ⟨4, [59], 0, 30⟩, ⟨4, [125], 0, 32⟩]
def b4 : List Tk := [⟨3, [], -12, 0⟩, ⟨4, [33, 61], 0, 4⟩, ⟨3, [], 0, 7⟩, ⟨4, [59], 0, 8⟩]
def pr9 : List UInt8 := [119, 104, 101, 110, 32, 97, 46, 98, 32, 61, 32, 34, 120, 92, 34, 121, 34, 32, 123, 32, 99, 104, 97, 110, 110, 101, 108, 32, 105, 100, 32, 59, 32, 125]
def badL : List (List UInt8) := [[48, 49], [45, 48], [97, 46], [34, 120], [49, 97], [33]]
def bad6 : Array Value := (badL.map fun s => Value.string (strOf s)).toArray
theorem ex1_a : allS ex1 = .inl a9 := by kernel_rfl
theorem ex2_b : allS ex2 = .inl b4 := by kernel_rfl
theorem a9_p : prt a9 = some pr9 := by kernel_rfl
theorem bad_no : ∀ s ∈ badL, allS s = .inr 0 ∧ s.length ≤ 4096 := by
  intro s hs
  unfold badL at hs
  simp only [List.mem_cons, List.not_mem_nil, or_false] at hs
  rcases hs with rfl | rfl | rfl | rfl | rfl | rfl
  all_goals exact ⟨by kernel_rfl, by decide⟩
theorem a9_ok : ∀ x ∈ a9, TkOk x := by
  intro x hx
  unfold a9 at hx
  simp only [List.mem_cons, List.not_mem_nil, or_false] at hx
  rcases hx with rfl | rfl | rfl | rfl | rfl | rfl | rfl | rfl | rfl
  all_goals exact ⟨by decide, by decide, by decide⟩
theorem all_is {s : List UInt8} {l : List Tk} {n : Nat} (hs : s.length ≤ 4096) (h : allS s = .inl l) (hn : l.length = n) {w w' : World} {e : Ending} (hq : AllQ s w e w') : ∃ A c, e = .returned (.tuple #[.slice A n c, .int .i64 0, .int .i64 0]) ∧ w'.ownsRow 0 32 4 (.slice A n c) n (flatT l) ∧ Fr (fun _ => False) w w' ∧ ∀ q, (Value.slice A n c).ownBlock = some q → w.heap.size ≤ q := by
  subst hn
  obtain ⟨hf, hr⟩ := hq
  rw [if_neg (by omega), h] at hr
  obtain ⟨A, c, rfl, ho, hb⟩ := hr
  exact ⟨A, c, rfl, ho, hf, hb⟩
theorem all_no {s : List UInt8} {i : Nat} (hs : s.length ≤ 4096) (h : allS s = .inr i) {w w' : World} {e : Ending} (hq : AllQ s w e w') : e = .returned (.tuple #[.slice none 0 0, .int .i64 (i : Nat), .int .i64 2]) ∧ Fr (fun _ => False) w w' := by
  obtain ⟨hf, hr⟩ := hq
  rw [if_neg (by omega), h] at hr
  exact ⟨hr, hf⟩
theorem own_form {w : World} {n : Nat} {A : Option Addr} {c : Nat} {xs : List Value} (hn : 0 < n) (h : w.ownsRow 0 32 4 (.slice A n c) n xs) : ∃ g, A = some ⟨g, 0, none⟩ ∧ g < w.heap.size ∧ ∀ (j : Nat) (u : Value), xs[j]? = some u → w.cell? ⟨g, j, none⟩ = some u := by
  obtain ⟨g, cap, hv, _, hlt⟩ := h.form hn
  have hA : A = some ⟨g, 0, none⟩ := by injection hv
  subst hA
  refine ⟨g, rfl, hlt, fun j u hu => ?_⟩
  have := h.cells (g := g) rfl j u hu
  rw [Addr.add_lit, Nat.zero_add] at this
  exact this
theorem print9 (w : World) {A : Option Addr} {c : Nat} (ho : w.ownsRow 0 32 4 (.slice A 9 c) 9 (flatT a9)) (hL : LaidOk w) : Calls Tryd.prog 15 #[.slice A 9 c] w fun e w' => e = .returned (.tuple #[.string ⟨#[119, 104, 101, 110, 32, 97, 46, 98, 32, 61, 32, 34, 120, 92, 34, 121, 34, 32, 123, 32, 99, 104, 97, 110, 110, 101, 108, 32, 105, 100, 32, 59, 32, 125]⟩, .int .i64 0]) ∧ Fr (fun _ => False) w w' := by
  have h := print_c w (A := A) (c := c) (l := a9) (RdT.of_own (c := c) ho) (by decide) a9_ok hL
  refine Calls.mono h ?_
  intro e w' hq
  unfold PrtQ at hq
  rw [a9_p] at hq
  exact hq
set_option maxRecDepth 100000 in
set_option maxHeartbeats 8000000 in
theorem awake_c (w : World) (hL : LaidOk w) : Calls Tryd.prog 8 #[] w fun e w' => e = .returned (.bool true) ∧ Fr (fun _ => False) w w' := by
  have HL := Lib.hid hL
  clear hL
  go_enter Tryd.func8, Tryd.ntmps8
  go_upto_region 2 with (
    go_at_call 9
    refine (all_c w ex1 (by decide) HL.out).mono ?_
    intro e W1 hq
    obtain ⟨A1, c1, rfl, ho1, f1, -⟩ := all_is (n := 9) (by decide) ex1_a rfl hq
    have O1 := Lib.hid ho1
    have F1 := Lib.hid f1
    clear hq ho1 f1)
  have HL1 := Lib.hid (HL.out.far F1.out)
  go_upto_region 3 with (
    go_at_call 9
    refine (all_c W1 ex2 (by decide) HL1.out).mono ?_
    intro e W2 hq
    obtain ⟨A2, c2, rfl, ho2, f2, -⟩ := all_is (n := 4) (by decide) ex2_b rfl hq
    have O2 := Lib.hid ho2
    have F2 := Lib.hid f2
    clear hq ho2 f2)
  have O1' := Lib.hid (own_fr O1.out F2.out (fun _ _ h => h))
  have FF := Lib.hid (F1.out.trans F2.out (fun _ _ h => h))
  have HL2 := Lib.hid (HL.out.far FF.out)
  clear O1 F1 F2 HL1
  go_upto_region 4 with (
    go_at_call 15
    refine (print9 W2 O1'.out HL2.out).mono ?_
    rintro e W3 ⟨rfl, f3⟩
    have F3 := Lib.hid f3
    clear f3)
  obtain ⟨g1, hA1, hg1, hc1⟩ := own_form (by decide) (own_fr O1'.out F3.out (fun _ _ h => h))
  subst hA1
  obtain ⟨g2, hA2, hg2, hc2⟩ := own_form (by decide) (own_fr O2.out F3.out (fun _ _ h => h))
  subst hA2
  have HC1 := Lib.hid hc1
  have HC2 := Lib.hid hc2
  have F4 := Lib.hid (FF.out.trans F3.out (fun _ _ h => h))
  clear hc1 hc2 FF F3 O1' O2 HL2
  go_upto_region 6 with fail
  go_upto_region 7 with fail
  have FA : Fr (fun _ => False) W3 (W3.alloc (.cells bad6 9)) := (Fr.refl _ W3).alloc _
  refine abs_world (fun W => Hid (∀ (j : Nat) (u : Value), (flatT a9)[j]? = some u → W.cell? ⟨g1, j, none⟩ = some u) ∧ Hid (∀ (j : Nat) (u : Value), (flatT b4)[j]? = some u → W.cell? ⟨g2, j, none⟩ = some u) ∧ Hid (Blk W W3.heap.size 9 bad6) ∧ Hid (Fr (fun _ => False) w W)) ⟨fun j u h => cell_far (HC1.out j u h) FA, fun j u h => cell_far (HC2.out j u h) FA, Blk.new W3 _ _, F4.out.trans FA (fun _ _ h => h)⟩ ?_
  generalize W3.heap.size = gb at *
  clear HC1 HC2 F4 FA hg1 hg2
  clear W3
  rintro W3 ⟨HC1, HC2, BB, F4⟩
  go_wp2_with fail
  go_loopw [10] (fun iv W => ∃ i : Nat, i ≤ 6 ∧ iv = .int .i64 (i : Int) ∧ Hid (Fr (fun _ => False) W3 W)) (fun iv _ => 6 - (intOf iv).toNat)
  case atStart => exact ⟨0, by decide, rfl, Fr.refl _ _⟩
  case round =>
    obtain ⟨i, hi, rfl, FR⟩ := hrel
    by_cases hlt : i < 6
    case pos =>
      have hdl : decide ((i : Int) < 6) = true := decide_eq_true (by omega)
      have hdl' : decide (i < 6) = true := decide_eq_true hlt
      have q1 : (0 : Int) ≤ (i : Int) := by omega
      have q2 : (i : Int) < 6 := by omega
      have hb : i < badL.length := hlt
      obtain ⟨hno, hsh⟩ := bad_no badL[i] (List.getElem_mem hb)
      have hcb : wr.cell? ⟨gb, i, none⟩ = some (.string (strOf badL[i])) := by
        rw [(keepB BB.out FR.out).cell i]
        unfold bad6
        rw [List.getElem?_toArray, List.getElem?_map, List.getElem?_eq_getElem hb]
        rfl
      obtain ⟨s, hs⟩ : ∃ s, badL[i] = s := ⟨_, rfl⟩
      rw [hs] at hno hsh hcb
      have HNO := Lib.hid hno
      clear hno hs hb
      have HLr := Lib.hid ((HL.out.far F4.out).far FR.out)
      go_upto_region 11 with (
        go_at_call 9
        refine (all_c wr s (by omega) HLr.out).mono ?_
        intro e W5 hq
        obtain ⟨rfl, f5⟩ := all_no hsh HNO.out hq
        have F5 := Lib.hid f5
        clear hq f5)
      go_wp2_with fail
      go_roundw
      case rel => exact ⟨i + 1, by omega, by go_num, FR.out.trans F5.out (fun _ _ h => h)⟩
      case measure => simp [intOf]; omega
    case neg =>
      obtain rfl : i = 6 := by omega
      have y1 : wr.cell? ⟨g1, 5, none⟩ = some (.string ⟨#[97, 46, 98]⟩) := cell_far (HC1.out 5 _ rfl) FR.out
      have y2 : wr.cell? ⟨g1, 7, none⟩ = some (.int .i64 5) := cell_far (HC1.out 7 _ rfl) FR.out
      have y3 : wr.cell? ⟨g1, 12, none⟩ = some (.int .i64 2) := cell_far (HC1.out 12 _ rfl) FR.out
      have y4 : wr.cell? ⟨g1, 13, none⟩ = some (.string ⟨#[120, 34, 121]⟩) := cell_far (HC1.out 13 _ rfl) FR.out
      have y5 : wr.cell? ⟨g2, 2, none⟩ = some (.int .i64 (-12)) := cell_far (HC2.out 2 _ rfl) FR.out
      have y6 : wr.cell? ⟨g2, 5, none⟩ = some (.string ⟨#[33, 61]⟩) := cell_far (HC2.out 5 _ rfl) FR.out
      go_wp2_with fail
      go_ret
      exact ⟨rfl, F4.out.trans FR.out (fun _ _ h => h)⟩
end Go.Proofs.YtimopkmlcjdgfaaDoor
