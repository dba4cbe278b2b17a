/-
  THE LAID TABLES: what their cells hold; a world in which they lie.
-/
import Derived.Test.YtfdpaiainlfigaaDoorTabs
import Derived.Test.YtfdpaiainlfigaaDoorRows
import Derived.ProofKit
import Derived.ChangeSame
import Derived.ChangeVars
import Derived.RowKit
import Derived.Lib.LaidTab
import Derived.Stop.LaidErr
import Derived.Lay
namespace Go.Proofs.YtfdpaiainlfigaaDoor
set_option linter.unusedSimpArgs false
set_option linter.unusedVariables false
open Go Go.ChangeShapes Go.WideShapes Go.RowKit

theorem own : ownKnob Tryd.prog.godebug = none := by kernel_rfl
theorem laidOut : laidOutB Tryd.prog = true := by kernel_rfl
def laidL : List (String × DataW Unit) := [("tidewrack/digest.initial", Rows.laid_tidewrack_digest_initial), ("tidewrack/digest.orders", Rows.laid_tidewrack_digest_orders)]
/-- An array of arrays of integers that reads as the table holds the table's numbers. -/
theorem cells_of_tab2 {H : Type} {enc : TypeId × Value → H} {P : Program} {w : World} {base : Nat} {sp : Nat → Bool} {held : Bool} {fuel : Nat} {t e u : TypeId} {n m : Nat} {k : IntKind} {cs : List Value} {rows : List (List Int)} {p : List MemPlace}
    (ht : P.underlying t = some (.array n e)) (he : P.underlying e = some (.array m u)) (hu : P.underlying u = some (.int k)) (hcu : P.cellsOf u = 1) (hce : P.cellsOf e = m)
    (h : DataW.trod enc P w base sp held fuel t cs = some (.agg (rows.map (Lib.tabData k)), p)) (i : Nat) (hi : i < n) (j : Nat) (hj : j < m) : cs[i * m + j]? = ((rows[i]?.getD [])[j]?).map (Value.int k) := by
  cases fuel with
  | zero => simp [DataW.trod] at h
  | succ fuel =>
    simp only [DataW.trod, ht, hce] at h
    split at h
    · rename_i hl
      obtain ⟨xs, hm, hx⟩ := Option.map_eq_some_iff.1 h
      have hxs : xs.map (·.1) = rows.map (Lib.tabData k) := by
        have := congrArg Prod.fst hx
        simpa using this
      obtain ⟨b, hb, hf⟩ := Lib.mapM_at hm i i (by simp [hi])
      have h2 : (xs.map (·.1))[i]? = some b.1 := by simp [hb]
      rw [hxs] at h2
      simp only [List.getElem?_map, Option.map_eq_some_iff] at h2
      obtain ⟨zs, hz, hzb⟩ := h2
      obtain ⟨b1, b2⟩ := b
      dsimp only at hzb
      subst hzb
      have hc := Lib.cells_of_tab he hu hcu hce hf
      rw [hz]
      have h3 : cs[i * m + j]? = ((cs.drop (i * m)).take m)[j]? := by
        rw [List.getElem?_take_of_lt hj, List.getElem?_drop]
      rw [h3, hc]
      simp
    · cases h
def ordI : List (List Int) := ords.map fun r => r.map fun (x : Nat) => (x : Int)
theorem tabs_of_laid {W : World} (h : laidMet Tryd.prog laidL W) : Tabs W := by
  have h1 : Lib.TabIs Tryd.prog W "tidewrack/digest.initial" .u32 (ivs.map fun (x : Nat) => (x : Int)) :=
    Lib.tabIs_of_head (g := 0) (t := 23) (e := 22) (n := 8) (rest := [("tidewrack/digest.orders", Rows.laid_tidewrack_digest_orders)]) (by kernel_rfl) (by kernel_rfl) Tryd.underlying23 Tryd.underlying22 (by kernel_rfl) (by kernel_rfl) h
  refine ⟨fun k hk => ?_, fun k hk => ?_⟩
  · have := h1.cell (g := 0) (by kernel_rfl) k (by rw [List.length_map]; exact hk)
    rw [this]
    congr 2
    unfold at_
    rw [List.getD_eq_getElem?_getD, List.getElem?_map]
    cases ivs[k]? <;> rfl
  · obtain ⟨ps, ⟨g, t, cs, fuel, p, q, hg, ht, hvar, hd, _, _⟩, _⟩ := laidMet.tail h
    obtain rfl := Option.some.inj ((show Tryd.prog.globalNamed "tidewrack/digest.orders" = some 1 by kernel_rfl).symm.trans hg)
    obtain rfl := Option.some.inj ((show (Tryd.prog.globals[1]?).map (·.type) = some 65 by kernel_rfl).symm.trans ht)
    have hc := cells_of_tab2 (rows := ordI) Tryd.underlying65 Tryd.underlying43 Tryd.underlying5 (by kernel_rfl) (by kernel_rfl) hd (k / 16) (by omega) (k % 16) (by omega)
    rw [World.var?_cell (show Tryd.prog.globalNamed "tidewrack/digest.orders" = some 1 by kernel_rfl) hvar k]
    rw [show k / 16 * 16 + k % 16 = k by omega] at hc
    rw [show cs[k]? = cs.toList[k]? by simp, hc]
    have key : ∀ k, k < 160 → (((ordI[k / 16]?.getD [])[k % 16]?).map (Value.int .u8)).isSome = true ∧ ((ordI[k / 16]?.getD [])[k % 16]?).getD 0 = ((at_ ordF k : Nat) : Int) := by decide +kernel
    obtain ⟨k1, k2⟩ := key k hk
    cases hx : (ordI[k / 16]?.getD [])[k % 16]? with
    | none => rw [hx] at k1; cases k1
    | some z => rw [hx] at k2; simp only [Option.getD_some] at k2; rw [k2]; rfl
theorem laid_fits (os : Os) : (World.holding Tryd.prog os ⟨#[], #[], []⟩).layFits Tryd.prog laidL [] = true := by kernel_rfl
theorem laid_ifaces (os : Os) : (World.holding Tryd.prog os ⟨#[], #[], []⟩).layIfaces Tryd.prog laidL (World.laidAll Tryd.prog os laidL) = true := by kernel_rfl
theorem laid_met (os : Os) (args : Array Value) : laidMet Tryd.prog laidL ((World.laidAll Tryd.prog os laidL).forCall (fun _ _ => 0) ⟨#[], args, []⟩).memory := laidMet_laidAll args (laid_fits os) (laid_ifaces os)
end Go.Proofs.YtfdpaiainlfigaaDoor
