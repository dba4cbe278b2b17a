/-
  WHAT THE LISTED VARIABLES HOLD; a world in which they lie; the wrap that keeps the world's shape.
-/
import Derived.Test.YtjaocgmicdnghaaGreatDoorSh
import Derived.Test.YtjaocgmicdnghaaGreatDoorRows
import Derived.ProofKit
import Derived.ChangeSame
import Derived.ChangeVars
import Derived.RowKit
import Derived.Lib.LaidTab
import Derived.Stop.LaidErr
import Derived.Lay
import Derived.Handed
import Derived.Shelf.Vars
namespace Go.Proofs.YtjaocgmicdnghaaGreatDoor
set_option linter.unusedSimpArgs false
set_option linter.unusedVariables false
open Go Go.ChangeShapes Go.WideShapes Go.RowKit

theorem own : ownKnob Tryz.prog.godebug = none := by kernel_rfl
theorem laidOut : laidOutB Tryz.prog = true := by kernel_rfl
def laidL : List (String × DataW Unit) := [("math/bits.deBruijn32tab", Rows.laid_math_bits_deBruijn32tab), ("math/bits.deBruijn64tab", Rows.laid_math_bits_deBruijn64tab), ("internal/strconv.uint64pow10", Rows.laid_internal_strconv_uint64pow10), ("strconv.ErrRange", Rows.laid_strconv_ErrRange), ("strconv.ErrSyntax", Rows.laid_strconv_ErrSyntax), ("tidewrack/digest.initial", Rows.laid_tidewrack_digest_initial), ("tidewrack/digest.orders", Rows.laid_tidewrack_digest_orders)]
/-- An array of arrays of integers that reads as the table holds the table's numbers. -/
theorem cells_of_tab2 {H : Type} {enc : TypeId × Value → H} {P : Program} {w : World} {base : Nat} {sp : Nat → Bool} {held : Bool} {fuel : Nat} {t e u : TypeId} {n m : Nat} {k : IntKind} {cs : List Value} {rows : List (List Int)} {p : List MemPlace}
    (ht : P.underlying t = some (.array n e)) (he : P.underlying e = some (.array m u)) (hu : P.underlying u = some (.int k)) (hcu : P.cellsOf u = 1) (hce : P.cellsOf e = m)
    (h : DataW.trod enc P w base sp held fuel t cs = some (.agg (rows.map (Lib.tabData k)), p)) (i : Nat) (hi : i < n) (j : Nat) (hj : j < m) : cs[i * m + j]? = ((rows[i]?.getD [])[j]?).map (Value.int k) := by
  cases fuel with
  | zero => simp [DataW.trod] at h
  | succ fuel =>
    simp only [DataW.trod, ht, hce] at h
    split at h
    · rename_i hl
      obtain ⟨xs, hm, hx⟩ := Option.map_eq_some_iff.1 h
      have hxs : xs.map (·.1) = rows.map (Lib.tabData k) := by
        have := congrArg Prod.fst hx
        simpa using this
      obtain ⟨b, hb, hf⟩ := Lib.mapM_at hm i i (by simp [hi])
      have h2 : (xs.map (·.1))[i]? = some b.1 := by simp [hb]
      rw [hxs] at h2
      simp only [List.getElem?_map, Option.map_eq_some_iff] at h2
      obtain ⟨zs, hz, hzb⟩ := h2
      obtain ⟨b1, b2⟩ := b
      dsimp only at hzb
      subst hzb
      have hc := Lib.cells_of_tab he hu hcu hce hf
      rw [hz]
      have h3 : cs[i * m + j]? = ((cs.drop (i * m)).take m)[j]? := by
        rw [List.getElem?_take_of_lt hj, List.getElem?_drop]
      rw [h3, hc]
      simp
    · cases h
def ordI : List (List Int) := ords.map fun r => r.map fun (x : Nat) => (x : Int)
theorem iface_of_trod {H : Type} {enc : TypeId × Value → H} {P : Program} {W : World} {base : Nat} {sp : Nat → Bool} {held : Bool} {fuel : Nat} {t : TypeId} {ms : Array (String × TypeId)} {cs : List Value} {nm : String} {d : DataW H} {p : List MemPlace}
    (ht : P.underlying t = some (.interface ms)) (h : DataW.trod enc P W base sp held fuel t cs = some (.iface nm d, p)) : ∃ u v, cs = [.iface u v] := by
  cases fuel with
  | zero => simp [DataW.trod] at h
  | succ fuel =>
    simp only [DataW.trod, ht] at h
    split at h
    all_goals first
      | exact ⟨_, _, rfl⟩
      | (simp_all; done)
      | simp at h
theorem head_iface {n nm : String} {dd : DataW Unit} {r : List (String × DataW Unit)} {W : World} {g : Nat} (h : laidMet Tryz.prog ((n, .iface nm dd) :: r) W) (hg : Tryz.prog.globalNamed n = some g) (ht : (Tryz.prog.globals[g]?).map (·.type) = some 55) : ∃ t p, W.cell? ⟨g, 0, none⟩ = some (.iface t p) := by
  obtain ⟨ps, ⟨g0, t0, cs0, f0, p0, q0, hg0, ht0, hv0, hd0, _, _⟩, _⟩ := h
  obtain rfl := Option.some.inj (hg.symm.trans hg0)
  obtain rfl := Option.some.inj (ht.symm.trans ht0)
  obtain ⟨u, v, e⟩ := iface_of_trod Tryz.underlying55 hd0
  refine ⟨u, v, ?_⟩
  rw [World.var?_cell hg hv0 0]
  rw [show cs0[0]? = cs0.toList[0]? by simp, e]
  rfl
theorem laid_of {W : World} (h : laidMet Tryz.prog laidL W) (hsh : W.ShapedOpen Tryz.prog) : LaidOk W := by
  have h5 := laidMet.tail (laidMet.tail (laidMet.tail (laidMet.tail (laidMet.tail h))))
  have h1 : Lib.TabIs Tryz.prog W "tidewrack/digest.initial" .u32 (ivs.map fun (x : Nat) => (x : Int)) :=
    Lib.tabIs_of_head (g := 1) (t := 77) (e := 76) (n := 8) (rest := [("tidewrack/digest.orders", Rows.laid_tidewrack_digest_orders)]) (by kernel_rfl) (by kernel_rfl) Tryz.underlying77 Tryz.underlying76 (by kernel_rfl) (by kernel_rfl) h5
  refine ⟨⟨fun k hk => ?_, fun k hk => ?_⟩, ?_, ?_, ?_, ?_⟩
  · have := h1.cell (g := 1) (by kernel_rfl) k (by rw [List.length_map]; exact hk)
    rw [this]
    congr 2
    unfold at_
    rw [List.getD_eq_getElem?_getD, List.getElem?_map]
    cases ivs[k]? <;> rfl
  · obtain ⟨ps, ⟨g, t, cs, fuel, p, q, hg, ht, hvar, hd, _, _⟩, _⟩ := laidMet.tail h5
    obtain rfl := Option.some.inj ((show Tryz.prog.globalNamed "tidewrack/digest.orders" = some 4 by kernel_rfl).symm.trans hg)
    obtain rfl := Option.some.inj ((show (Tryz.prog.globals[4]?).map (·.type) = some 113 by kernel_rfl).symm.trans ht)
    have hc := cells_of_tab2 (rows := ordI) Tryz.underlying113 Tryz.underlying23 Tryz.underlying5 (by kernel_rfl) (by kernel_rfl) hd (k / 16) (by omega) (k % 16) (by omega)
    rw [World.var?_cell (show Tryz.prog.globalNamed "tidewrack/digest.orders" = some 4 by kernel_rfl) hvar k]
    rw [show k / 16 * 16 + k % 16 = k by omega] at hc
    rw [show cs[k]? = cs.toList[k]? by simp, hc]
    have key : ∀ k, k < 160 → (((ordI[k / 16]?.getD [])[k % 16]?).map (Value.int .u8)).isSome = true ∧ ((ordI[k / 16]?.getD [])[k % 16]?).getD 0 = ((at_ ordF k : Nat) : Int) := by decide +kernel
    obtain ⟨k1, k2⟩ := key k hk
    cases hx : (ordI[k / 16]?.getD [])[k % 16]? with
    | none => rw [hx] at k1; cases k1
    | some z => rw [hx] at k2; simp only [Option.getD_some] at k2; rw [k2]; rfl
  · exact Lib.tabIs_of_head (g := 5) (t := 130) (e := 22) (n := 20) (rest := [("strconv.ErrRange", Rows.laid_strconv_ErrRange), ("strconv.ErrSyntax", Rows.laid_strconv_ErrSyntax), ("tidewrack/digest.initial", Rows.laid_tidewrack_digest_initial), ("tidewrack/digest.orders", Rows.laid_tidewrack_digest_orders)]) (by kernel_rfl) (by kernel_rfl) Tryz.underlying130 Tryz.underlying22 (by kernel_rfl) (by kernel_rfl) (laidMet.tail (laidMet.tail h))
  · exact cell_of_shapedOpen_int (P := Tryz.prog) (g := 0) (t := 3) (zero := #[.int .i64 0]) hsh (of_decide_eq_true (by kernel_rfl)) (by kernel_rfl) rfl (by kernel_rfl) (by kernel_rfl) Tryz.underlying3
  · exact head_iface (laidMet.tail (laidMet.tail (laidMet.tail (laidMet.tail h)))) (by kernel_rfl) (by kernel_rfl)
  · exact head_iface (laidMet.tail (laidMet.tail (laidMet.tail h))) (by kernel_rfl) (by kernel_rfl)
theorem laid_fits (os : Os) : (World.holding Tryz.prog os ⟨#[], #[], []⟩).layFits Tryz.prog laidL [] = true := by kernel_rfl
theorem laid_ifaces (os : Os) : (World.holding Tryz.prog os ⟨#[], #[], []⟩).layIfaces Tryz.prog laidL (World.laidAll Tryz.prog os laidL) = true := by kernel_rfl
theorem laid_met (os : Os) (args : Array Value) : laidMet Tryz.prog laidL ((World.laidAll Tryz.prog os laidL).forCall (fun _ _ => 0) ⟨#[], args, []⟩).memory := laidMet_laidAll args (laid_fits os) (laid_ifaces os)
theorem laid_shaped (os : Os) (args : Array Value) : ((World.laidAll Tryz.prog os laidL).forCall (fun _ _ => 0) ⟨#[], args, []⟩).Shaped Tryz.prog := World.shaped_of_ZipB (by kernel_rfl) (by kernel_rfl)
/-- The wrap: the variables as they are listed, and the world's shape. -/
theorem returns_shaped {H : Type} {enc : TypeId × Value → H} {a : Assume} {C : Checked} {os : Os} {f : FuncId} {fn : Func} {s : ChangeSpec} {conds : List PathCond} {apart fresh handsOn again : Bool} {X : World → Array Value → Prop}
    (own : ownKnob C.prog.godebug = none) (hX : ∀ (w w' : World) (args : Array Value), w.heap = w'.heap → X w args → X w' args) (started : os.Started) (noInit : C.prog.inits.idxOf? f = none) (hfn : C.prog.funcs[f]? = some fn)
    (witness : ∃ (w : World) (tape : Tape) (i : Input), w.os = os ∧ (w.forCall tape i).Shaped C.prog ∧ i.vars = [] ∧ Input.okWide C.prog (w.forCall tape i) .any w.heap.size f i ∧
      ((s.pre enc C.prog fn conds apart (w.forCall tape i).memory i.args ∧ X (w.forCall tape i).memory i.args) ∧ sizedMet enc C.prog fn (OpenSpec.ofChange s) apart (w.forCall tape i).memory i.args) ∧ a.holds C.prog (lone (Frame.enter C.prog f i.args .normal) [] (w.forCall tape i)))
    (walk : ∀ (W : World) (base : Nat) (args : Array Value) (ds gs : List (DataW H)) (before : List MemPlace), W.ShapedOpen C.prog → X W args →
      (∀ (j : Nat) t v, fn.params[j]? = some t → args[j]? = some v → Value.okWide C.prog W .any base t v) →
      DataW.Whole enc C.prog fn.params.toList s.vars apart W args.toList ds gs before →
      (DataW.weightsEach C.prog (fn.params.toList ++ s.plain.varTypes C.prog) (ds ++ gs)).all (· ≤ reachBytes) = true →
      Calls C.prog f args W fun e W' => ∃ v, e = .returned v ∧ s.post enc C.prog fn apart fresh handsOn again W args v W') :
    ReturnsInHanded a C os f .any (fun w args => (s.pre enc C.prog fn conds apart w args ∧ X w args) ∧ sizedMet enc C.prog fn (OpenSpec.ofChange s) apart w args) (s.post enc C.prog fn apart fresh handsOn again) := by
  refine returnsInHanded_of_calls own started noInit witness fun w tape i _ hshape _ hok hpre _ => ?_
  obtain ⟨_, _, _, fn2, h2, _, _, _, _, hvals⟩ := hok
  obtain rfl : fn2 = fn := Option.some.inj (h2.symm.trans hfn)
  obtain ⟨⟨⟨ds, gs, before, hwhole, _⟩, hx⟩, hsz⟩ := hpre
  have hwhole' := DataW.Whole.of_heap (w' := w.forCall tape i) (by rfl) hwhole
  refine (walk (w.forCall tape i) w.heap.size i.args ds gs before hshape (hX _ _ _ (by rfl) hx) hvals hwhole' (hsz.weights hwhole)).mono fun e W' h => ?_
  obtain ⟨v, rfl, hp⟩ := h
  exact ChangeSpec.post_blind hp
end Go.Proofs.YtjaocgmicdnghaaGreatDoor
