/-
  CONTRACT of digest's Short.
-/
import Derived.Test.YtjaocgmicdnghaaDoorOf
import Derived.Test.YtjaocgmicdnghaaDoorPar3
import Derived.Deep.MidRow
import Derived.Laws.Cover3
namespace Go.Proofs.YtjaocgmicdnghaaDoor
set_option linter.unusedSimpArgs false
set_option linter.unusedVariables false
open Go Go.RowKit Go.Shelf
attribute [local go_sem] Oper.semAt_some

theorem szB_16 : szB ((16 : Nat) : Int) = true := by decide
/-- Sixteen bytes as cells. -/
def b16 (q : List UInt8) : Array Value := (bv q).toArray
theorem b16_size (q : List UInt8) (h : q.length = 16) : (b16 q).size = 16 := by simp [b16, bv_length, h]
theorem b16_one (q : List UInt8) : (b16 q).all (·.oneCell') = true := all_oneCell_toArray (bv_one q)
set_option maxRecDepth 100000 in
set_option maxHeartbeats 1000000 in
theorem short_c (w : World) (A : Option Addr) (n c : Nat) (ls : List (List UInt8)) (hr : RdB w A n ls) (hn : n ≤ 9223372036854775807) (hl : ls.flatten.length ≤ 1000000000000) (hT : Tabs w) :
    Calls Tryd.prog 26 #[.slice A n c] w fun e w' => e = .returned (.agg (b16 (sumL (begL 16) 0 ls.flatten 16))) ∧ Fr (fun _ => False) w w' := by
  have hof := fun (W : World) (hW : Fr (fun _ => False) w W) => of_yes W 16 A n c ls szB_16 (by omega) (hr.far hW) hn hl (hT.far hW)
  obtain ⟨q, hq⟩ : ∃ q, sumL (begL 16) 0 ls.flatten 16 = q := ⟨_, rfl⟩
  have hql : q.length = 16 := by rw [← hq]; exact bytesL_len _ _
  rw [hq] at hof ⊢
  have HOF := Lib.hid hof
  have HQL := Lib.hid hql
  clear hof hr hn hl hq hql hT
  have hsz : (Tryd.prog.info? 23).map (·.size) = some (b16 q).size := by rw [b16_size q HQL.out]; kernel_rfl
  have HSZ := Lib.hid hsz
  have HONE := Lib.hid (b16_one q)
  clear hsz
  go_enter Tryd.func26, Tryd.ntmps26
  go_upto_region 1 with fail
  refine abs_world (fun W => Hid (Blk W w.heap.size 23 #[.int .u8 0, .int .u8 0, .int .u8 0, .int .u8 0, .int .u8 0, .int .u8 0, .int .u8 0, .int .u8 0, .int .u8 0, .int .u8 0, .int .u8 0, .int .u8 0, .int .u8 0, .int .u8 0, .int .u8 0, .int .u8 0]) ∧ Hid (Fr (fun _ => False) w W)) ⟨Blk.new w _ _, (Fr.refl _ w).alloc _⟩ ?_
  rintro W1 ⟨B0, HF1⟩
  go_wp2_with fail
  refine (HOF.out W1 HF1.out).mono ?_
  rintro e w2 ⟨v, rfl, o2, f2⟩
  obtain ⟨g, cap, h0, -, -⟩ := o2.form (by omega)
  obtain rfl := h0
  have hcs := o2.cells (g := g) rfl
  have hlt := o2.lt g rfl
  have hra : w2.rangeAt g 0 (bv q) := fun j u hu => by
    have h := hcs j u hu
    rw [Addr.add_lit] at h
    exact h
  have hb2 := B0.out.fr f2 (fun h => h)
  have hth : w2.there w.heap.size 0 (b16 q).size := by rw [b16_size q HQL.out]; exact hb2.there
  have hst := hb2.setAll (ds := b16 q) (by rw [b16_size q HQL.out]; rfl)
  have hil : (Tryd.prog.info? 23).map (·.size) = some (bv q).length := by rw [bv_length, HQL.out]; kernel_rfl
  have HRA := Lib.hid hra
  have HIL := Lib.hid hil
  have HTH := Lib.hid hth
  have HST := Lib.hid hst
  have FST := Lib.hid (Fr.setCells (fp := fun k => k = w.heap.size) (a := w2) (g := w.heap.size) (fun _ => rfl) (b16 q).toList 0 w2 (Fr.refl _ _))
  have F2 := Lib.hid (HF1.out.trans f2 (fun _ _ h => h))
  clear hcs hlt hra hb2 hth hst hil o2 f2 HOF
  have hat : ∀ W, (Instr.arrayAt 23 (.slice (some ⟨g, 0, none⟩) 16 cap)).run Tryd.prog W = .ok (.pointer (some ⟨g, 0, none⟩)) W := fun W => run_arrayAt W 23 _ 16 _ 16 cap Tryd.underlying23 (Nat.le_refl _)
  go_wp2_with (first
    | refine wpList_load_mid rfl 23 _ rfl g 0 rfl (bv q) _ HRA.out Tryd.underlying23 rfl HIL.out ?_
    | refine wpList_store_mid rfl 23 _ _ rfl w.heap.size 0 (b16 q) rfl rfl HTH.out HSZ.out HONE.out ?_)
  generalize w2.setCells w.heap.size 0 (b16 q).toList = w9 at *
  refine bodyPost_ret (v := .agg (b16 q)) (results_cell_row Tryd.results26 _ _ w.heap.size 23 _ (0, 0) _ rfl HST.out Tryd.underlying23 rfl HSZ.out) rfl ?_
  exact ⟨rfl, F2.out.trans FST.out (fun k hk e => by omega)⟩
end Go.Proofs.YtjaocgmicdnghaaDoor
