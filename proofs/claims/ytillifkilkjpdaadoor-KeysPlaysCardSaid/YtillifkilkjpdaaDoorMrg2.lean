/-
  CONTRACT of Merge.
-/
import Derived.Test.YtillifkilkjpdaaDoorMrg1
namespace Go.Proofs.YtillifkilkjpdaaDoor
set_option linter.unusedSimpArgs false
set_option linter.unusedVariables false
open Go Go.RowKit Go.Shelf

set_option maxRecDepth 100000 in
set_option maxHeartbeats 1000000 in
theorem merge_c (w : World) (A : Option Addr) (c : Nat) (ps : List Value) (ms : List Ents) (hr : Rd w A ps.length ps) (hx : XRs w ps ms) (hs : ∀ m ∈ ms, Srt m) (hlen : ∀ m ∈ ms, m.length ≤ 100000) (hnum : ps.length ≤ 1000) :
    Calls Tryd.prog 21 #[.slice A ps.length c] w fun e w' => ∃ v, e = .returned v ∧ SeqF w' v (mrg ms) ∧ Fr (fun _ => False) w w' := by
  have HR := Lib.hid hr
  have HX := Lib.hid hx
  have HS := Lib.hid hs
  have HL := Lib.hid hlen
  obtain ⟨np, hnp⟩ : ∃ np, ps.length = np := ⟨_, rfl⟩
  rw [hnp] at HR hnum ⊢
  have HN := Lib.hid hnp
  clear hr hx hs hlen hnp
  go_enter Tryd.func21, Tryd.ntmps21
  have f0 := (Fr.refl (fun _ => False) w).alloc (.cells #[.slice A np c] 36)
  have HF0 := Lib.hid f0
  have HB0 := Lib.hid (Blk.new w 36 #[.slice A np c])
  have hz : w.heap.size < (w.alloc (.cells #[.slice A np c] 36)).heap.size := by simp
  clear f0
  go_wp2_with (first
    | (go_at_call 36
       have hcl := clonep_c (w.alloc (.cells #[.slice A np c] 36)) A c ps (by rw [HN.out]; exact HR.out.far HF0.out) HX.out.one (by rw [HN.out]; omega)
       rw [HN.out] at hcl
       refine hcl.mono ?_
       rintro e w3 ⟨v3, rfl, h3, f3⟩
       obtain ⟨A3, c3, rfl, hc3, -⟩ := own_slice h3
       rw [HN.out] at hc3 h3
       have H3 := Lib.hid h3
       have F3 := Lib.hid f3
       have z1 : w3.cell? ⟨w.heap.size, 0, none⟩ = some (.slice A np c) := (HB0.out.fr f3 (fun h => h)).cell 0
       have z2 : w3.frozen? ⟨w.heap.size, 0, none⟩ = false := (HB0.out.fr f3 (fun h => h)).frozen 0
       clear h3 f3 hcl))
  go_ret
  have hsz : (w.alloc (.cells #[.slice A np c] 36)).heap.size = w.heap.size + 1 := by simp
  have FA : Fr (fun k => k = w.heap.size) w3 (w3.setCell ⟨w.heap.size, 0, none⟩ (.slice A3 ps.length c3)) := (Fr.refl (fun k => k = w.heap.size) w3).setCell (fun _ => rfl) _
  have FT : Fr (fun _ => False) w (w3.setCell ⟨w.heap.size, 0, none⟩ (.slice A3 ps.length c3)) := ((HF0.out.trans F3.out (fun _ _ h => h)).mono (fp := fun k => k = w.heap.size) (fun _ _ h => h.elim)).trans FA (fun _ _ h => h) |>.mono (fun k hk h => by omega)
  have B4 := (HB0.out.fr F3.out (fun h => h)).set_ 0 (.slice A3 ps.length c3)
  have O4 : OwP (w3.setCell ⟨w.heap.size, 0, none⟩ (.slice A3 ps.length c3)) (w.heap.size + 1) (.slice A3 ps.length c3) ps := by
    have h := H3.out
    rw [hsz, ← HN.out] at h
    exact own_fr h FA (fun k hk e => by have := (World.ownsRow.lt h k hk).1; omega)
  refine ⟨_, rfl, ⟨37, _, rfl, ⟨_, Tryd.func37⟩, enters_of Tryd.func37 (by kernel_rfl) rfl, fun n L W1 hn h => ?_⟩, FT⟩
  exact merge1_it n hn L _ A3 c3 ps ms W1 (B4.fr h (fun h => h)) (Rd.far (Rd.of_own O4) h) (HX.out.far (FT.trans h (fun _ _ h => h))) HS.out HL.out (by rw [HN.out]; exact hnum) (by rw [HN.out]; exact hc3)
end Go.Proofs.YtillifkilkjpdaaDoor
