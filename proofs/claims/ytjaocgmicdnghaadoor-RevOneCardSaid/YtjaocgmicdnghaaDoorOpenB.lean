/-
  HOW THE LAW RevOne's ARGUMENTS ARE OPENED: a list of values.
-/
import Derived.Test.YtjaocgmicdnghaaDoorOne
import Derived.Test.YtjaocgmicdnghaaDoorVaOpenV
import Derived.Test.YtjaocgmicdnghaaDoorLaid
import Derived.Test.YtjaocgmicdnghaaDoorOpenR
namespace Go.Proofs.YtjaocgmicdnghaaDoor
set_option linter.unusedSimpArgs false
set_option linter.unusedVariables false
open Go Go.RowKit Go.ChangeShapes Go.WideShapes

theorem open_bd {H : Type} {enc : TypeId × Value → H} {W : World} {base : Nat} {spare : Nat → Bool} {held : Bool} {a : Option Addr} {len cap : Nat} {d : DataW H} {p : List MemPlace}
    (h : DataW.Trod enc Tryd.prog W base spare held 41 (.slice a len cap) d p) (hw : ∀ n ∈ d.weights Tryd.prog 41, n ≤ reachBytes) : len ≤ 140737488355328 ∧ BD a len W := by
  obtain ⟨m, hm⟩ := h
  obtain ⟨-, h2, l, hl, hr, hok⟩ := V1.open_elems (enc := enc) (α := V1.VA) ⟨(V1.vcs 0 0 [] none 0 0 none 0 0, V1.V.zero), rfl⟩ (fun x => x.1.1.toList) (fun x => V1.RdV (fun b => b < W.heap.size) W x.1.1 x.1.2) Tryd.underlying41 (by kernel_rfl) (by omega : 0 < 5) (of_decide_eq_true (by kernel_rfl)) (fun x => by rw [Array.length_toList]; exact x.2)
      (fun n' hn' cs' y' hl' hy' hw' => by
        obtain ⟨v, hv⟩ := V1.val_at n' cs' y' hl' hy' hw'
        exact ⟨⟨(cs'.toArray, v), by simpa using hl'⟩, hv, by simp⟩) hm hw
  refine ⟨h2, fun i hi => ?_⟩
  obtain ⟨b, off, hA, hc⟩ := hr.lit (by omega)
  have hx : l[i]? = some l[i] := List.getElem?_eq_getElem (by omega)
  refine ⟨b, off, l[i].1.1, l[i].1.2, _, hA, fun j v hv => ?_, hok _ (List.mem_of_getElem? hx)⟩
  have hj : j < 5 := by
    have h3 := (List.getElem?_eq_some_iff.1 hv).1
    rw [Array.length_toList, l[i].2] at h3
    exact h3
  have hf := V1.flat_get (l.map (·.1.1)) (fun C hC => by
    obtain ⟨x, _, rfl⟩ := List.mem_map.1 hC
    exact x.2) i l[i].1.1 (by rw [List.getElem?_map, hx]; rfl) j hj
  have hfl : V1.flat (l.map (·.1.1)) = l.flatMap (fun x => x.1.1.toList) := by
    unfold V1.flat
    rw [List.flatMap_map]
  rw [hfl] at hf
  have h4 := hc (i * 5 + j) (by have := Nat.mul_le_mul_right 5 (show i + 1 ≤ len by omega); omega)
  rw [hf] at h4
  rw [Nat.add_assoc, h4]
  rw [← Array.getElem?_toList]
  exact hv
theorem eight {W : World} (hsh : W.ShapedOpen Tryd.prog) : 8 ≤ W.heap.size := by
  have h7 : ((((begin Tryd.prog (fun _ _ => 0) default).world).heap[7]?).bind Obj.row?).isSome = true := by kernel_rfl
  obtain ⟨⟨z, t⟩, hz⟩ := Option.isSome_iff_exists.1 h7
  obtain ⟨cs, hc, _⟩ := hsh.1 7 z t (of_decide_eq_true (by kernel_rfl)) hz
  have := (Array.getElem?_eq_some_iff.1 hc).1
  omega
theorem wf_i64 {a : Int} (h : (Lit.int .i64 a).wf = true) : -9223372036854775808 ≤ a ∧ a ≤ 9223372036854775807 := by
  simp [Lit.wf, IntKind.min, IntKind.max, IntKind.bits, IntKind.signed] at h
  omega
end Go.Proofs.YtjaocgmicdnghaaDoor
