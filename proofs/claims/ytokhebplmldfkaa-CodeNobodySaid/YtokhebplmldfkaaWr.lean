/-
  CONTRACTS of code.Writer.
-/
import Derived.Test.YtokhebplmldfkaaApp
import Derived.Test.YtokhebplmldfkaaA
namespace Go.Proofs.Ytokhebplmldfkaa
set_option linter.unusedSimpArgs false
set_option linter.unusedVariables false
open Go Go.RowKit

theorem u8_info : (Try.prog.info? 5).map (fun i => (i.zero, i.size, i.bytes)) = some (some (.int .u8 0), 1, 1) := by kernel_rfl

/-- A Writer lies in block b: its slice v is the call's own and holds the bytes l. -/
def Wr (w : World) (b : Nat) (v : Value) (l : List UInt8) : Prop := Blk w b 65 #[v] ∧ w.ownsRow 0 5 1 v l.length (bv l)
theorem Wr.ne {w : World} {b : Nat} {v : Value} {l : List UInt8} (h : Wr w b v l) : v.ownBlock ≠ some b := own_blk_ne h.2 h.1 (by decide)
theorem Wr.fr {w w' : World} {b : Nat} {v : Value} {l : List UInt8} {fp : Nat → Prop} (h : Wr w b v l) (hf : Fr fp w w') (h1 : ¬ fp b) (h2 : ∀ k, v.ownBlock = some k → ¬ fp k) : Wr w' b v l :=
  ⟨h.1.fr hf h1, own_fr h.2 hf h2⟩
theorem Wr.lt {w : World} {b : Nat} {v : Value} {l : List UInt8} (h : Wr w b v l) : b < w.heap.size ∧ ∀ k, v.ownBlock = some k → k < w.heap.size := ⟨h.1.lt, fun k hk => (h.2.lt k hk).2⟩
/-- What writing leaves: the Writer holds l', and only its own blocks have turned. -/
def WStep (b : Nat) (v : Value) (l' : List UInt8) (w w' : World) : Prop :=
  ∃ v', Wr w' b v' l' ∧ Fr (fun k => k = b ∨ v.ownBlock = some k) w w' ∧ ∀ k, v'.ownBlock = some k → v.ownBlock = some k ∨ w.heap.size ≤ k
theorem WStep.trans {b : Nat} {v v1 : Value} {l2 : List UInt8} {w w1 w2 : World} (f1 : Fr (fun k => k = b ∨ v.ownBlock = some k) w w1) (n1 : ∀ k, v1.ownBlock = some k → v.ownBlock = some k ∨ w.heap.size ≤ k)
    (h : WStep b v1 l2 w1 w2) : WStep b v l2 w w2 := by
  obtain ⟨v2, h2, f2, n2⟩ := h
  refine ⟨v2, h2, f1.trans f2 (fun i hi hq => ?_), fun k hk => ?_⟩
  · rcases hq with rfl | hq
    · exact .inl rfl
    · rcases n1 i hq with h | h
      · exact .inr h
      · omega
  · rcases n2 k hk with h | h
    · exact n1 k h
    · exact .inr (Nat.le_trans f1.size h)

set_option maxHeartbeats 400000 in
theorem newWriter_c (w : World) : Calls Try.prog 11 #[] w fun e w' => e = .returned (.pointer (some ⟨w.heap.size, 0, none⟩)) ∧ Wr w' w.heap.size (.slice none 0 0) [] ∧ Fr (fun _ => False) w w' ∧ w'.heap.size = w.heap.size + 1 := by
  go_enter Try.func11, Try.ntmps11
  go_wp2
  go_ret
  exact ⟨rfl, ⟨Blk.new _ _ _, World.ownsRow_nil _ _ _ _⟩, (Fr.refl _ _).alloc _, by simp⟩

set_option maxHeartbeats 400000 in
theorem add_nil (w : World) (s : Value) : Calls Try.prog 49 #[.pointer none, s] w fun e w' => e = .returned (.tuple #[]) ∧ w = w' := by
  go_enter Try.func49, Try.ntmps49
  go_wp2
  go_end0
  exact ⟨rfl, rfl⟩

set_option maxHeartbeats 400000 in
theorem add_c (w : World) (b : Nat) (v : Value) (l m : List UInt8) (A : Option Addr) (n c : Nat) (h : Wr w b v l) (hr : Rd w A n (bv m)) (hb : l.length + m.length ≤ 140737488355328) :
    Calls Try.prog 49 #[.pointer (some ⟨b, 0, none⟩), .slice A n c] w fun e w' => e = .returned (.tuple #[]) ∧ WStep b v (l ++ m) w w' := by
  obtain ⟨i0, hi, hz0, hz1, hz2⟩ := info_parts u8_info
  obtain ⟨Av, cv, rfl, _, _⟩ := own_slice h.2
  have c0 := h.1.cell 0
  have hm : m.length = n := by rw [← hr.1, bv_length]
  have hne := Lib.hid h.ne
  have hfz := h.1.frozen 0
  go_enter Try.func49, Try.ntmps49
  go_wp2_with (
    (at_builtin
     refine wpList_app rfl (.tmp 10) (.tmp 11) _ _ rfl 0 5 i0 _ 1 1 Try.underlying27 hi hz0 hz1 hz2 rfl (.slice Av l.length cv) l.length (bv l) rfl h.2 _ n (bv m) rfl (Src.rd Try.underlying27 c hr (bv_one m)) (by omega) (by unfold maxLen; omega) (Nat.zero_le _) ?_
     intro v1 w1 hown1 hf1 hn1
     obtain ⟨A1, c1, rfl, _, _⟩ := own_slice hown1
     have hb1 := h.1.fr hf1 hne.out
     have k0 := hb1.cell 0
     have k1 := hb1.frozen 0))
  go_end0
  have H1 : w1.ownsRow 0 5 1 (.slice A1 (l.length + n) c1) (l ++ m).length (bv (l ++ m)) := by
    rw [bv_append, List.length_append, hm]; exact hown1
  have hne1 : Value.ownBlock (.slice A1 (l.length + n) c1) ≠ some b := own_blk_ne H1 hb1 (by decide)
  refine ⟨rfl, _, ⟨hb1.set_ 0 _, own_fr H1 ((Fr.refl (fun k => k = b) w1).setCell (fun _ => rfl) _) (fun k hk e => hne1 (by rw [hk, e]))⟩, ?_, ?_⟩
  · exact (hf1.mono (fun i _ h => .inr h)).setCell (fun _ => .inl rfl) _
  · intro k hk
    rcases hn1 with e | e
    · exact .inl (e ▸ hk)
    · rw [e] at hk; injection hk with hk; exact .inr (by omega)
end Go.Proofs.Ytokhebplmldfkaa
