/-
  CONTRACT of Letters where one message is in transit.
-/
import Derived.Test.YtpgklhbbjbdejaaSort
import Derived.Maps.RangeWalk
namespace Go.Proofs.Ytpgklhbbjbdejaa
set_option linter.unusedSimpArgs false
set_option linter.unusedVariables false
open Go Go.RowKit Go.Maps

theorem u64_info : (Try.prog.info? 32).map (fun i => (i.zero, i.size, i.bytes)) = some (some (.int .u64 0), 1, 8) := by kernel_rfl
theorem letter_info : (Try.prog.info? 65).map (fun i => (i.zero, i.size, i.bytes)) = some (some (.agg #[.int .u64 0, .int .i64 0, .int .i64 0, .int .i64 0]), 4, 32) := by kernel_rfl
abbrev one (v : Value) : DataW Value := .map [(.int .u64 2, .held v)]
theorem one_has {v : Value} {kl : Lit} (h : Maps.has (one v) kl = true) : kl = .int .u64 2 := by
  rw [Maps.has_eq] at h
  obtain ⟨p, hp, hpk⟩ := List.any_eq_true.1 h
  rw [List.mem_singleton] at hp
  subst hp
  exact (WideAt.sameKey_eq hpk).symm
theorem one_done (v : Value) (kl : Lit) : (Maps.has (one v) kl && !kl.sameKey (.int .u64 2)) = false := by
  cases h : Maps.has (one v) kl
  · rfl
  · rw [one_has h]
    rfl
def Lst (w : World) (mb n : Nat) (mv : Value) (ids : Value) (wr : World) : Prop :=
  Fr (fun _ => False) w wr ∧ ((ids = .slice none 0 0 ∧ wr.ranges Try.prog 32 RH mb w.heap.size n (one mv) (Maps.has (one mv)) 1) ∨
    (∃ left cnt, wr.ranges Try.prog 32 RH mb w.heap.size n (one mv) left cnt ∧ (∀ kl, left kl = false) ∧ wr.ownsRow (w.heap.size + 1) 32 1 ids 1 [.int .u64 2]))

theorem src_blk {P : Program} {w : World} {b : Nat} {t tx e' : TypeId} {cs : Array Value} {n size : Nat} (hk : P.underlying tx = some (.slice e')) (c : Nat) (h : Blk w b t cs) (hs : cs.size = n * size) (h1 : ∀ u ∈ cs.toList, u.oneCell' = true) :
    Src P size tx (.slice (some ⟨b, 0, none⟩) n c) n cs.toList w :=
  Src.ofSlice w hk ⟨b, 0, none⟩ n c cs.toList (by rw [Array.length_toList]; exact hs) (fun j u hu => by rw [Addr.add_lit, Nat.zero_add, h.cell]; simpa using hu) h1
theorem gb_of {a b : World} (f : Fr (fun k => (Value.slice none 0 0).ownBlock = some k) a b) : a.grownBy b none :=
  ⟨f.os, f.tape, f.output, f.size, fun i hi _ => f.block i hi (fun h => by simp [Value.ownBlock] at h)⟩
theorem fr_nil {a b : World} (f : Fr (fun k => (Value.slice none 0 0).ownBlock = some k) a b) : Fr (fun _ => False) a b := f.mono (fun i _ h => by simp [Value.ownBlock] at h)
theorem look0_c {w : World} {mb n : Nat} {v : Value} (hO : MapI w mb n (one v)) : (Instr.lookup 42 (.map (some mb)) (.int .u64 2) false).run Try.prog w = .ok v w := by
  obtain ⟨v', ps, h1, h2⟩ := World.ownsMap.lookup hO K64 Try.underlying42 (zM_zero w) (zd := .held zM) (zp := []) rfl (key64 (n := 2) (by decide))
  unfold RH at h2
  injection h2 with h2
  injection h2 with h2 _
  have h3 : (DataW.held v' : DataW Value) = .held v := h2
  injection h3 with h3
  subst h3
  exact h1
def L2 (w w5 : World) (f t : Int) (m : Nat) (out k : Value) (wx : World) : Prop :=
  Fr (fun _ => False) w5 wx ∧ ((out = .slice none 0 0 ∧ k = .int .i64 0) ∨ (k = .int .i64 1 ∧ wx.ownsRow w.heap.size 65 4 out 1 [.int .u64 2, .int .i64 f, .int .i64 t, .int .i64 (m : Nat)]))
def kOf (k : Value) : Nat := match k with | .int _ 0 => 1 | _ => 0

set_option maxRecDepth 100000 in
set_option maxHeartbeats 2000000 in
theorem letters_one (w : World) (g mb n : Nat) (reps last : Int) (lk : Nat → Int) (f t : Int) (A : Option Addr) (m c : Nat)
    (hB : Blk w g 46 (netC reps last (some mb) lk)) (hO : MapI w mb n (one (.agg #[.int .i64 f, .int .i64 t, .slice A m c]))) :
    Calls Try.prog 22 #[.pointer (some ⟨g, 0, none⟩)] w fun e w' => ∃ v, e = .returned v ∧ w'.ownsRow w.heap.size 65 4 v 1 [.int .u64 2, .int .i64 f, .int .i64 t, .int .i64 (m : Nat)] ∧ Fr (fun _ => False) w w' := by
  have HB := Lib.hid hB
  have HO := Lib.hid hO
  have c2 : w.cell? ⟨g, 2, none⟩ = some (.map (some mb)) := hB.cell 2
  clear hB hO
  obtain ⟨i0, hi, hz0, hz1, hz2⟩ := info_parts u64_info
  obtain ⟨i1, ki, kz0, kz1, kz2⟩ := info_parts letter_info
  go_enter Try.func22, Try.ntmps22
  go_wp2_with fail
  refine (made_yes w _ _ _ _ _ HB.out).mono ?_
  rintro e w2 ⟨rfl, hw⟩
  rw [hw]
  clear hw w2
  go_wp2_with (at_range
               refine wpList_range_own _ rfl _ 42 rfl 32 51 K64 Try.underlying42 RH mb n _ rfl HO.out ?_
               rintro w0 rg0 g0 s0)
  go_frame
  go_loopw [3] (fun ids wr => Hid (Lst w mb n (.agg #[.int .i64 f, .int .i64 t, .slice A m c]) ids wr)) (fun _ wr => wr.rangeLeft mb w.heap.size)
  case atStart => exact ⟨(Fr.refl _ w).grown g0 (fun k e _ => by cases e), .inl ⟨rfl, rg0⟩⟩
  case round =>
    obtain ⟨fr, ⟨rfl, hrg⟩ | ⟨left, cnt, hrg, hall, own⟩⟩ := hrel.out
    · go_wp2_with (first
      | (at_next
         refine wpList_next_ranges _ rfl _ rfl 32 K64 RH (Value.int .u64) (fun v : Value => v) (fun key kl hk => by obtain ⟨x, rfl, _⟩ := Maps.keyOf_int_inv Try.underlying32 hk; exact ⟨x, rfl⟩) (fun v y _ => ⟨v, rfl⟩) mb w.heap.size n _ _ _ rfl hrg (fun h0 _ => absurd h0 (by decide)) ?_
         rintro x v kl y w1 cnt1 hk hl hv hat hrg1 hlt hg1 hs1 hen
         obtain ⟨x', ex, ekl, _⟩ := Maps.keyOf_int_inv Try.underlying32 hk
         injection ex with _ ex
         have h2 := one_has hl
         rw [ekl] at h2
         injection h2 with _ h2
         rw [h2] at ex
         subst ex
         rw [h2] at ekl
         subst ekl
         have f1 : Fr (fun _ => False) w w1 := fr.grown hg1 (fun k e hk => by injection e with e; omega)
         have hlt0 := hrg1.lt
         have HRG1 := Lib.hid hrg1
         have HRG := Lib.hid hrg
         have HLT := Lib.hid hlt
         have HF1 := Lib.hid f1
         clear hk hl hv hat hrg1 hrg hlt hg1 hs1 hrel fr f1 rg0 g0 s0)
      | (refine wpList_app rfl (.tmp 21) (.tmp 23) _ _ rfl (w.heap.size + 1) 32 i0 _ 1 8 Try.underlying72 hi hz0 hz1 hz2 rfl _ 0 [] rfl (World.ownsRow_nil _ _ _ _) _ 1 [.int .u64 2] rfl (src_blk Try.underlying72 1 (Blk.new w1 32 #[.int .u64 2]) rfl (by intro u hu; simp at hu; subst hu; rfl)) (by omega) (by unfold maxLen; omega) (by rw [World.size_alloc]; omega) ?_
         intro v1 w2 own1 hf1 hn1
         have HV1 := Lib.hid own1
         have HG1 := Lib.hid (gb_of hf1)
         have HFW := Lib.hid (fr_nil hf1)
         clear own1 hf1 hn1))
      have hrg2 := (HRG1.out.alloc _).kept HG1.out (by simp) (by simp)
      go_roundw
      case rel => exact ⟨((HF1.out.alloc _).trans HFW.out (fun _ _ h => h)), .inr ⟨_, cnt1, hrg2, fun kl => one_done _ kl, by simpa using HV1.out⟩⟩
      case measure => rw [hrg2.left_eq, HRG.out.left_eq]; exact HLT.out
    · go_wp2_with (at_next
                   refine wpList_next_ranges _ rfl _ rfl 32 K64 RH (Value.int .u64) (fun v : Value => v) (fun key kl hk => by obtain ⟨x, rfl, _⟩ := Maps.keyOf_int_inv Try.underlying32 hk; exact ⟨x, rfl⟩) (fun v y _ => ⟨v, rfl⟩) mb w.heap.size n _ _ _ rfl hrg ?_ (fun x v kl y w1 cnt1 hk hl => by rw [hall kl] at hl; cases hl)
                   rintro _ _
                   obtain ⟨A3, c3, rfl, h31, h32⟩ := own_slice own
                   have rd := Rd.of_own own
                   obtain ⟨b3, o3, rfl, hc3⟩ := rd.lit (by decide)
                   have HC3 := Lib.hid rd
                   have HO3 : Hid (MapI wr mb n (one (.agg #[.int .i64 f, .int .i64 t, .slice A m c]))) := hrg.owns
                   have HF3 := Lib.hid fr
                   clear hrel own rd hc3 hrg fr hall rg0 g0 s0)
      refine (sort_one _ _ _).mono ?_
      rintro e w2 ⟨rfl, hw⟩
      rw [hw]
      clear hw w2
      go_wp2_with fail
      rename World => w5
      go_loopw [5, 29] (fun out k wx => Hid (L2 w w5 f t m out k wx)) (fun _ k _ => kOf k)
      case atStart => exact ⟨Fr.refl _ _, .inl ⟨rfl, rfl⟩⟩
      case round =>
        obtain ⟨fr, ⟨rfl, rfl⟩ | ⟨rfl, own⟩⟩ := hrel.out
        · have g2 : wr.cell? ⟨g, 2, none⟩ = some (.map (some mb)) := (keepB HB.out (HF3.out.trans fr (fun _ _ h => h))).cell 2
          have d0 : wr.cell? ⟨b3, o3, none⟩ = some (.int .u64 2) := (HC3.out.far fr).cell (k := 0) (by decide)
          have hl := look0_c (MapI.fr HO3.out fr (fun h => h))
          have HF5 := Lib.hid fr
          have HW : Hid (w.heap.size ≤ wr.heap.size) := Nat.le_trans HF3.out.size fr.size
          clear hrel fr
          go_wp2_with (refine wpList_app rfl (.tmp 39) (.tmp 49) _ _ rfl w.heap.size 65 i1 _ 4 32 Try.underlying57 ki kz0 kz1 kz2 rfl _ 0 [] rfl (World.ownsRow_nil _ _ _ _) _ 1 [.int .u64 2, .int .i64 f, .int .i64 t, .int .i64 (m : Nat)] rfl
                         (src_blk Try.underlying57 1 (Blk.new1 wr _ 65 #[.int .u64 2, .int .i64 f, .int .i64 t, .int .i64 (m : Nat)]) rfl (by intro u hu; simp at hu; rcases hu with rfl | rfl | rfl | rfl <;> rfl)) (by omega) (by unfold maxLen; omega) (by rw [World.size_alloc, World.size_alloc]; have := HW.out; omega) ?_
                       rintro v1 w6 own1 hf1 hn1
                       have HV1 := Lib.hid own1
                       have HFW := Lib.hid (fr_nil hf1)
                       clear own1 hf1 hn1)
          go_roundw
          case rel => exact ⟨((HF5.out.alloc _).alloc _).trans HFW.out (fun _ _ h => h), .inr ⟨rfl, by simpa using HV1.out⟩⟩
          case measure => simp [kOf]
        · have HV := Lib.hid own
          have HF5 : Hid (Fr (fun _ => False) w wr) := HF3.out.trans fr (fun _ _ h => h)
          clear hrel fr own
          go_wp2_with fail
          go_ret
          exact ⟨_, rfl, HV.out, HF5.out⟩
end Go.Proofs.Ytpgklhbbjbdejaa
