/-
  THE WALK of PushNew.
-/
import Derived.Test.YtaenibbhpidjcaaGreatDoorQAwk
import Derived.Test.YtaenibbhpidjcaaGreatDoorSame
import Derived.Lib.QuoteBits
namespace Go.Proofs.YtaenibbhpidjcaaGreatDoor
set_option linter.unusedSimpArgs false
set_option linter.unusedVariables false
open Go Go.RowKit

theorem wf_u64 {a : Int} (h : (Lit.int .u64 a).wf = true) : 0 ≤ a ∧ a < 18446744073709551616 := by
  simp [Lit.wf, IntKind.min, IntKind.max, IntKind.bits, IntKind.signed] at h
  omega
theorem wrapi (x : Int) (h0 : 0 ≤ x) (h : x < 9223372036854775808) : IntKind.i64.wrap x = x := by
  obtain ⟨n, rfl⟩ := Int.eq_ofNat_of_zero_le h0
  exact Lib.wrap_i64_small n (by omega)
theorem qv_agg (u s : List UInt8) (m : Nat) : ∃ C : Array Value, qv u s m = .agg C ∧ C.size = 14 ∧ C.all (·.oneCell') = true := ⟨_, rfl, rfl, by kernel_rfl⟩
theorem qnew_form (u s : List UInt8) (m : Nat) : ∃ (u' s' : List UInt8) (m' : Nat) (e : Int), qnew u s m = .tuple #[qv u' s' m', .int .i64 e] := by
  unfold qnew
  by_cases h : okS u s m = true
  · rw [if_pos h]; exact ⟨u, s, m, 0, rfl⟩
  · rw [if_neg h]; exact ⟨[], [], 0, 1, rfl⟩
theorem tPushing_size' : (Tryz.prog.info? 34).map (·.size) = some 14 := by kernel_rfl
set_option maxRecDepth 100000 in
set_option maxHeartbeats 2000000 in
theorem pushNew_c (w : World) (u s : List UInt8) (m : Nat) (hu : u.length ≤ 140737488355328) (hs : s.length ≤ 140737488355328) (hm : m < 18446744073709551616) :
    Calls Tryz.prog 4 #[.string (strOf u), .string (strOf s), .int .u64 (m : Nat)] w fun e w' => e = .returned (.bool true) ∧ Fr (fun _ => False) w w' := by
  have zu := strOf_size u
  have zs := strOf_size s
  obtain ⟨a, ha⟩ : ∃ a, u.length = a := ⟨_, rfl⟩
  obtain ⟨b, hb⟩ : ∃ b, s.length = b := ⟨_, rfl⟩
  have h1 := fun W => qNew_c W u s m hu hs hm
  have h2 := fun W => sNew_c W u s m hu hs hm
  obtain ⟨u', s', m', e0, hf⟩ := qnew_form u s m
  rw [hf] at h1 h2
  have h3 := fun W => sSame_c W u' s' m'
  obtain ⟨C, hC, hsz, hone⟩ := qv_agg u' s' m'
  simp only [hC] at h1 h2 h3
  have H1 := Lib.hid h1
  have H2 := Lib.hid h2
  have H3 := Lib.hid h3
  have HSZ := Lib.hid hsz
  have HON := Lib.hid hone
  have HTY : Hid ((Tryz.prog.info? 34).map (·.size) = some C.size) := by show _ = _; rw [hsz]; exact tPushing_size'
  rw [ha] at zu hu
  rw [hb] at zs hs
  clear h1 h2 h3 hf hC hsz hone ha hb
  have hw : IntKind.i64.wrap ((a : Int) + (b : Int)) = (a : Int) + (b : Int) := wrapi _ (by omega) (by omega)
  go_enter Tryz.func4, Tryz.ntmps4
  by_cases hlong : 600 < (a : Int) + (b : Int)
  · have d1 : decide (600 < (a : Int) + (b : Int)) = true := decide_eq_true hlong
    go_wp2_with fail
    refine (awake24_c w).mono ?_
    rintro e w1 ⟨rfl, f1⟩
    have F1 := Lib.hid f1
    clear f1
    go_wp2_with fail
    go_ret
    exact ⟨rfl, F1.out⟩
  · have d1 : decide (600 < (a : Int) + (b : Int)) = false := decide_eq_false hlong
    go_wp2_with fail
    refine (H1.out w).mono ?_
    rintro e w1 ⟨rfl, f1⟩
    have F1 := Lib.hid f1
    clear f1 d1
    go_wp2_with (refine wpList_store_blk rfl 34 _ _ rfl w1.heap.size C rfl rfl (Blk.new w1 _ _) HSZ.out HTY.out HON.out ?_
                 rintro w2 b f
                 have B2 := Lib.hid b
                 have F2 : Hid (Fr (fun _ => False) w w2) := (F1.out.alloc _).trans f (fun k hk e => by have e' : k = w1.heap.size := e; have := F1.out.size; omega)
                 clear b f F1)
    obtain ⟨pb, hpb⟩ : ∃ a, w1.heap.size = a := ⟨_, rfl⟩
    rw [hpb] at B2 ⊢
    clear hpb
    refine (H2.out w2).mono ?_
    rintro e w3 ⟨rfl, f3⟩
    have B3 := Lib.hid (keepB B2.out f3)
    have F3 : Hid (Fr (fun _ => False) w w3) := F2.out.trans f3 (fun _ _ h => h)
    clear f3 B2 F2
    have heq : ((e0 : Int) == e0) = true := by simp
    go_wp2_with (first
      | (refine wpList_store_blk rfl 34 _ _ rfl w3.heap.size C rfl rfl (Blk.new w3 _ _) HSZ.out HTY.out HON.out ?_
         rintro w4 b f
         have Q4 := Lib.hid b
         have B4 := Lib.hid ((B3.out.alloc _).fr f (by have := B3.out.lt; omega))
         have F4 : Hid (Fr (fun _ => False) w w4) := (F3.out.alloc _).trans f (fun k hk e => by have e' : k = w3.heap.size := e; have := F3.out.size; omega)
         clear b f F3 B3)
      | (refine wpList_load_all rfl 34 _ rfl pb rfl B4.out _ Tryz.underlying34 rfl HTY.out ?_)
      | (refine wpList_load_all rfl 34 _ rfl w3.heap.size rfl Q4.out _ Tryz.underlying34 rfl HTY.out ?_))
    refine (H3.out w4).mono ?_
    rintro e w5 ⟨rfl, f5⟩
    have F5 : Hid (Fr (fun _ => False) w w5) := F4.out.trans f5 (fun _ _ h => h)
    clear f5 B4 Q4 F4
    go_wp2_with fail
    refine (awake24_c w5).mono ?_
    rintro e w6 ⟨rfl, f6⟩
    have F6 : Hid (Fr (fun _ => False) w w6) := F5.out.trans f6 (fun _ _ h => h)
    clear f6 F5
    go_wp2_with fail
    go_ret
    exact ⟨rfl, F6.out⟩
end Go.Proofs.YtaenibbhpidjcaaGreatDoor
