/-
  The calls of 'awake', each at its place.
-/
import Derived.Test.YtpgklhbbjbdejaaSend
import Derived.Test.YtpgklhbbjbdejaaDel
import Derived.Test.YtpgklhbbjbdejaaLet
namespace Go.Proofs.Ytpgklhbbjbdejaa
set_option linter.unusedSimpArgs false
set_option linter.unusedVariables false
open Go Go.RowKit Go.Maps

abbrev lk0 : Nat → Int := fun _ => 0
abbrev lk1 : Nat → Int := upd lk0 7 1
abbrev lk2 : Nat → Int := upd lk1 11 1
abbrev lk3 : Nat → Int := upd lk2 7 2
abbrev lk4 : Nat → Int := upd lk3 7 1
abbrev lk5 : Nat → Int := upd lk4 7 0
abbrev mA (v : Value) : Value := .agg #[.int .i64 1, .int .i64 2, v]
abbrev mB (v : Value) : Value := .agg #[.int .i64 2, .int .i64 1, v]
abbrev D1 (a : Value) : DataW Value := .map [(.int .u64 1, .held (mA a))]
abbrev D2 (a b : Value) : DataW Value := .map [(.int .u64 1, .held (mA a)), (.int .u64 2, .held (mB b))]
abbrev D3 (a b c : Value) : DataW Value := .map [(.int .u64 1, .held (mA a)), (.int .u64 2, .held (mB b)), (.int .u64 3, .held (mA c))]
abbrev Gm (g mb : Nat) : Nat → Prop := fun k => k = g ∨ k = mb
theorem put1 (a : Value) : (DataW.map []).put (.int .u64 1) (.held (mA a)) = D1 a := by kernel_rfl
theorem put2 (a b : Value) : (D1 a).put (.int .u64 2) (.held (mB b)) = D2 a b := by kernel_rfl
theorem put3 (a b c : Value) : (D2 a b).put (.int .u64 3) (.held (mA c)) = D3 a b c := by kernel_rfl
theorem del3 (a b c : Value) : (D3 a b c).del (.int .u64 3) = D2 a b := by kernel_rfl
theorem del1 (a b : Value) : (D2 a b).del (.int .u64 1) = one (mB b) := by kernel_rfl
theorem at1 (a b : Value) : (D2 a b).atKey (.int .u64 1) (.held zM) = .held (mA a) := by kernel_rfl
theorem at3 (a b c : Value) : (D3 a b c).atKey (.int .u64 3) (.held zM) = .held (mA c) := by kernel_rfl
theorem at0 (b : Value) : (one (mB b)).atKey (.int .u64 1) (.held zM) = .held zM := by kernel_rfl
theorem has1 (a b : Value) : Maps.has (D2 a b) (.int .u64 1) = true := by kernel_rfl
theorem has3 (a b c : Value) : Maps.has (D3 a b c) (.int .u64 3) = true := by kernel_rfl
theorem has0 (b : Value) : Maps.has (one (mB b)) (.int .u64 1) = false := by kernel_rfl

theorem s1 (x : World) (g mb : Nat) (A : Option Addr) (c : Nat) (bs : List UInt8) (hB : Blk x g 46 (netC 3 (0 : Nat) (some mb) lk0)) (hO : MapI x mb 0 (.map [])) (hr : Rd x A 1 (bv bs)) :
    Calls Try.prog 15 #[.pointer (some ⟨g, 0, none⟩), .int .i64 1, .int .i64 2, .slice A 1 c] x fun e w' => e = .returned (.tuple #[.int .u64 1, .int .i64 0]) ∧ ∃ v, w'.ownsRow x.heap.size 5 1 v 1 (bv bs) ∧
      Blk w' g 46 (netC 3 (1 : Nat) (some mb) lk1) ∧ MapI w' mb 1 (D1 v) ∧ Fr (Gm g mb) x w' := by
  refine (send_c x g mb 0 0 lk0 (.map []) 1 2 A 1 c bs hB hO hr (by decide) (by decide) (by decide) (by decide) (by decide) (by decide) (by decide) (by unfold maxLen; decide)).mono ?_
  rintro e w' ⟨h0, v, h1, h2, h3, h4⟩
  refine ⟨h0, v, h1, h2, ?_, h4⟩
  rw [← put1]
  exact h3
theorem s2 (x : World) (g mb : Nat) (a : Value) (A : Option Addr) (c : Nat) (bs : List UInt8) (hB : Blk x g 46 (netC 3 (1 : Nat) (some mb) lk1)) (hO : MapI x mb 1 (D1 a)) (hr : Rd x A 1 (bv bs)) :
    Calls Try.prog 15 #[.pointer (some ⟨g, 0, none⟩), .int .i64 2, .int .i64 1, .slice A 1 c] x fun e w' => e = .returned (.tuple #[.int .u64 2, .int .i64 0]) ∧ ∃ v, w'.ownsRow x.heap.size 5 1 v 1 (bv bs) ∧
      Blk w' g 46 (netC 3 (2 : Nat) (some mb) lk2) ∧ MapI w' mb 2 (D2 a v) ∧ Fr (Gm g mb) x w' := by
  refine (send_c x g mb 1 1 lk1 (D1 a) 2 1 A 1 c bs hB hO hr (by decide) (by decide) (by decide) (by decide) (by decide) (by decide) (by decide) (by unfold maxLen; decide)).mono ?_
  rintro e w' ⟨h0, v, h1, h2, h3, h4⟩
  refine ⟨h0, v, h1, h2, ?_, h4⟩
  rw [← put2]
  exact h3
theorem s3 (x : World) (g mb : Nat) (b : Value) (A : Option Addr) (c : Nat) (bs : List UInt8) (hB : Blk x g 46 (netC 3 (2 : Nat) (some mb) lk2)) (hO : MapI x mb 2 (D2 (.slice A 1 c) b)) (hr : Rd x A 1 (bv bs)) :
    Calls Try.prog 17 #[.pointer (some ⟨g, 0, none⟩), .int .u64 1] x fun e w' => e = .returned (.tuple #[.int .u64 3, .int .i64 0]) ∧ ∃ v, w'.ownsRow x.heap.size 5 1 v 1 (bv bs) ∧
      Blk w' g 46 (netC 3 (3 : Nat) (some mb) lk3) ∧ MapI w' mb 3 (D3 (.slice A 1 c) b v) ∧ Fr (Gm g mb) x w' := by
  refine (double_yes x g mb 2 3 2 lk2 (D2 (.slice A 1 c) b) 1 1 2 A 1 c bs hB hO (by decide) (at1 _ _) (has1 _ _) hr (by decide) (by decide) (by decide) (by decide) (by decide) (by decide) (by unfold maxLen; decide)).mono ?_
  rintro e w' ⟨h0, v, h1, h2, h3, h4⟩
  refine ⟨h0, v, h1, h2, ?_, h4⟩
  rw [← put3]
  exact h3
theorem s4 (x : World) (g mb : Nat) (a b : Value) (A : Option Addr) (c : Nat) (bs : List UInt8) (hB : Blk x g 46 (netC 3 (3 : Nat) (some mb) lk3)) (hO : MapI x mb 3 (D3 a b (.slice A 1 c))) (hr : Rd x A 1 (bv bs)) :
    Calls Try.prog 16 #[.pointer (some ⟨g, 0, none⟩), .int .u64 3] x fun e w' => ∃ v, e = .returned (.tuple #[mA v, .int .i64 0]) ∧ w'.ownsRow x.heap.size 5 1 v 1 (bv bs) ∧
      Blk w' g 46 (netC 3 (3 : Nat) (some mb) lk4) ∧ MapI w' mb 3 (D2 a b) ∧ Fr (Gm g mb) x w' := by
  refine (deliver_yes x g mb 3 3 (3 : Nat) lk3 (D3 a b (.slice A 1 c)) 3 1 2 A 1 c bs hB hO (by decide) (at3 _ _ _) (has3 _ _ _) hr (by decide) (by decide) (by decide) (by decide) (by decide)).mono ?_
  rintro e w' ⟨v, h0, h1, h2, h3, h4⟩
  refine ⟨v, h0, h1, h2, ?_, h4⟩
  rw [← del3]
  exact h3
theorem s5 (x : World) (g mb : Nat) (b : Value) (A : Option Addr) (c : Nat) (bs : List UInt8) (hB : Blk x g 46 (netC 3 (3 : Nat) (some mb) lk4)) (hO : MapI x mb 3 (D2 (.slice A 1 c) b)) (hr : Rd x A 1 (bv bs)) :
    Calls Try.prog 16 #[.pointer (some ⟨g, 0, none⟩), .int .u64 1] x fun e w' => ∃ v, e = .returned (.tuple #[mA v, .int .i64 0]) ∧ w'.ownsRow x.heap.size 5 1 v 1 (bv bs) ∧
      Blk w' g 46 (netC 3 (3 : Nat) (some mb) lk5) ∧ MapI w' mb 3 (one (mB b)) ∧ Fr (Gm g mb) x w' := by
  refine (deliver_yes x g mb 3 3 (3 : Nat) lk4 (D2 (.slice A 1 c) b) 1 1 2 A 1 c bs hB hO (by decide) (at1 _ _) (has1 _ _) hr (by decide) (by decide) (by decide) (by decide) (by decide)).mono ?_
  rintro e w' ⟨v, h0, h1, h2, h3, h4⟩
  refine ⟨v, h0, h1, h2, ?_, h4⟩
  rw [← del1]
  exact h3

set_option maxRecDepth 100000 in
set_option maxHeartbeats 1000000 in
theorem deliver_of (w : World) (x id : Value)
    (hf : ∀ W, Fr (fun _ => False) w W → Calls Try.prog 18 #[x, id] W fun e w' => ∃ A n c, e = .returned (.tuple #[.agg #[.int .i64 0, .int .i64 0, .slice A n c], .int .i64 4]) ∧ Fr (fun _ => False) W w') :
    Calls Try.prog 16 #[x, id] w fun e w' => e = .returned (.tuple #[.agg #[.int .i64 0, .int .i64 0, .slice none 0 0], .int .i64 4]) ∧ Fr (fun _ => False) w w' := by
  have HF := Lib.hid hf
  clear hf
  go_enter Try.func16, Try.ntmps16
  go_wp2_with fail
  refine (HF.out _ ((Fr.refl _ w).alloc _)).mono ?_
  rintro e w1 ⟨A9, n9, c9, rfl, f1⟩
  have Z1 := Lib.hid (keepB (Blk.new w 51 #[.int .i64 0, .int .i64 0, .slice none 0 0]) f1)
  have F1 : Hid (Fr (fun _ => False) w w1) := ((Fr.refl _ w).alloc _).trans f1 (fun _ _ h => h)
  clear f1
  go_wp2_with (refine wpList_store_blk rfl 51 _ _ rfl w.heap.size _ rfl rfl (Z1.out.alloc _) rfl tMsg_size (by first | rfl | kernel_rfl) ?_
               rintro W b f
               have BW := Lib.hid b
               have FW : Hid (Fr (fun _ => False) w W) := (F1.out.alloc _).trans f (fun k hk e => by have e' : k = w.heap.size := e; omega)
               clear b f)
  exact bodyPost_ret (results_two Try.results16 _ W w.heap.size 51 _ _ rfl BW.out Try.underlying51 rfl tMsg_size) rfl ⟨rfl, FW.out⟩
theorem s6 (x : World) (g mb : Nat) (b : Value) (hB : Blk x g 46 (netC 3 (3 : Nat) (some mb) lk5)) (hO : MapI x mb 3 (one (mB b))) :
    Calls Try.prog 16 #[.pointer (some ⟨g, 0, none⟩), .int .u64 1] x fun e w' => e = .returned (.tuple #[.agg #[.int .i64 0, .int .i64 0, .slice none 0 0], .int .i64 4]) ∧ Fr (fun _ => False) x w' := by
  refine deliver_of x _ _ (fun W hW => ?_)
  refine (at_of W _ _ 0 0 4 none 0 0 [] (Rd.none_ _ _) (by decide) (fun W' hW' => find_none W' g mb 3 3 (3 : Nat) lk5 (one (mB b)) 1 (keepB (keepB hB hW) hW') (MapI.fr (MapI.fr hO hW (fun h => h)) hW' (fun h => h)) (by decide) (at0 _) (has0 _))).mono ?_
  rintro e w' ⟨v, h0, h1, h2⟩
  obtain ⟨A9, c9, rfl, _, _⟩ := own_slice h1
  exact ⟨A9, 0, c9, h0, h2⟩
theorem s8 (x : World) (g mb : Nat) (b : Value) (hB : Blk x g 46 (netC 3 (3 : Nat) (some mb) lk5)) (hO : MapI x mb 3 (one (mB b))) :
    Calls Try.prog 15 #[.pointer (some ⟨g, 0, none⟩), .int .i64 3, .int .i64 1, .slice none 0 0] x fun e w' => e = .returned (.tuple #[.int .u64 4, .int .i64 0]) ∧
      (∃ lk, Blk w' g 46 (netC 3 (4 : Nat) (some mb) lk)) ∧ Fr (Gm g mb) x w' := by
  refine (send_c x g mb 3 3 lk5 (one (mB b)) 3 1 none 0 0 [] hB hO (Rd.none_ _ _) (by decide) (by decide) (by decide) (by decide) (by decide) (by decide) (by decide) (by unfold maxLen; decide)).mono ?_
  rintro e w' ⟨h0, v, h1, h2, h3, h4⟩
  exact ⟨h0, ⟨_, h2⟩, h4⟩
end Go.Proofs.Ytpgklhbbjbdejaa
