/-
  CONTRACTS: 'read' of the laws of layer 2, of a Reader in whatever state.
-/
import Derived.Test.YtokhebplmldfkaaItem
import Derived.Deep.RegionWith
import Derived.Test.YtokhebplmldfkaaCodeQ
namespace Go.Proofs.Ytokhebplmldfkaa
set_option linter.unusedSimpArgs false
set_option linter.unusedVariables false
open Go Go.RowKit

/-- What reading an item gives: a number, or a text, and how many bytes it has. -/
def rdItem (t : It) (m : List UInt8) : Option ((Nat × List UInt8) × Nat) :=
  if t.kind % 5 = 0 then (rdFix 1 m).map fun x => ((x.1, []), x.2)
  else if t.kind % 5 = 1 then (rdFix 4 m).map fun x => ((x.1, []), x.2)
  else if t.kind % 5 = 2 then (rdNum m).map fun x => ((x.1, []), x.2)
  else if t.kind % 5 = 3 then (rdText t.most m).map fun x => ((0, x.1), x.2)
  else (rdRaw t.most m).map fun x => ((0, x.1), x.2)

/-- What 'read' leaves. -/
def ReadOut (rd : Option ((Nat × List UInt8) × Nat)) (w : World) (b : Nat) (v : Value) (l : List UInt8) (p : Nat) (e : Ending) (w' : World) : Prop :=
  Fr (fun k => k = b) w w' ∧ ((∃ x s n, rd = some ((x, s), n) ∧ e = .returned (.tuple #[.int .u64 (x : Int), .string (strOf s)]) ∧ Rr w' b v l (p + n) false) ∨
    (rd = none ∧ e = .returned (.tuple #[.int .u64 0, .string ⟨#[]⟩]) ∧ Rr w' b v l p true))
theorem strOf_nil : strOf [] = ⟨#[]⟩ := rfl
theorem rdFix_le {k : Nat} {m : List UInt8} {x n : Nat} (h : rdFix k m = some (x, n)) : x < 256 ^ k := by
  unfold rdFix at h
  split at h
  · injection h with h
    injection h with h1 h2
    subst h1
    exact Nat.lt_of_lt_of_le (num_lt _) (pow256_mono (by rw [List.length_take]; omega))
  · cases h

/-- What Raw leaves, its bytes as they read. -/
theorem rraw_rd (w : World) (b : Nat) (v : Value) (l : List UInt8) (p : Nat) (k : Int) (hm0 : -9223372036854775808 ≤ k) (hm1 : k ≤ 9223372036854775807) (h : Rr w b v l p false) :
    Calls Try.prog 43 #[.pointer (some ⟨b, 0, none⟩), .int .i64 k] w fun e w' => ∃ A n c x, e = .returned (.slice A n c) ∧ Rd w' A n (bv x) ∧ Fr (fun k => k = b) w w' ∧
      ((∃ n, rdRaw k (l.drop p) = some (x, n) ∧ Rr w' b v l (p + n) false) ∨ (rdRaw k (l.drop p) = none ∧ x = [] ∧ Rr w' b v l p true)) := by
  refine (rraw_c w b v l p k hm0 hm1 h).mono ?_
  rintro e w' ⟨f1, ⟨x, n, hr, h1, A, c, rfl, ho⟩ | ⟨hr, rfl, h1⟩⟩
  · exact ⟨A, _, c, x, rfl, Rd.of_own ho, f1, .inl ⟨n, hr, h1⟩⟩
  · exact ⟨none, 0, 0, [], rfl, Rd.none_ _ _, f1, .inr ⟨hr, rfl, h1⟩⟩

set_option maxHeartbeats 2000000 in
theorem read_c (w : World) (b : Nat) (v : Value) (l : List UInt8) (p : Nat) (t : It) (ht : t.Ok) (h : Rr w b v l p false) :
    Calls Try.prog 19 #[.pointer (some ⟨b, 0, none⟩), t.val] w (ReadOut (rdItem t (l.drop p)) w b v l p) := by
  obtain ⟨k, m, x, s⟩ := t
  have hk : k % 5 = 0 ∨ k % 5 = 1 ∨ k % 5 = 2 ∨ k % 5 = 3 ∨ k % 5 = 4 := by omega
  have m0 := ht.m0
  have m1 := ht.m1
  simp only at m0 m1
  have HT := Lib.hid ht
  have H := Lib.hid h
  have hb := h.1.lt
  clear ht h
  have kc : ∀ W, Calls Try.prog 25 #[.agg #[.int .i64 k, .int .i64 m, .int .u64 (x : Int), .string s]] W fun e w' => e = .returned (.int .i64 (k % 5)) ∧ Fr (fun _ => False) W w' := fun W => kind_c W ⟨k, m, x, s⟩ HT.out
  have KC := Lib.hid kc
  clear kc
  unfold It.val rdItem
  simp only
  rcases hk with hk | hk | hk | hk | hk
  · have HK := Lib.hid hk
    rw [if_pos hk]
    clear hk
    go_enter Try.func19, Try.ntmps19
    go_wp2_with fail
    refine (KC.out _).mono ?_
    rintro e w1 ⟨rfl, f1⟩
    rw [HK.out]
    have F1 := Lib.hid (((Fr.refl (fun _ => False) w).alloc (.cells #[.int .i64 k, .int .i64 m, .int .u64 (x : Int), .string s] 31)).trans f1 (fun _ _ h => h))
    clear f1
    go_wp2_with fail
    refine (ru8_c w1 b v l p (H.out.fr F1.out (fun h => h) (fun _ _ h => h))).mono ?_
    rintro e w2 ⟨f2, h2⟩
    have FF := Lib.hid ((F1.out.mono (fun _ _ h => h.elim)).trans f2 (fun _ _ h => h) : Fr (fun k => k = b) w w2)
    clear f2
    rcases h2 with ⟨y, n, hr, rfl, h2⟩ | ⟨hr, rfl, h2⟩
    · have H2 := Lib.hid h2
      have HR := Lib.hid hr
      have hy := rdFix_le hr
      clear h2 hr
      go_wp2_with fail
      go_ret2
      exact ⟨FF.out, .inl ⟨y, [], n, by rw [HR.out]; rfl, rfl, H2.out⟩⟩
    · have H2 := Lib.hid h2
      have HR := Lib.hid hr
      clear h2 hr
      go_wp2_with fail
      go_ret2
      exact ⟨FF.out, .inr ⟨by rw [HR.out]; rfl, rfl, H2.out⟩⟩
  · have HK := Lib.hid hk
    rw [if_neg (by omega), if_pos hk]
    clear hk
    go_enter Try.func19, Try.ntmps19
    go_wp2_with fail
    refine (KC.out _).mono ?_
    rintro e w1 ⟨rfl, f1⟩
    rw [HK.out]
    have F1 := Lib.hid (((Fr.refl (fun _ => False) w).alloc (.cells #[.int .i64 k, .int .i64 m, .int .u64 (x : Int), .string s] 31)).trans f1 (fun _ _ h => h))
    clear f1
    go_wp2_with fail
    refine (ru32_c w1 b v l p (H.out.fr F1.out (fun h => h) (fun _ _ h => h))).mono ?_
    rintro e w2 ⟨f2, h2⟩
    have FF := Lib.hid ((F1.out.mono (fun _ _ h => h.elim)).trans f2 (fun _ _ h => h) : Fr (fun k => k = b) w w2)
    clear f2
    rcases h2 with ⟨y, n, hr, rfl, h2⟩ | ⟨hr, rfl, h2⟩
    · have H2 := Lib.hid h2
      have HR := Lib.hid hr
      have hy := rdFix_le hr
      clear h2 hr
      go_wp2_with fail
      go_ret2
      exact ⟨FF.out, .inl ⟨y, [], n, by rw [HR.out]; rfl, rfl, H2.out⟩⟩
    · have H2 := Lib.hid h2
      have HR := Lib.hid hr
      clear h2 hr
      go_wp2_with fail
      go_ret2
      exact ⟨FF.out, .inr ⟨by rw [HR.out]; rfl, rfl, H2.out⟩⟩
  · have HK := Lib.hid hk
    rw [if_neg (by omega), if_neg (by omega), if_pos hk]
    clear hk
    go_enter Try.func19, Try.ntmps19
    go_wp2_with fail
    refine (KC.out _).mono ?_
    rintro e w1 ⟨rfl, f1⟩
    rw [HK.out]
    have F1 := Lib.hid (((Fr.refl (fun _ => False) w).alloc (.cells #[.int .i64 k, .int .i64 m, .int .u64 (x : Int), .string s] 31)).trans f1 (fun _ _ h => h))
    clear f1
    go_wp2_with fail
    refine (ruint_c w1 b v l p (H.out.fr F1.out (fun h => h) (fun _ _ h => h))).mono ?_
    rintro e w2 ⟨f2, h2⟩
    have FF := Lib.hid ((F1.out.mono (fun _ _ h => h.elim)).trans f2 (fun _ _ h => h) : Fr (fun k => k = b) w w2)
    clear f2
    rcases h2 with ⟨y, n, hr, rfl, h2⟩ | ⟨hr, rfl, h2⟩
    · have H2 := Lib.hid h2
      have HR := Lib.hid hr
      have hy := (rdNum_some hr).2.2.2
      clear h2 hr
      go_wp2_with fail
      go_ret2
      exact ⟨FF.out, .inl ⟨y, [], n, by rw [HR.out]; rfl, rfl, H2.out⟩⟩
    · have H2 := Lib.hid h2
      have HR := Lib.hid hr
      clear h2 hr
      go_wp2_with fail
      go_ret2
      exact ⟨FF.out, .inr ⟨by rw [HR.out]; rfl, rfl, H2.out⟩⟩
  · have HK := Lib.hid hk
    rw [if_neg (by omega), if_neg (by omega), if_neg (by omega), if_pos hk]
    clear hk
    go_enter Try.func19, Try.ntmps19
    go_wp2_with fail
    refine (KC.out _).mono ?_
    rintro e w1 ⟨rfl, f1⟩
    rw [HK.out]
    have c1 := ((Blk.new w 31 #[.int .i64 k, .int .i64 m, .int .u64 (x : Int), .string s]).fr f1 (fun h => h)).cell 1
    have F1 := Lib.hid (((Fr.refl (fun _ => False) w).alloc (.cells #[.int .i64 k, .int .i64 m, .int .u64 (x : Int), .string s] 31)).trans f1 (fun _ _ h => h))
    clear f1
    go_wp2_with fail
    refine (rtext_c w1 b v l p m m0 m1 (H.out.fr F1.out (fun h => h) (fun _ _ h => h))).mono ?_
    rintro e w2 ⟨f2, h2⟩
    have FF := Lib.hid ((F1.out.mono (fun _ _ h => h.elim)).trans f2 (fun _ _ h => h) : Fr (fun k => k = b) w w2)
    clear f2
    rcases h2 with ⟨y, n, hr, rfl, h2⟩ | ⟨hr, rfl, h2⟩
    · have H2 := Lib.hid h2
      have HR := Lib.hid hr
      clear h2 hr
      go_wp2_with fail
      go_ret2
      exact ⟨FF.out, .inl ⟨0, y, n, by rw [HR.out]; rfl, rfl, H2.out⟩⟩
    · have H2 := Lib.hid h2
      have HR := Lib.hid hr
      clear h2 hr
      go_wp2_with fail
      go_ret2
      exact ⟨FF.out, .inr ⟨by rw [HR.out]; rfl, rfl, H2.out⟩⟩
  · have HK := Lib.hid hk
    rw [if_neg (by omega), if_neg (by omega), if_neg (by omega), if_neg (by omega)]
    clear hk
    go_enter Try.func19, Try.ntmps19
    go_wp2_with fail
    refine (KC.out _).mono ?_
    rintro e w1 ⟨rfl, f1⟩
    rw [HK.out]
    have c1 := ((Blk.new w 31 #[.int .i64 k, .int .i64 m, .int .u64 (x : Int), .string s]).fr f1 (fun h => h)).cell 1
    have F1 := Lib.hid (((Fr.refl (fun _ => False) w).alloc (.cells #[.int .i64 k, .int .i64 m, .int .u64 (x : Int), .string s] 31)).trans f1 (fun _ _ h => h))
    clear f1
    go_wp2_with fail
    have R1 := Lib.hid (H.out.fr F1.out (fun h => h) (fun _ _ h => h))
    go_region_with (first | (go_at_call 43; refine (rraw_rd _ b v l p m m0 m1 (R1.out.fr ((Fr.refl (fun _ => False) w1).drew) (fun h => h) (fun _ _ h => h))).mono ?_; rintro e w2 ⟨A2, n2, c2, x2, rfl, r2, f2, h2⟩; have hcv := conv_str w2 A2 n2 c2 x2 r2; have H2 := Lib.hid h2; have F2 := Lib.hid f2; clear h2 f2 r2))
    all_goals
      go_wp2_with fail
      go_ret2
      refine ⟨((F1.out.mono (fun _ _ h => h.elim)).drew).trans F2.out (fun _ _ h => h), ?_⟩
      rcases H2.out with ⟨n, hr, h2⟩ | ⟨hr, hx, h2⟩
      · exact .inl ⟨0, x2, n, by rw [hr]; rfl, rfl, h2⟩
      · subst hx
        exact .inr ⟨by rw [hr]; rfl, rfl, h2⟩

set_option maxHeartbeats 2000000 in
/-- Of a Reader that is nil, or has failed. -/
theorem read_bad (w : World) (po : Option Addr) (t : It) (ht : t.Ok) (herr : ∀ W, Fr (fun _ => False) w W → Calls Try.prog 22 #[.pointer po] W fun e w' => e = .returned (.int .i64 2) ∧ W = w') :
    Calls Try.prog 19 #[.pointer po, t.val] w fun e w' => e = .returned (.tuple #[.int .u64 0, .string ⟨#[]⟩]) ∧ Fr (fun _ => False) w w' := by
  obtain ⟨k, m, x, s⟩ := t
  have hk : k % 5 = 0 ∨ k % 5 = 1 ∨ k % 5 = 2 ∨ k % 5 = 3 ∨ k % 5 = 4 := by omega
  have HT := Lib.hid ht
  have HE := Lib.hid herr
  clear ht herr
  have kc : ∀ W, Calls Try.prog 25 #[.agg #[.int .i64 k, .int .i64 m, .int .u64 (x : Int), .string s]] W fun e w' => e = .returned (.int .i64 (k % 5)) ∧ Fr (fun _ => False) W w' := fun W => kind_c W ⟨k, m, x, s⟩ HT.out
  have KC := Lib.hid kc
  clear kc
  unfold It.val
  simp only
  rcases hk with hk | hk | hk | hk | hk
  · have HK := Lib.hid hk
    clear hk
    go_enter Try.func19, Try.ntmps19
    go_wp2_with fail
    refine (KC.out _).mono ?_
    rintro e w1 ⟨rfl, f1⟩
    rw [HK.out]
    have c1 := ((Blk.new w 31 #[.int .i64 k, .int .i64 m, .int .u64 (x : Int), .string s]).fr f1 (fun h => h)).cell 1
    have F1 := Lib.hid (((Fr.refl (fun _ => False) w).alloc (.cells #[.int .i64 k, .int .i64 m, .int .u64 (x : Int), .string s] 31)).trans f1 (fun _ _ h => h))
    clear f1
    go_wp2_with fail
    refine (ru8_bad _ po (fun W hW => HE.out W (F1.out.trans hW (fun _ _ h => h)))).mono ?_
    rintro e w2 ⟨rfl, f2⟩
    have FF := Lib.hid (F1.out.trans f2 (fun _ _ h => h))
    clear f2
    go_wp2_with fail
    go_ret2
    exact ⟨rfl, FF.out⟩
  · have HK := Lib.hid hk
    clear hk
    go_enter Try.func19, Try.ntmps19
    go_wp2_with fail
    refine (KC.out _).mono ?_
    rintro e w1 ⟨rfl, f1⟩
    rw [HK.out]
    have c1 := ((Blk.new w 31 #[.int .i64 k, .int .i64 m, .int .u64 (x : Int), .string s]).fr f1 (fun h => h)).cell 1
    have F1 := Lib.hid (((Fr.refl (fun _ => False) w).alloc (.cells #[.int .i64 k, .int .i64 m, .int .u64 (x : Int), .string s] 31)).trans f1 (fun _ _ h => h))
    clear f1
    go_wp2_with fail
    refine (ru32_bad _ po (fun W hW => HE.out W (F1.out.trans hW (fun _ _ h => h)))).mono ?_
    rintro e w2 ⟨rfl, f2⟩
    have FF := Lib.hid (F1.out.trans f2 (fun _ _ h => h))
    clear f2
    go_wp2_with fail
    go_ret2
    exact ⟨rfl, FF.out⟩
  · have HK := Lib.hid hk
    clear hk
    go_enter Try.func19, Try.ntmps19
    go_wp2_with fail
    refine (KC.out _).mono ?_
    rintro e w1 ⟨rfl, f1⟩
    rw [HK.out]
    have c1 := ((Blk.new w 31 #[.int .i64 k, .int .i64 m, .int .u64 (x : Int), .string s]).fr f1 (fun h => h)).cell 1
    have F1 := Lib.hid (((Fr.refl (fun _ => False) w).alloc (.cells #[.int .i64 k, .int .i64 m, .int .u64 (x : Int), .string s] 31)).trans f1 (fun _ _ h => h))
    clear f1
    go_wp2_with fail
    refine (ruint_bad _ po (fun W hW => HE.out W (F1.out.trans hW (fun _ _ h => h)))).mono ?_
    rintro e w2 ⟨rfl, f2⟩
    have FF := Lib.hid (F1.out.trans f2 (fun _ _ h => h))
    clear f2
    go_wp2_with fail
    go_ret2
    exact ⟨rfl, FF.out⟩
  · have HK := Lib.hid hk
    clear hk
    go_enter Try.func19, Try.ntmps19
    go_wp2_with fail
    refine (KC.out _).mono ?_
    rintro e w1 ⟨rfl, f1⟩
    rw [HK.out]
    have c1 := ((Blk.new w 31 #[.int .i64 k, .int .i64 m, .int .u64 (x : Int), .string s]).fr f1 (fun h => h)).cell 1
    have F1 := Lib.hid (((Fr.refl (fun _ => False) w).alloc (.cells #[.int .i64 k, .int .i64 m, .int .u64 (x : Int), .string s] 31)).trans f1 (fun _ _ h => h))
    clear f1
    go_wp2_with fail
    refine (rtext_bad _ po m (fun W hW => HE.out W (F1.out.trans hW (fun _ _ h => h)))).mono ?_
    rintro e w2 ⟨rfl, f2⟩
    have FF := Lib.hid (F1.out.trans f2 (fun _ _ h => h))
    clear f2
    go_wp2_with fail
    go_ret2
    exact ⟨rfl, FF.out⟩
  · have HK := Lib.hid hk
    clear hk
    go_enter Try.func19, Try.ntmps19
    go_wp2_with fail
    refine (KC.out _).mono ?_
    rintro e w1 ⟨rfl, f1⟩
    rw [HK.out]
    have c1 := ((Blk.new w 31 #[.int .i64 k, .int .i64 m, .int .u64 (x : Int), .string s]).fr f1 (fun h => h)).cell 1
    have F1 := Lib.hid (((Fr.refl (fun _ => False) w).alloc (.cells #[.int .i64 k, .int .i64 m, .int .u64 (x : Int), .string s] 31)).trans f1 (fun _ _ h => h))
    clear f1
    go_wp2_with fail
    go_region_with (first | (go_at_call 43; refine (rraw_bad _ po m (fun W hW => HE.out W ((F1.out.drew).trans hW (fun _ _ h => h)))).mono ?_; rintro e w2 ⟨rfl, f2⟩; have hcv := conv_str w2 none 0 0 [] (Rd.none_ _ _); have F2 := Lib.hid f2; clear f2))
    all_goals
      go_wp2_with fail
      go_ret2
      exact ⟨rfl, (F1.out.drew).trans F2.out (fun _ _ h => h)⟩
end Go.Proofs.Ytokhebplmldfkaa
