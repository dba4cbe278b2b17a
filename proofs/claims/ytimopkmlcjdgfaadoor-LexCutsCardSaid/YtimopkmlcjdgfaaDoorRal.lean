/-
  CONTRACT of the reference's All: what the program's All answers.
-/
import Derived.Test.YtimopkmlcjdgfaaDoorRtb
import Derived.Test.YtimopkmlcjdgfaaDoorRg
import Derived.Test.YtimopkmlcjdgfaaDoorLjo
namespace Go.Proofs.YtimopkmlcjdgfaaDoor
set_option linter.unusedSimpArgs false
set_option linter.unusedVariables false
open Go Go.RowKit Go.Shelf

/-- Where the reference's All stands. -/
structure RaS (s : List UInt8) (w W : World) (acc : List Tk) (A : Option Addr) (c j : Nat) : Prop where
  row : W.ownsRow 0 32 4 (.slice A acc.length c) acc.length (flatT acc)
  own : ∀ q, (Value.slice A acc.length c).ownBlock = some q → w.heap.size ≤ q
  fr : Fr (fun _ => False) w W
  cnt : acc.length ≤ j
  le : j ≤ s.length
  at_ : s.drop j = skp false (s.drop j)
  all : allS s = joinR (.inl acc) (lexL s.length (s.length + 1) (s.drop j))
section
variable {s : List UInt8} {w : World} {W W1 W2 : World} {acc : List Tk} {A : Option Addr} {c j : Nat}
theorem RaS.far (h : RaS s w W acc A c j) (hf : Fr (fun _ => False) W W1) : RaS s w W1 acc A c j :=
  ⟨own_fr h.row hf (fun _ _ h => h), h.own, h.fr.trans hf (fun _ _ h => h), h.cnt, h.le, h.at_, h.all⟩
theorem RaS.add {A' : Option Addr} {c' m i : Nat} {x : Tk} (h : RaS s w W acc A c j) (h1 : 1 ≤ m) (hi : j + m ≤ i) (hi2 : i ≤ s.length) (hk : s.drop i = skp false (s.drop (j + m))) (hf : Fr (fun _ => False) W W1)
    (o : W2.ownsRow 0 32 4 (.slice A' (acc.length + 1) c') (acc.length + 1) (flatT acc ++ tkc x)) (f : Fr (fun q => (Value.slice A acc.length c).ownBlock = some q) W1 W2)
    (hn : (Value.slice A' (acc.length + 1) c').ownBlock = (Value.slice A acc.length c).ownBlock ∨ (Value.slice A' (acc.length + 1) c').ownBlock = some W1.heap.size)
    (ha : lexL s.length (s.length + 1) (s.drop j) = joinR (.inl [x]) (lexL s.length (s.length + 1) (s.drop (j + m)))) : RaS s w W2 (acc ++ [x]) A' c' i := by
  have hlen : (acc ++ [x]).length = acc.length + 1 := by simp
  have s1 := h.fr.size
  have s2 := hf.size
  refine ⟨?_, ?_, (h.fr.trans hf (fun _ _ h => h)).trans f (fun q hq e => by have := h.own q e; omega), by rw [hlen]; have := h.cnt; omega, hi2, by rw [hk, skp_idem], ?_⟩
  · rw [hlen, flatT_app]
    have e1 : flatT [x] = tkc x := by simp [flatT]
    rw [e1]
    exact o
  · rw [hlen]
    intro q hq
    rcases hn with e | e
    · exact h.own q (e ▸ hq)
    · rw [e] at hq
      injection hq with hq
      omega
  · rw [h.all, ha, join_inl, hk, lex_skp]
end
set_option maxRecDepth 100000 in
set_option maxHeartbeats 8000000 in
theorem rAll_c (w : World) (s : List UInt8) (hs : s.length ≤ 140737488355328) : Calls Tryd.prog 10 #[.string (strOf s)] w (AllQ s w) := by
  have hsz := strOf_size s
  obtain ⟨j0, hj0, jz0', jz1', jz2'⟩ := info_parts t_info
  have HJ0 := Lib.hid hj0
  clear hj0
  go_enter Tryd.func10, Tryd.ntmps10
  by_cases hbig : 4096 < s.length
  case pos =>
    have d1 : decide ((4096 : Int) < (s.length : Int)) = true := decide_eq_true (by omega)
    have d1' : decide (4096 < s.length) = true := decide_eq_true hbig
    have d2 : decide ((s.length : Int) > 4096) = true := decide_eq_true (by omega)
    go_wp2_with fail
    refine bodyPost_ret (v := .tuple #[.slice none 0 0, .int .i64 0, .int .i64 6]) ?_ rfl ?_
    · simp [results, Tryd.results10]
    unfold AllQ
    rw [if_pos hbig]
    exact ⟨Fr.refl _ _, rfl⟩
  case neg =>
  have d1 : decide ((4096 : Int) < (s.length : Int)) = false := decide_eq_false (by omega)
  have d1' : decide (4096 < s.length) = false := decide_eq_false hbig
  have d2 : decide ((s.length : Int) > 4096) = false := decide_eq_false (by omega)
  have GA := Lib.hid (rgap_c w s 0 (by omega) (Nat.zero_le _))
  go_wp2_with (
    go_at_call 21
    refine GA.out.mono ?_
    rintro e W1 ⟨j1, rfl, -, hj1, hk1, rfl⟩
    have HK1 := Lib.hid hk1
    clear hk1)
  go_loopw [5, 6] (fun ov jv W => ∃ (A : Option Addr) (c j : Nat) (acc : List Tk), j ≤ s.length ∧ ov = .slice A acc.length c ∧ jv = .int .i64 (j : Int) ∧ Hid (RaS s w W acc A c j)) (fun _ jv _ => s.length - (intOf jv).toNat)
  case atStart => exact ⟨none, 0, j1, [], hj1, rfl, rfl, World.ownsRow_nil _ _ _ _, fun q hq => by simp [Value.ownBlock] at hq, Fr.refl _ _, Nat.zero_le _, hj1, by rw [HK1.out, skp_idem], by rw [join_nil, HK1.out, lex_skp, List.drop_zero]; rfl⟩
  case round =>
    clear HK1 GA hj1
    obtain ⟨A, c, j, acc, hj, rfl, rfl, S⟩ := hrel
    by_cases hlt : j < s.length
    case neg =>
      obtain rfl : j = s.length := by omega
      have e1 : decide ((s.length : Int) < (s.length : Int)) = false := decide_eq_false (by omega)
      have e1' : decide (s.length < s.length) = false := decide_eq_false (by omega)
      have HF : Hid (allS s = .inl acc) := Lib.hid (by rw [S.out.all, List.drop_eq_nil_of_le (by omega), lex_nil]; simp [joinR])
      go_wp2_with fail
      refine bodyPost_ret (v := .tuple #[.slice A acc.length c, .int .i64 0, .int .i64 0]) ?_ rfl ?_
      · simp [results, Tryd.results10]
      unfold AllQ
      rw [if_neg hbig, HF.out]
      exact ⟨S.out.fr, A, c, rfl, S.out.row, S.out.own⟩
    case pos =>
    have e1 : decide ((j : Int) < (s.length : Int)) = true := decide_eq_true (by omega)
    have e1' : decide (j < s.length) = true := decide_eq_true hlt
    have TK := Lib.hid (rtoken_c wr s j (by omega) hlt)
    have ST := Lib.hid (fun (k n a : Int) (t : List UInt8) => (show (Tryd.prog.info? 32).map (·.size) = some (tcs k t n a).size from tsize))
    have HO := Lib.hid (fun (k n a : Int) (t : List UInt8) => (show (tcs k t n a).all (·.oneCell') = true by simp [tcs, Value.oneCell']))
    have hcn := S.out.cnt
    go_upto_region 8 with (first
      | (go_at_call 22
         refine TK.out.mono ?_
         rintro e W3 ⟨k, t, n, a, z, ok, rfl, hok1, hok2, f3⟩
         have HOK1 := Lib.hid hok1
         have HOK2 := Lib.hid hok2
         have F3 := Lib.hid f3
         clear hok1 hok2 f3)
      | (refine wpList_store_blk rfl 32 _ _ rfl W3.heap.size (tcs k t n a) rfl rfl (Blk.new W3 _ _) rfl (ST.out k n a t) (HO.out k n a t) ?_
         intro W4 q9 f9
         have F9 := Lib.hid f9
         have Q9 := Lib.hid q9
         clear q9 f9))
    obtain ⟨bx, hbx⟩ : ∃ q, W3.heap.size = q := ⟨_, rfl⟩
    rw [hbx] at Q9 F9 ⊢
    have F4 : Hid (Fr (fun _ => False) wr W4) := Lib.hid (F3.out.trans (((Fr.refl (fun _ => False) W3).alloc _).trans F9.out (fun q hq e => by omega)) (fun _ _ h => h))
    refine abs_world (fun W => Hid (RaS s w W acc A c j) ∧ Hid (Blk W bx 32 (tcs k t n a))) ⟨S.out.far F4.out, Q9.out⟩ ?_
    clear S F4 F3 Q9 F9 ST HO TK hbx
    clear W4 W3
    rintro W4 ⟨S4, BX4⟩
    cases ok with
    | false =>
      have HN : Hid (allS s = .inr j) := Lib.hid (by rw [S4.out.all, lex_at hlt S4.out.at_, HOK2.out rfl]; rfl)
      go_wp2_with fail
      refine bodyPost_ret (v := .tuple #[.slice none 0 0, .int .i64 (j : Nat), .int .i64 2]) ?_ rfl ?_
      · simp [results, Tryd.results10]
      unfold AllQ
      rw [if_neg hbig, HN.out]
      exact ⟨S4.out.fr, rfl⟩
    | true =>
    obtain ⟨m, htj, rfl, rfl⟩ := HOK1.out rfl
    have htm := tok_le htj
    dsimp only at htm
    rw [List.length_drop] at htm
    have hm1 := htm.1
    have hm2 : j + m ≤ s.length := by omega
    have HA : Hid (lexL s.length (s.length + 1) (s.drop j) = joinR (.inl [⟨k, t, n, (j : Nat)⟩]) (lexL s.length (s.length + 1) (s.drop (j + m)))) := Lib.hid (by rw [lex_at hlt S4.out.at_, htj])
    clear htj htm HOK1 HOK2
    have x0 : W4.cell? ⟨bx, 0, none⟩ = some (.int .i64 k) := BX4.out.cell 0
    have x1 : W4.cell? ⟨bx, 1, none⟩ = some (.string (strOf t)) := BX4.out.cell 1
    have x2 : W4.cell? ⟨bx, 2, none⟩ = some (.int .i64 n) := BX4.out.cell 2
    have x3 : W4.cell? ⟨bx, 3, none⟩ = some (.int .i64 (j : Nat)) := BX4.out.cell 3
    have HON := Lib.hid (show ∀ u ∈ (tcs k t n (j : Nat)).toList, u.oneCell' = true by intro u hu; simp [tcs] at hu; rcases hu with rfl | rfl | rfl | rfl <;> rfl)
    have FA := Lib.hid ((Fr.refl (fun _ => False) W4).alloc (.cells (tcs k t n (j : Nat)) 32))
    have KO : Hid ((W4.alloc (.cells (tcs k t n (j : Nat)) 32)).ownsRow 0 32 4 (.slice A acc.length c) acc.length (flatT acc)) := Lib.hid (own_fr S4.out.row FA.out (fun _ _ h => h))
    go_upto_region 11 with (
      at_builtin
      refine wpList_app rfl (.tmp 32) (.tmp 34) _ _ rfl 0 32 j0 _ 4 40 Tryd.underlying23 HJ0.out jz0' jz1' jz2' rfl (.slice A acc.length c) acc.length (flatT acc) rfl KO.out _ 1 _ rfl (src_t (blk_all (Blk.new W4 32 (tcs k t n (j : Nat)))) rfl HON.out) (by omega) (by unfold maxLen; omega) (Nat.zero_le _) ?_
      intro v7 W7 o7 f7 hn7
      obtain ⟨A7, c7, rfl, -, -⟩ := own_slice o7
      have O7 := Lib.hid o7
      have F7 := Lib.hid f7
      have N7 := Lib.hid hn7
      clear o7 f7 hn7)
    clear x0 x1 x2 x3 BX4 HON KO
    have GB := Lib.hid (rgap_c W7 s (j + m) (by omega) hm2)
    have hjm : ((j + m : Nat) : Int) = (j : Int) + (m : Int) := by omega
    rw [hjm] at GB
    go_wp2_with (
      go_at_call 21
      refine GB.out.mono ?_
      rintro e W8 ⟨i, rfl, hi1, hi2, hk2, rfl⟩
      have HK2 := Lib.hid hk2
      clear hk2)
    have S7 := Lib.hid (S4.out.add hm1 hi1 hi2 HK2.out FA.out O7.out F7.out N7.out HA.out)
    have hlen : (acc ++ [(⟨k, t, n, (j : Nat)⟩ : Tk)]).length = acc.length + 1 := by simp
    go_wp2_with fail
    go_roundw
    case rel => exact ⟨A7, c7, i, _, hi2, by rw [hlen], rfl, S7.out⟩
    case measure => simp [intOf]; omega
end Go.Proofs.YtimopkmlcjdgfaaDoor
