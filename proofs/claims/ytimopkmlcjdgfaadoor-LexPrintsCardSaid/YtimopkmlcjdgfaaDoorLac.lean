/-
  CONTRACT of All, its walk. Written by gen_lac.py.
-/
import Derived.Test.YtimopkmlcjdgfaaDoorLal
namespace Go.Proofs.YtimopkmlcjdgfaaDoor
set_option linter.unusedSimpArgs false
set_option linter.unusedVariables false
open Go Go.RowKit

theorem eg_own {f : FuncId} {fn : Func} (hf : Tryd.prog.funcs[f]? = some fn) (hname : (fn.name == "runtime.NumGoroutine") = false) (hb : fn.body.isNone = false) (args : Array Value) (w : World) : (callFunc f args).run Tryd.prog w = .ok (.enter f args) w := by
  have h1 : ¬ fn.name = "runtime.NumGoroutine" := by simpa using hname
  have h2 : ¬ fn.body = none := by intro h; rw [h] at hb; cases hb
  simp [callFunc, go_sem, hf, h1, h2]
theorem eg_rd (x : Nat) (args : Array Value) (w : World) : (callFunc (rdF x) args).run Tryd.prog w = .ok (.enter (rdF x) args) w := by
  unfold rdF
  split
  · exact eg_own Tryd.func36 (by kernel_rfl) (by kernel_rfl) args w
  · split
    · exact eg_own Tryd.func38 (by kernel_rfl) (by kernel_rfl) args w
    · split
      · exact eg_own Tryd.func39 (by kernel_rfl) (by kernel_rfl) args w
      · exact eg_own Tryd.func40 (by kernel_rfl) (by kernel_rfl) args w
theorem own_ltT {w : World} {base size n : Nat} {e : TypeId} {v : Value} {xs : List Value} (h : w.ownsRow base e size v n xs) (q : Nat) (hq : v.ownBlock = some q) : q < w.heap.size := by
  rcases h.2 with ⟨rfl, rfl⟩ | ⟨g, cap, cur, rfl, -, hg, -⟩
  · simp [Value.ownBlock] at hq
  · have e1 : g = q := by simpa [Value.ownBlock] using hq
    subst e1
    rcases Nat.lt_or_ge g w.heap.size with h' | h'
    · exact h'
    · rw [Array.getElem?_eq_none h'] at hg; cases hg
theorem blk_at {W : World} {p j m : Nat} {s : List UInt8} (h : Blk W p 45 (xcs s j)) : Blk (W.setCell ⟨p, 1, none⟩ (.int .i64 ((j : Int) + (m : Int)))) p 45 (xcs s (j + m)) := by
  rw [← Int.natCast_add]
  exact h.set_ 1 _
/-- Where All stands ahead of skip. -/
structure AlS (s : List UInt8) (w : World) (p gt : Nat) (T : Array Value) (W : World) (acc : List Tk) (A : Option Addr) (c j : Nat) : Prop where
  row : W.ownsRow 0 32 4 (.slice A acc.length c) acc.length (flatT acc)
  own : ∀ q, (Value.slice A acc.length c).ownBlock = some q → p < q ∧ gt < q
  lex : Blk W p 45 (xcs s j)
  tab : Blk W gt 42 T
  fr : Fr (fun _ => False) w W
  cnt : acc.length ≤ j
  le : j ≤ s.length
  low : w.heap.size ≤ p ∧ w.heap.size ≤ gt ∧ ¬ p = gt
  all : allS s = joinR (.inl acc) (lexL s.length (s.length + 1) (s.drop j))
section
variable {s : List UInt8} {w : World} {p gt : Nat} {T : Array Value} {W W1 W2 W3 : World} {acc : List Tk} {A : Option Addr} {c j : Nat}
theorem AlS.far (h : AlS s w p gt T W acc A c j) (hf : Fr (fun _ => False) W W1) : AlS s w p gt T W1 acc A c j :=
  ⟨own_fr h.row hf (fun _ _ h => h), h.own, keepB h.lex hf, keepB h.tab hf, h.fr.trans hf (fun _ _ h => h), h.cnt, h.le, h.low, h.all⟩
theorem AlS.skp (h : AlS s w p gt T W acc A c j) {e : Ending} (hq : SkipQ p j s W e W1) : e = .returned (.tuple #[]) ∧ ∃ i, AlS s w p gt T W1 acc A c i ∧ j ≤ i ∧ s.drop i = skp false (s.drop i) := by
  obtain ⟨i, rfl, h1, h2, h3, h4, h5⟩ := hq
  refine ⟨rfl, i, ⟨own_fr h.row h5 (fun q hq e => by have := (h.own q hq).1; omega), h.own, h4, h.tab.fr h5 (fun e => h.low.2.2 e.symm), h.fr.trans h5 (fun q hq e => by have := h.low.1; omega), Nat.le_trans h.cnt h1, h2, h.low, ?_⟩, h1, ?_⟩
  · rw [h.all, h3, lex_skp]
  · rw [h3, skp_idem]
theorem AlS.add {A' : Option Addr} {c' m : Nat} {x : Tk} (h : AlS s w p gt T W acc A c j) (hm : j + m ≤ s.length) (h1 : 1 ≤ m) (hf : Fr (fun _ => False) W W1)
    (o : W2.ownsRow 0 32 4 (.slice A' (acc.length + 1) c') (acc.length + 1) (flatT acc ++ tkc x)) (f : Fr (fun q => (Value.slice A acc.length c).ownBlock = some q) W1 W2)
    (hn : (Value.slice A' (acc.length + 1) c').ownBlock = (Value.slice A acc.length c).ownBlock ∨ (Value.slice A' (acc.length + 1) c').ownBlock = some W1.heap.size)
    (b2 : Blk W3 p 45 (xcs s (j + m))) (f2 : Fr (fun q => q = p) W2 W3) (ha : lexL s.length (s.length + 1) (s.drop j) = joinR (.inl [x]) (lexL s.length (s.length + 1) (s.drop (j + m)))) : AlS s w p gt T W3 (acc ++ [x]) A' c' (j + m) := by
  have hk := h.far hf
  have s0 := hk.lex.lt
  have s1 := hk.tab.lt
  have hown : ∀ q, (Value.slice A' (acc.length + 1) c').ownBlock = some q → p < q ∧ gt < q := fun q hq => by
    rcases hn with e | e
    · exact h.own q (e ▸ hq)
    · rw [e] at hq
      injection hq with hq
      omega
  have hlen : (acc ++ [x]).length = acc.length + 1 := by simp
  have hlow : ∀ q, q < w.heap.size → ¬ (Value.slice A acc.length c).ownBlock = some q := fun q hq e => by have := (h.own q e).1; have := h.low.1; omega
  refine ⟨?_, ?_, b2, (hk.tab.fr f (fun e => by have := (h.own _ e).2; omega)).fr f2 (fun e => h.low.2.2 e.symm), (hk.fr.trans f (fun q hq e => hlow q hq e)).trans f2 (fun q hq e => by have := h.low.1; omega), by rw [hlen]; have := h.cnt; omega, hm, h.low, ?_⟩
  · rw [hlen, flatT_app]
    have e1 : flatT [x] = tkc x := by simp [flatT]
    rw [e1]
    exact own_fr o f2 (fun q hq e => by have := (hown q hq).1; omega)
  · rw [hlen]; exact hown
  · rw [h.all, ha, join_inl]
end
set_option maxRecDepth 100000 in
set_option maxHeartbeats 8000000 in
theorem all_c (w : World) (s : List UInt8) (hs : s.length ≤ 140737488355328) (hL : LaidOk w) : Calls Tryd.prog 9 #[.string (strOf s)] w (AllQ s w) := by
  have hsz := strOf_size s
  have HL := Lib.hid hL
  obtain ⟨j0, hj0, jz0', jz1', jz2'⟩ := info_parts t_info
  have HJ0 := Lib.hid hj0
  clear hL hj0
  go_enter Tryd.func9, Tryd.ntmps9
  by_cases hbig : 4096 < s.length
  case pos =>
    have d1 : decide ((4096 : Int) < (s.length : Int)) = true := decide_eq_true (by omega)
    have d1' : decide (4096 < s.length) = true := decide_eq_true hbig
    have d2 : decide ((s.length : Int) > 4096) = true := decide_eq_true (by omega)
    have d2' : decide (s.length > 4096) = true := decide_eq_true hbig
    go_wp2_with fail
    refine bodyPost_ret (v := .tuple #[.slice none 0 0, .int .i64 0, .int .i64 6]) ?_ rfl ?_
    · simp [results, Tryd.results9]
    unfold AllQ
    rw [if_pos hbig]
    exact ⟨Fr.refl _ _, rfl⟩
  case neg =>
    have d1 : decide ((4096 : Int) < (s.length : Int)) = false := decide_eq_false (by omega)
    have d1' : decide (4096 < s.length) = false := decide_eq_false hbig
    have d2 : decide ((s.length : Int) > 4096) = false := decide_eq_false (by omega)
    have d2' : decide (s.length > 4096) = false := decide_eq_false hbig
    refine abs_world (fun W => Hid (Fr (fun _ => False) w W) ∧ Hid (w = W)) ⟨Fr.refl _ _, rfl⟩ ?_
    rintro W0 ⟨F0, WW⟩
    have RD := Lib.hid (readers_c W0)
    have hz : (Tryd.zeroCells42).size = 256 := by kernel_rfl
    go_upto_region 4 with (first
      | (go_at_call 19
         refine RD.out.mono ?_
         rintro e W1 ⟨T, rfl, hT, hTx, f1⟩
         have FT := Lib.hid (F0.out.trans f1 (fun _ _ h => h))
         have HT := Lib.hid hT
         have HTX := Lib.hid hTx
         have ZT := Lib.hid (show (Tryd.prog.info? 42).map (·.size) = some T.size by rw [hT]; kernel_rfl)
         have ONE : Hid (T.all (·.oneCell') = true) := Lib.hid (by
           rw [Array.all_eq_true]
           intro i hi
           have h1 := hTx i (by omega)
           rw [Array.getElem?_eq_getElem hi] at h1
           injection h1 with h1
           rw [h1]
           rfl)
         clear f1 hT hTx)
      | (refine wpList_store_blk rfl 42 _ _ rfl W1.heap.size T rfl rfl (Blk.new W1 _ _) (HT.out.trans hz.symm) ZT.out ONE.out ?_
         intro W2 q9 f9
         have F9 := Lib.hid f9
         have Q9 := Lib.hid q9
         clear q9 f9))
    obtain ⟨gt, hgt⟩ : ∃ q, W1.heap.size = q := ⟨_, rfl⟩
    have hgw : w.heap.size ≤ gt := by have := FT.out.size; omega
    rw [hgt] at Q9 ⊢
    refine abs_world (fun W => Hid (Blk W gt 42 T) ∧ Hid (Fr (fun _ => False) w W)) ⟨Q9.out, (FT.out.trans ((Fr.refl (fun _ => False) W1).alloc _) (fun _ _ h => h)).trans F9.out (fun q hq e => by omega)⟩ ?_
    clear ZT ONE Q9 F9 FT RD WW F0 hz hgt
    clear W2 W1 W0
    rintro W1 ⟨Q1, F1⟩
    have HO2 := Lib.hid (show (xcs s 0).all (·.oneCell') = true by simp [xcs, Value.oneCell'])
    have SX := Lib.hid (show (Tryd.prog.info? 45).map (·.size) = some (xcs s 0).size from xsize)
    go_upto_region 5 with (
      refine wpList_store_blk rfl 45 _ _ rfl W1.heap.size (xcs s 0) rfl rfl (Blk.new W1 _ _) rfl SX.out HO2.out ?_
      intro W2 q9 f9
      have F9 := Lib.hid f9
      have Q9 := Lib.hid q9
      clear q9 f9)
    obtain ⟨p, hp⟩ : ∃ q, W1.heap.size = q := ⟨_, rfl⟩
    have hpw : w.heap.size ≤ p ∧ gt < p := by have := F1.out.size; have := Q1.out.lt; omega
    rw [hp] at Q9 ⊢
    refine abs_world (fun W => Hid (AlS s w p gt T W [] none 0 0)) ⟨World.ownsRow_nil _ _ _ _, fun q hq => by simp [Value.ownBlock] at hq, Q9.out, (Q1.out.alloc _).fr F9.out (fun e => by omega), (F1.out.trans ((Fr.refl (fun _ => False) W1).alloc _) (fun _ _ h => h)).trans F9.out (fun q hq e => by omega), Nat.zero_le _, Nat.zero_le _, ⟨hpw.1, hgw, by omega⟩, by rw [join_nil]; rfl⟩ ?_
    clear SX HO2 Q9 F9 Q1 F1 hp
    clear W2 W1
    intro W1 S0
    go_wp2_with (
      go_at_call 20
      refine (skip_c W1 p 0 s (by omega) S0.out.lex (Nat.zero_le _)).mono ?_
      intro e W2 hq
      obtain ⟨rfl, j1, S1', -, hk'⟩ := S0.out.skp hq
      have S1 := Lib.hid S1'
      have HK := Lib.hid hk'
      clear hq S1' hk')
    go_loopw [2] (fun ov W => ∃ (A : Option Addr) (c j : Nat) (acc : List Tk), ov = .slice A acc.length c ∧ Hid (s.drop j = skp false (s.drop j)) ∧ Hid (AlS s w p gt T W acc A c j)) (fun _ W => s.length - atX p W)
    case atStart => exact ⟨none, 0, j1, [], rfl, HK.out, S1.out⟩
    case round =>
      clear S0 S1 HK
      clear W1 W2
      obtain ⟨A, c, j, acc, rfl, HK, S⟩ := hrel
      have HAT : Hid (atX p wr = j) := Lib.hid (atX_of S.out.lex)
      have c0 : wr.cell? ⟨p, 0, none⟩ = some (.string (strOf s)) := S.out.lex.cell 0
      have c1 : wr.cell? ⟨p, 1, none⟩ = some (.int .i64 (j : Nat)) := S.out.lex.cell 1
      have hjle := S.out.le
      by_cases hlt : j < s.length
      case neg =>
        have d1 : decide ((j : Int) < (s.length : Int)) = false := decide_eq_false (by omega)
        have d1' : decide (j < s.length) = false := decide_eq_false hlt
        have HF : Hid (allS s = .inl acc) := Lib.hid (by rw [S.out.all, List.drop_eq_nil_of_le (by omega), lex_nil]; simp [joinR])
        go_wp2_with fail
        refine bodyPost_ret (v := .tuple #[.slice A acc.length c, .int .i64 0, .int .i64 0]) ?_ rfl ?_
        · simp [results, Tryd.results9]
        unfold AllQ
        rw [if_neg hbig, HF.out]
        exact ⟨S.out.fr, A, c, rfl, own_fr S.out.row (Fr.refl (fun _ => False) _) (fun _ _ h => h), fun q hq => by have := (S.out.own q hq).1; omega⟩
      case pos =>
      have d1 : decide ((j : Int) < (s.length : Int)) = true := decide_eq_true (by omega)
      have d1' : decide (j < s.length) = true := decide_eq_true hlt
      have hix := fun W => run_index_str W s j hlt
      have hcl := u8_lt s[j]
      have HLr := Lib.hid (HL.out.far S.out.fr)
      obtain ⟨f, hf0, hone⟩ := one_c wr p j s (by omega) S.out.lex hlt HLr.out
      have HEG := Lib.hid (eg_rd (s[j]).toNat)
      have hff : rdF (s[j]).toNat = f := by
        have : rdV (s[j]).toNat = .func (.func (rdF (s[j]).toNat)) #[] #[] := rfl
        rw [this] at hf0
        injection hf0 with h1
        injection h1
      rw [hff] at HEG
      have hct0 : T[(s[j]).toNat]? = some (rdV (s[j]).toNat) := HTX.out _ hcl
      rw [hf0] at hct0
      have hct : wr.cell? ⟨gt, (s[j]).toNat, none⟩ = some (.func (.func f) #[] #[]) := (S.out.tab.cell _).trans hct0
      obtain ⟨b, hb⟩ : ∃ b, s[j] = b := ⟨_, rfl⟩
      rw [hb] at hix hcl hct hone
      obtain ⟨x, hx⟩ : ∃ x, b.toNat = x := ⟨_, rfl⟩
      rw [hx] at hix hcl hct
      have hdr := List.drop_eq_getElem_cons hlt
      rw [hb] at hdr
      have HDR := Lib.hid hdr
      have HONE := Lib.hid hone
      clear hone hf0 hct0 hff hdr hb hx
      have q1 : (0 : Int) ≤ (x : Int) := by omega
      have q2 : (x : Int) < 256 := by omega
      go_upto_region 8 with fail
      have ST := Lib.hid (fun (k n : Int) (t : List UInt8) => (show (Tryd.prog.info? 32).map (·.size) = some (tcs k t n 0).size from tsize))
      have HO := Lib.hid (fun (k n : Int) (t : List UInt8) => (show (tcs k t n 0).all (·.oneCell') = true by simp [tcs, Value.oneCell']))
      go_upto_region 9 with (first
        | (rw [HEG.out, Oper.upon_enter]
           refine HONE.out.mono ?_
           rintro e W3 ⟨k, t, n, m, ok, rfl, htk, hm, htl, f3⟩
           have HTK := Lib.hid htk
           have F3 := Lib.hid f3
           clear htk f3)
        | (refine wpList_store_blk rfl 32 _ _ rfl W3.heap.size (tcs k t n 0) rfl rfl (Blk.new W3 _ _) rfl (ST.out k n t) (HO.out k n t) ?_
           intro W4 q9 f9
           have F9 := Lib.hid f9
           have Q9 := Lib.hid q9
           clear q9 f9))
      obtain ⟨bx, hbx⟩ : ∃ q, W3.heap.size = q := ⟨_, rfl⟩
      rw [hbx] at Q9 F9 ⊢
      have S3 := Lib.hid (S.out.far F3.out)
      have hbw : p < bx ∧ gt < bx ∧ w.heap.size ≤ bx := by
        have h1 := S3.out.lex.lt
        have h2 := S3.out.tab.lt
        have h3 := S3.out.low.1
        omega
      have F4 : Hid (Fr (fun _ => False) W3 W4) := Lib.hid (((Fr.refl (fun _ => False) W3).alloc _).trans F9.out (fun q hq e => by omega))
      have HBA : Hid (∀ q, (Value.slice A acc.length c).ownBlock = some q → ¬ q = bx) := Lib.hid (fun q hq e => by
        have h1 := own_ltT S3.out.row q hq
        omega)
      refine abs_world (fun W => Hid (AlS s w p gt T W acc A c j) ∧ Hid (Blk W bx 32 (tcs k t n 0)) ∧ Hid (LaidOk W)) ⟨S3.out.far F4.out, Q9.out, (HLr.out.far F3.out).far F4.out⟩ ?_
      clear S3 F4 F3 Q9 F9 S HLr hix hct c0 c1 ST HO HONE HEG hbx
      clear W4 W3
      rintro W3 ⟨S, BX, HLr⟩
      have c1 : W3.cell? ⟨p, 1, none⟩ = some (.int .i64 (j : Nat)) := S.out.lex.cell 1
      have cx : W3.cell? ⟨bx, 3, none⟩ = some (.int .i64 0) := BX.out.cell 3
      have zx : W3.frozen? ⟨bx, 3, none⟩ = false := BX.out.frozen 3
      go_upto_region 10 with fail
      refine abs_world (fun W => Hid (AlS s w p gt T W acc A c j) ∧ Hid (Blk W bx 32 (tcs k t n (j : Nat))) ∧ Hid (LaidOk W)) ?_ ?_
      · have f5 : Fr (fun q => q = bx) W3 (W3.setCell ⟨bx, 3, none⟩ (.int .i64 (j : Nat))) := (Fr.refl (fun q => q = bx) W3).setCell (p := ⟨bx, 3, none⟩) (fun _ => rfl) _
        refine ⟨⟨own_fr S.out.row f5 HBA.out, S.out.own, S.out.lex.fr f5 (fun e => by omega), S.out.tab.fr f5 (fun e => by omega), S.out.fr.trans f5 (fun q hq e => by omega), S.out.cnt, S.out.le, S.out.low, S.out.all⟩, BX.out.set_ 3 _, HLr.out.fr f5 (fun q hq e => by have := HL.out.size; omega)⟩
      clear c1 cx zx S BX HLr
      clear W3
      rintro W3 ⟨S, BX, HLr⟩
      have c1 : W3.cell? ⟨p, 1, none⟩ = some (.int .i64 (j : Nat)) := S.out.lex.cell 1
      have x0 : W3.cell? ⟨bx, 0, none⟩ = some (.int .i64 k) := BX.out.cell 0
      have x1 : W3.cell? ⟨bx, 1, none⟩ = some (.string (strOf t)) := BX.out.cell 1
      have x2 : W3.cell? ⟨bx, 2, none⟩ = some (.int .i64 n) := BX.out.cell 2
      have x3 : W3.cell? ⟨bx, 3, none⟩ = some (.int .i64 (j : Nat)) := BX.out.cell 3
      have htk := HTK.out (j : Nat) (by omega)
      rw [← HDR.out] at htk
      have HTJ := Lib.hid htk
      clear htk HTK
      have MY := Lib.hid (may_c W3 k t n (j : Nat) htl HLr.out)
      cases ok with
      | false =>
        have HN : Hid (allS s = .inr j) := Lib.hid (by rw [S.out.all, lex_at hlt HK.out, HTJ.out]; rfl)
        clear MY HTJ
        go_upto_region 11 with fail
        go_quiet (fail)
        go_wp2_with fail
        refine bodyPost_ret (v := .tuple #[.slice none 0 0, .int .i64 (j : Nat), .int .i64 2]) ?_ rfl ?_
        · simp [results, Tryd.results9]
        unfold AllQ
        rw [if_neg hbig, HN.out]
        exact ⟨S.out.fr.drewN _, rfl⟩
      | true =>
      cases hmy : mayT k t n (j : Nat) with
      | false =>
        rw [hmy] at MY
        have HN : Hid (allS s = .inr j) := Lib.hid (by rw [S.out.all, lex_at hlt HK.out, HTJ.out, hmy]; rfl)
        clear HTJ hmy
        go_upto_region 11 with (
          go_at_call 13
          refine MY.out.mono ?_
          rintro e W4 ⟨rfl, f4⟩
          have S4 := Lib.hid (S.out.far f4)
          have BX4 := Lib.hid (keepB BX.out f4)
          clear f4)
        have c4 : W4.cell? ⟨p, 1, none⟩ = some (.int .i64 (j : Nat)) := S4.out.lex.cell 1
        go_quiet (fail)
        go_wp2_with fail
        refine bodyPost_ret (v := .tuple #[.slice none 0 0, .int .i64 (j : Nat), .int .i64 2]) ?_ rfl ?_
        · simp [results, Tryd.results9]
        unfold AllQ
        rw [if_neg hbig, HN.out]
        exact ⟨S4.out.fr.drewN _, rfl⟩
      | true =>
        rw [hmy] at MY
        have htj : tok (s.drop j) = some (k, t, n, m) := by rw [HTJ.out, hmy]; rfl
        have htm := tok_le htj
        dsimp only at htm
        rw [List.length_drop] at htm
        have hm1 := htm.1
        have hm2 : j + m ≤ s.length := by omega
        have HA : Hid (lexL s.length (s.length + 1) (s.drop j) = joinR (.inl [⟨k, t, n, (j : Nat)⟩]) (lexL s.length (s.length + 1) (s.drop (j + m)))) := Lib.hid (by rw [lex_at hlt HK.out, htj])
        have hwr : IntKind.i64.wrap ((j : Int) + (m : Int)) = (j : Int) + (m : Int) := IntWalk.i64_in _ (by omega)
        have hcn := S.out.cnt
        clear HTJ hmy htj htm
        go_upto_region 12 with (
          go_at_call 13
          refine MY.out.mono ?_
          rintro e W4 ⟨rfl, f4⟩
          have S4 := Lib.hid (S.out.far f4)
          have BX4 := Lib.hid (keepB BX.out f4)
          clear f4)
        clear x0 x1 x2 x3 c1 S BX MY HLr
        have x0 : W4.cell? ⟨bx, 0, none⟩ = some (.int .i64 k) := BX4.out.cell 0
        have x1 : W4.cell? ⟨bx, 1, none⟩ = some (.string (strOf t)) := BX4.out.cell 1
        have x2 : W4.cell? ⟨bx, 2, none⟩ = some (.int .i64 n) := BX4.out.cell 2
        have x3 : W4.cell? ⟨bx, 3, none⟩ = some (.int .i64 (j : Nat)) := BX4.out.cell 3
        have HON := Lib.hid (show ∀ u ∈ (tcs k t n (j : Nat)).toList, u.oneCell' = true by intro u hu; simp [tcs] at hu; rcases hu with rfl | rfl | rfl | rfl <;> rfl)
        have FA := Lib.hid ((Fr.refl (fun _ => False) W4).alloc (.cells (tcs k t n (j : Nat)) 32))
        have KO : Hid ((W4.alloc (.cells (tcs k t n (j : Nat)) 32)).ownsRow 0 32 4 (.slice A acc.length c) acc.length (flatT acc)) := Lib.hid (own_fr S4.out.row FA.out (fun _ _ h => h))
        go_upto_region 13 with (
          at_builtin
          refine wpList_app rfl (.tmp 46) (.tmp 48) _ _ rfl 0 32 j0 _ 4 40 Tryd.underlying23 HJ0.out jz0' jz1' jz2' rfl (.slice A acc.length c) acc.length (flatT acc) rfl KO.out _ 1 _ rfl (src_t (blk_all (Blk.new W4 32 (tcs k t n (j : Nat)))) rfl HON.out) (by omega) (by unfold maxLen; omega) (Nat.zero_le _) ?_
          intro v7 W7 o7 f7 hn7
          obtain ⟨A7, c7, rfl, -, -⟩ := own_slice o7
          have O7 := Lib.hid o7
          have F7 := Lib.hid f7
          have N7 := Lib.hid hn7
          clear o7 f7 hn7)
        have P7 : Hid (Blk W7 p 45 (xcs s j)) := Lib.hid ((keepB S4.out.lex FA.out).fr F7.out (fun e => by have := (S4.out.own p e).1; omega))
        have c1 : W7.cell? ⟨p, 1, none⟩ = some (.int .i64 (j : Nat)) := P7.out.cell 1
        have z1 : W7.frozen? ⟨p, 1, none⟩ = false := P7.out.frozen 1
        clear x0 x1 x2 x3 BX4 HON KO
        go_upto_region 7 with fail
        refine abs_world (fun W => Hid (AlS s w p gt T W (acc ++ [⟨k, t, n, (j : Nat)⟩]) A7 c7 (j + m))) ?_ ?_
        · exact S4.out.add hm2 hm1 FA.out O7.out F7.out N7.out (blk_at P7.out) ((Fr.refl (fun q => q = p) W7).setCell (p := ⟨p, 1, none⟩) (fun _ => rfl) _) HA.out
        clear c1 z1 P7 O7 F7 N7 FA S4 HA
        clear W7
        intro W7 S7
        have hlen : (acc ++ [(⟨k, t, n, (j : Nat)⟩ : Tk)]).length = acc.length + 1 := by simp
        go_wp2_with (
          go_at_call 20
          refine (skip_c W7 p (j + m) s (by omega) S7.out.lex hm2).mono ?_
          intro e W8 hq
          obtain ⟨rfl, j2, S8', hj2, hk'⟩ := S7.out.skp hq
          have S8 := Lib.hid S8'
          have HK8 := Lib.hid hk'
          clear hq S8' hk')
        go_roundw
        case rel => exact ⟨A7, c7, j2, _, by rw [hlen], HK8.out, S8.out⟩
        case measure =>
          have h1 := HAT.out
          have h2 := atX_of S8.out.lex
          show s.length - atX p _ < s.length - atX p _
          omega


end Go.Proofs.YtimopkmlcjdgfaaDoor
