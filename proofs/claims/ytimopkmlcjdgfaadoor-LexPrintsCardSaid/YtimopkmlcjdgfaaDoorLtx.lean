/-
  CONTRACT of the reader text. Written by gen_ltx.py.
-/
import Derived.Test.YtimopkmlcjdgfaaDoorLsh
import Derived.Deep.AppendLies
namespace Go.Proofs.YtimopkmlcjdgfaaDoor
set_option linter.unusedSimpArgs false
set_option linter.unusedVariables false
open Go Go.RowKit Go.Shelf

theorem conv_str (w : World) (A : Option Addr) (n c : Nat) (l : List UInt8) (h : Rd w A n (bv l)) : (convert 56 9 (.slice A n c)).run Tryd.prog w = .ok (.string (strOf l)) w := by
  rw [run_convert_bytes_string w 56 9 5 A n c Tryd.underlying56 Tryd.underlying5 Tryd.underlying9]
  have hl : l.length = n := by rw [← h.1, bv_length]
  have hbv : bv l = (l.map fun b => (b.toNat : Int)).map (Value.int .u8) := by simp [bv]
  cases A with
  | none =>
    have hn : n = 0 := by
      rcases Nat.eq_zero_or_pos n with h0 | h0
      · exact h0
      · obtain ⟨ad, he, _⟩ := h.2 h0
        cases he
    subst hn
    obtain rfl : l = [] := List.eq_nil_of_length_eq_zero hl
    rfl
  | some ad =>
    have hload : (loadCells ad n).run Tryd.prog w = .ok ((l.map fun b => (b.toNat : Int)).map (Value.int .u8)).toArray w := by
      have := run_loadCells_list (P := Tryd.prog) w ad ((l.map fun b => (b.toNat : Int)).map (Value.int .u8)) (fun j u hj => by
        rw [← hbv] at hj
        have hjl : 0 < n := by
          rcases Nat.eq_zero_or_pos n with h0 | h0
          · subst h0
            obtain rfl : l = [] := List.eq_nil_of_length_eq_zero hl
            simp [bv] at hj
          · exact h0
        obtain ⟨ad', he, hc⟩ := h.2 hjl
        injection he with he
        subst he
        exact hc j u hj)
      simpa [hl] using this
    rw [run_bytesToString w ad n c _ hload, foldl_push_bytes]
    congr 1
    have e : l.map ((fun n : Int => UInt8.ofNat n.toNat) ∘ fun b : UInt8 => (b.toNat : Int)) = l := by
      conv => rhs; rw [← List.map_id l]
      apply List.map_congr_left
      intro b _
      simp
    simp [strOf, ByteArray.empty, ByteArray.emptyWithCapacity]
    exact e

theorem src_b {W : World} {q : Nat} {x : Int} (h : Blk W q 5 #[.int .u8 x]) : Src Tryd.prog 1 56 (.slice (some ⟨q, 0, none⟩) 1 1) 1 [.int .u8 x] W :=
  Src.ofSlice W Tryd.underlying56 ⟨q, 0, none⟩ 1 1 _ rfl (fun j u hu => by
    cases j with
    | zero =>
      have e : Value.int .u8 x = u := by simpa using hu
      subst e
      exact h.cell 0
    | succ j => simp at hu) (fun u hu => by rw [List.mem_singleton.1 hu]; rfl)
theorem b_info : (Tryd.prog.info? 5).map (fun i => (i.zero, i.size, i.bytes)) = some (some (.int .u8 0), 1, 1) := by kernel_rfl
section
variable {P : Program} {w : World} {F : Fence} {n : Nat} {K : Act → World → Prop} {Q : Exit → Act → World → Prop} {o : Oper} {a : Act}
theorem operIn_convert {t1 t2 : TypeId} (d : Operand) (hop : o.op = Op.convert t1 t2 d) (v : Value) (hd : a.eval d = v) {z : Value} (hr : (convert t1 t2 v).run P w = .ok z w) (hK : K (a.put o.dst z) w) : Oper.wpIn F n P o a w K Q := by
  refine ⟨fun f hf => ?_, ?_⟩
  · simp [Oper.about, hop] at hf
  · simp [Oper.semAt, execOp, hop, hd, hr, Result.andThen, Oper.uponIn]
    exact hK
end
theorem txt_q (r : List UInt8) : txt (34 :: r) = some ([], 1) := by
  cases r with
  | nil => unfold txt; rfl
  | cons c r => unfold txt; rfl
theorem txt_b (c : UInt8) (r : List UInt8) (h : c = 34 ∨ c = 92) : txt (92 :: c :: r) = (txt r).map fun q => (c :: q.1, q.2 + 2) := by
  conv => lhs; unfold txt
  rcases h with rfl | rfl <;> rfl
theorem txt_bn (c : UInt8) (r : List UInt8) (h : ¬ (c = 34 ∨ c = 92)) : txt (92 :: c :: r) = none := by
  conv => lhs; unfold txt
  have h1 : (c == 34) = false := by simpa using fun e => h (.inl e)
  have h2 : (c == 92) = false := by simpa using fun e => h (.inr e)
  rw [h1, h2]
  rfl
theorem txt_b0 : txt [92] = none := rfl
theorem txt_o (b : UInt8) (r : List UInt8) (h1 : b ≠ 34) (h2 : b ≠ 92) : txt (b :: r) = (txt r).map fun q => (b :: q.1, q.2 + 1) := by
  have e1 : (b == 34) = false := by simpa using h1
  have e2 : (b == 92) = false := by simpa using h2
  cases r with
  | nil => unfold txt; rw [e1]; rfl
  | cons c r => conv => lhs; unfold txt
                rw [e1, e2]; rfl
/-- What is read so far. -/
def TxAt (r : List UInt8) (acc : List UInt8) (m : Nat) (rest : List UInt8) : Prop := txt r = (txt rest).map fun q => (acc ++ q.1, q.2 + m)
theorem TxAt.step {r acc : List UInt8} {m : Nat} {rest rest' : List UInt8} {x : UInt8} {d : Nat} (h : TxAt r acc m rest) (e : txt rest = (txt rest').map fun q => (x :: q.1, q.2 + d)) : TxAt r (acc ++ [x]) (m + d) rest' := by
  unfold TxAt at h ⊢
  rw [h, e]
  cases txt rest' with
  | none => rfl
  | some q => simp; omega
def TextQ (s : List UInt8) (at_ : Nat) (w : World) (e : Ending) (w' : World) : Prop := match txt (s.drop (at_ + 1)) with
  | some (o, m) => RdQ 2 o 0 (m + 1) true w e w'
  | none => RdQ 0 [] 0 0 false w e w'
def txR (p at_ i9 g c : Nat) (A : Option Addr) (acc : List UInt8) (i : Nat) (val : Nat → Value) (W : World) : Prop := match i with
  | 0 => val 0 = .slice A acc.length c
  | 1 => val 1 = .string (strOf acc)
  | 2 => val 2 = .agg (tcs 2 acc 0 0)
  | 3 => val 3 = .int .i64 (i9 : Nat)
  | 4 => val 4 = .int .i64 ((i9 : Int) + 1)
  | 5 => val 5 = .pointer (some ⟨p, 0, none⟩)
  | 6 => val 6 = .pointer (some ⟨p, 0, none⟩)
  | 7 => val 7 = .pointer (some ⟨p, 1, none⟩)
  | 8 => val 8 = .int .i64 (at_ : Nat)
  | 9 => val 9 = .int .i64 ((i9 : Int) + 1 - (at_ : Nat))
  | 10 => Blk W g 32 (tcs 2 acc 0 0)
  | 11 => val 11 = .int .i64 ((i9 : Int) + 1 - (at_ : Nat))
  | 12 => val 12 = .bool true
  | _ => True
theorem txR_far {p at_ i9 g c : Nat} {A : Option Addr} {acc : List UInt8} (i : Nat) (val val' : Nat → Value) (W W' : World) (he : ∀ j, j = i ∨ Anc [0, 1, 3, 0, 8, 0, 32, 96, 224, 504, 7, 2047, 4095] i j = true → val j = val' j) (hg : Gs g 32 (tcs 2 acc 0 0) W W') (hx : txR p at_ i9 g c A acc i val W) : txR p at_ i9 g c A acc i val' W' := by
  match i with
  | 0 => exact (he 0 (.inl rfl)).symm.trans hx
  | 1 => exact (he 1 (.inl rfl)).symm.trans hx
  | 2 => exact (he 2 (.inl rfl)).symm.trans hx
  | 3 => exact (he 3 (.inl rfl)).symm.trans hx
  | 4 => exact (he 4 (.inl rfl)).symm.trans hx
  | 5 => exact (he 5 (.inl rfl)).symm.trans hx
  | 6 => exact (he 6 (.inl rfl)).symm.trans hx
  | 7 => exact (he 7 (.inl rfl)).symm.trans hx
  | 8 => exact (he 8 (.inl rfl)).symm.trans hx
  | 9 => exact (he 9 (.inl rfl)).symm.trans hx
  | 10 => exact hg.2.2 hx
  | 11 => exact (he 11 (.inl rfl)).symm.trans hx
  | 12 => exact (he 12 (.inl rfl)).symm.trans hx
  | (n + 13) => exact trivial
set_option maxRecDepth 100000 in
set_option maxHeartbeats 8000000 in
theorem text_c (w : World) (p at_ : Nat) (s : List UInt8) (hs : s.length ≤ 1000000) (hp : Blk w p 45 (xcs s at_)) (h : at_ < s.length) :
    Calls Tryd.prog 39 #[.pointer (some ⟨p, 0, none⟩)] w (TextQ s at_ w) := by
  have hres := results_tii (P := Tryd.prog) (fn := Tryd.f39) (p := 2) (q := 3) (r := 4) (ty := 32) Tryd.results39
  have hsz := strOf_size s
  obtain ⟨b0, hb0, bz0, bz1, bz2⟩ := info_parts b_info
  have HB0 := Lib.hid hb0
  obtain ⟨g, hg⟩ : ∃ g, w.heap.size = g := ⟨_, rfl⟩
  have HG := Lib.hid hg
  have HPG : Hid (¬ p = g) := Lib.hid (by have := hp.lt; omega)
  have HPL : Hid (p < g) := Lib.hid (by have := hp.lt; omega)
  have HP := Lib.hid hp
  clear hp hg hb0
  go_enter Tryd.func39, Tryd.ntmps39
  go_upto_region 1 with fail
  refine abs_world (fun W => Hid (Blk W w.heap.size 32 (tcs 0 [] 0 0)) ∧ Hid (Blk W p 45 (xcs s at_)) ∧ Hid (Fr (fun _ => False) w W)) ⟨Blk.new w _ _, HP.out.alloc _, (Fr.refl _ w).alloc _⟩ ?_
  rintro W1 ⟨Z0, P1, F1⟩
  rw [HG.out] at Z0 ⊢
  have c1 : W1.cell? ⟨p, 1, none⟩ = some (.int .i64 (at_ : Nat)) := P1.out.cell 1
  go_wp2_with fail
  go_loopw [5, 6] (fun ov iv W => ∃ (A : Option Addr) (c i : Nat) (acc : List UInt8), at_ + 1 ≤ i ∧ i ≤ s.length ∧ acc.length ≤ i ∧ ov = .slice A acc.length c ∧ iv = .int .i64 (i : Int) ∧ Hid (TxAt (s.drop (at_ + 1)) acc (i - (at_ + 1)) (s.drop i)) ∧ Hid (W.ownsRow 0 5 1 (.slice A acc.length c) acc.length (bv acc)) ∧ Hid (∀ q, (Value.slice A acc.length c).ownBlock = some q → ¬ q = g ∧ ¬ q = p ∧ g < q) ∧ Hid (Blk W g 32 (tcs 0 [] 0 0)) ∧ Hid (Blk W p 45 (xcs s at_)) ∧ Hid (Fr (fun _ => False) w W)) (fun _ iv _ => s.length - (intOf iv).toNat)
  case atStart => exact ⟨none, 0, at_ + 1, [], Nat.le_refl _, h, Nat.zero_le _, rfl, by go_num, Lib.hid (by unfold TxAt; simp), World.ownsRow_nil _ _ _ _, Lib.hid (fun q hq => by simp [Value.ownBlock] at hq), Z0.out, P1.out, F1.out⟩
  case round =>
    clear Z0 P1 F1 c1
    clear W1
    obtain ⟨A, c, i, acc, hi1, hi, hal, rfl, rfl, htx, ROW, HOB, Z0, P1, F1⟩ := hrel
    have c0 : wr.cell? ⟨p, 0, none⟩ = some (.string (strOf s)) := P1.out.cell 0
    have c1 : wr.cell? ⟨p, 1, none⟩ = some (.int .i64 (at_ : Nat)) := P1.out.cell 1
    by_cases hlt : i < s.length
    case neg =>
      have d1 : decide ((i : Int) < (s.length : Int)) = false := decide_eq_false (by omega)
      have d1' : decide (i < s.length) = false := decide_eq_false hlt
      have HNO : Hid (txt (s.drop (at_ + 1)) = none) := Lib.hid (by rw [show txt (s.drop (at_ + 1)) = _ from htx.out, List.drop_eq_nil_of_le (by omega)]; rfl)
      have S1 := Lib.hid (show (Tryd.prog.info? 32).map (·.size) = some (tcs 0 [] 0 0).size from tsize)
      have HO1 := Lib.hid (show (tcs 0 [] 0 0).all (·.oneCell') = true by simp [tcs, Value.oneCell'])
      go_wp2_with (refine wpList_store_blk rfl 32 _ _ rfl g (tcs 0 [] 0 0) rfl rfl Z0.out rfl S1.out HO1.out ?_
                   intro W9 q9 f9
                   have F9 := Lib.hid f9
                   have Q9 := Lib.hid q9
                   clear q9 f9)
      refine bodyPost_ret (v := .tuple #[.agg (tcs 0 [] 0 0), .int .i64 0, .bool false]) (hres _ W9 g 32 _ _ _ _ rfl rfl rfl Q9.out Tryd.underlying32 rfl S1.out) rfl ?_
      have hg := HG.out
      unfold TextQ
      rw [HNO.out]
      exact ⟨rfl, F1.out.trans F9.out (fun q hq e => by omega)⟩
    have d1 : decide ((i : Int) < (s.length : Int)) = true := decide_eq_true (by omega)
    have d1' : decide (i < s.length) = true := decide_eq_true hlt
    have hix := fun W => run_index_str W s i hlt
    have hdr := List.drop_eq_getElem_cons hlt
    have hcl := u8_lt s[i]
    obtain ⟨b, hb⟩ : ∃ b, s[i] = b := ⟨_, rfl⟩
    rw [hb] at hix hdr hcl
    obtain ⟨x, hx⟩ : ∃ x, b.toNat = x := ⟨_, rfl⟩
    rw [hx] at hix hcl
    have HDR := Lib.hid hdr
    have HX := Lib.hid hx
    clear hb hdr hx
    by_cases h34 : x = 34
    case pos =>
      have HB : Hid (b = 34) := Lib.hid (UInt8.toNat_inj.1 (by rw [HX.out, h34]; rfl))
      have HYES : Hid (txt (s.drop (at_ + 1)) = some (acc, i - at_)) := Lib.hid (by
        rw [show txt (s.drop (at_ + 1)) = _ from htx.out, HDR.out, HB.out, txt_q]
        show some (acc ++ [], 1 + (i - (at_ + 1))) = _
        rw [List.append_nil]
        congr 2
        omega)
      subst h34
      go_upto_region 7 with fail
      have HRD : Hid (Rd wr A acc.length (bv acc)) := Lib.hid (Rd.of_own ROW.out)
      have HAG : Hid (∀ k, inA A k → ¬ k = g) := Lib.hid (fun k hk => by
        obtain ⟨ad, rfl, rfl⟩ := hk
        exact (HOB.out ad.block rfl).1)
      have HIB : Hid ((-9223372036854775808 ≤ (i : Int) + 1 ∧ (i : Int) + 1 ≤ 9223372036854775807) ∧ (-9223372036854775808 ≤ (i : Int) + 1 - (at_ : Int) ∧ (i : Int) + 1 - (at_ : Int) ≤ 9223372036854775807)) := Lib.hid (by omega)
      have S1 := Lib.hid (show (Tryd.prog.info? 32).map (·.size) = some (tcs 2 acc 0 0).size from tsize)
      have HO1 := Lib.hid (show (tcs 2 acc 0 0).all (·.oneCell') = true by simp [tcs, Value.oneCell'])
      refine (wpIn_wide (n := 9)).1 ?_
      refine wpIn_region_factsR (ms := [0, 1, 3, 0, 8, 0, 32, 96, 224, 504, 7, 2047, 4095]) (k := 13) (Gs g 32 (tcs 2 acc 0 0)) (txR p at_ i g c A acc) (by kernel_rfl) (by kernel_rfl) (fun W => Gs.refl W) (fun a b c h1 h2 => h1.trans h2) (txR_far) (lowMs_lt (by kernel_rfl)) ?walkt
      case walkt =>
      refine factWalkR_cons (fun W hW hf K hK => ?_) (fun v0 => ?_)
      · skip
        refine ⟨by kernel_rfl, ?_⟩
        gi_step
        exact hK _ _ (Gs.refl _) rfl
      simp only [Act.put, List.setIfInBounds_toArray, List.set_cons_succ, List.set_cons_zero]
      refine factWalkR_cons (fun W hW hf K hK => ?_) (fun v1 => ?_)
      · skip
        have e0 : v0 = .slice A acc.length c := hf 0 (by omega) (by kernel_rfl)
        subst e0
        have hcv := conv_str W A acc.length c acc ((HRD.out.drew).fr hW.1 HAG.out)
        refine ⟨by kernel_rfl, ?_⟩
        refine operIn_convert _ rfl _ rfl hcv ?_
        exact hK _ _ (Gs.refl _) rfl
      simp only [Act.put, List.setIfInBounds_toArray, List.set_cons_succ, List.set_cons_zero]
      refine factWalkR_cons (fun W hW hf K hK => ?_) (fun v2 => ?_)
      · skip
        have e1 : v1 = .string (strOf acc) := hf 1 (by omega) (by kernel_rfl)
        subst e1
        refine ⟨by kernel_rfl, ?_⟩
        gi_step
        exact hK _ _ (Gs.refl _) rfl
      simp only [Act.put, List.setIfInBounds_toArray, List.set_cons_succ, List.set_cons_zero]
      refine factWalkR_cons (fun W hW hf K hK => ?_) (fun v3 => ?_)
      · skip
        refine ⟨by kernel_rfl, ?_⟩
        gi_step
        exact hK _ _ (Gs.refl _) rfl
      simp only [Act.put, List.setIfInBounds_toArray, List.set_cons_succ, List.set_cons_zero]
      refine factWalkR_cons (fun W hW hf K hK => ?_) (fun v4 => ?_)
      · skip
        have e3 : v3 = .int .i64 (i : Nat) := hf 3 (by omega) (by kernel_rfl)
        subst e3
        have hwi : IntKind.i64.wrap ((i : Int) + 1) = (i : Int) + 1 := IntWalk.i64_in _ HIB.out.1
        refine ⟨by kernel_rfl, ?_⟩
        gi_step
        exact hK _ _ (Gs.refl _) rfl
      simp only [Act.put, List.setIfInBounds_toArray, List.set_cons_succ, List.set_cons_zero]
      refine factWalkR_cons (fun W hW hf K hK => ?_) (fun v5 => ?_)
      · skip
        refine ⟨by kernel_rfl, ?_⟩
        gi_step
        exact hK _ _ (Gs.refl _) rfl
      simp only [Act.put, List.setIfInBounds_toArray, List.set_cons_succ, List.set_cons_zero]
      refine factWalkR_cons (fun W hW hf K hK => ?_) (fun v6 => ?_)
      · skip
        have e5 : v5 = .pointer (some ⟨p, 0, none⟩) := hf 5 (by omega) (by kernel_rfl)
        subst e5
        refine ⟨by kernel_rfl, ?_⟩
        gi_step
        exact hK _ _ (Gs.refl _) rfl
      simp only [Act.put, List.setIfInBounds_toArray, List.set_cons_succ, List.set_cons_zero]
      refine factWalkR_cons (fun W hW hf K hK => ?_) (fun v7 => ?_)
      · skip
        have e6 : v6 = .pointer (some ⟨p, 0, none⟩) := hf 6 (by omega) (by kernel_rfl)
        subst e6
        refine ⟨by kernel_rfl, ?_⟩
        gi_step
        exact hK _ _ (Gs.refl _) rfl
      simp only [Act.put, List.setIfInBounds_toArray, List.set_cons_succ, List.set_cons_zero]
      refine factWalkR_cons (fun W hW hf K hK => ?_) (fun v8 => ?_)
      · skip
        have e7 : v7 = .pointer (some ⟨p, 1, none⟩) := hf 7 (by omega) (by kernel_rfl)
        subst e7
        have cp1 : W.cell? ⟨p, 1, none⟩ = some (.int .i64 (at_ : Nat)) := (P1.out.drew.fr hW.1 HPG.out).cell 1
        refine ⟨by kernel_rfl, ?_⟩
        gi_step
        exact hK _ _ (Gs.refl _) rfl
      simp only [Act.put, List.setIfInBounds_toArray, List.set_cons_succ, List.set_cons_zero]
      refine factWalkR_cons (fun W hW hf K hK => ?_) (fun v9 => ?_)
      · skip
        have e4 : v4 = .int .i64 ((i : Int) + 1) := hf 4 (by omega) (by kernel_rfl)
        have e8 : v8 = .int .i64 (at_ : Nat) := hf 8 (by omega) (by kernel_rfl)
        subst e4 e8
        have hwj : IntKind.i64.wrap ((i : Int) + 1 - (at_ : Int)) = (i : Int) + 1 - (at_ : Int) := IntWalk.i64_in _ HIB.out.2
        refine ⟨by kernel_rfl, ?_⟩
        gi_step
        exact hK _ _ (Gs.refl _) rfl
      simp only [Act.put, List.setIfInBounds_toArray, List.set_cons_succ, List.set_cons_zero]
      refine factWalkR_cons (fun W hW hf K hK => ?_) (fun v10 => ?_)
      · skip
        have e2 : v2 = .agg (tcs 2 acc 0 0) := hf 2 (by omega) (by kernel_rfl)
        subst e2
        obtain ⟨cs0, bz, hz⟩ := hW.2.1 _ Z0.out.drew rfl
        have hsto := run_storeAt_mid (P := Tryd.prog) W g 0 32 (tcs 2 acc 0 0) (by have h := bz.there; rw [hz] at h; exact h) S1.out HO1.out
        refine ⟨by kernel_rfl, ?_⟩
        refine operIn_store rfl _ _ _ rfl _ _ rfl rfl hsto ?_
        exact hK undef _ (Gs.store bz hz) (bz.setAll hz.symm)
      simp only [Act.put, List.setIfInBounds_toArray, List.set_cons_succ, List.set_cons_zero]
      refine factWalkR_cons (fun W hW hf K hK => ?_) (fun v11 => ?_)
      · skip
        have e9 : v9 = .int .i64 ((i : Int) + 1 - (at_ : Nat)) := hf 9 (by omega) (by kernel_rfl)
        subst e9
        refine ⟨by kernel_rfl, ?_⟩
        gi_step
        exact hK _ _ (Gs.refl _) rfl
      simp only [Act.put, List.setIfInBounds_toArray, List.set_cons_succ, List.set_cons_zero]
      refine factWalkR_cons (fun W hW hf K hK => ?_) (fun v12 => ?_)
      · skip
        refine ⟨by kernel_rfl, ?_⟩
        gi_step
        exact hK _ _ (Gs.refl _) rfl
      simp only [Act.put, List.setIfInBounds_toArray, List.set_cons_succ, List.set_cons_zero]
      refine factWalkR_nil (fun W hW hf => ?_)
      have b9 : Blk W g 32 (tcs 2 acc 0 0) := hf 10 (by omega)
      have e1 : v11 = .int .i64 ((i : Int) + 1 - (at_ : Nat)) := hf 11 (by omega)
      have e2 : v12 = .bool true := hf 12 (by omega)
      subst e1 e2
      have BM := Lib.hid b9
      have FW : Hid (Fr (fun q => q = g) w W) := Lib.hid ((F1.out.drew.mono (fun _ _ h => h.elim)).trans hW.1 (fun _ _ h => h))
      clear hf hW b9
      change wpAnyIn _ _ _ _ _ _ 0 _ _ _
      refine wpAnyIn_done (by kernel_rfl) ?_ _
      try simp only [Act.put, List.setIfInBounds_toArray, List.set_cons_succ, List.set_cons_zero]
      go_wp2_with fail
      refine bodyPost_ret (v := .tuple #[.agg (tcs 2 acc 0 0), .int .i64 ((i : Int) + 1 - (at_ : Nat)), .bool true]) (hres _ W g 32 _ _ _ _ rfl rfl rfl BM.out Tryd.underlying32 rfl S1.out) rfl ?_
      have hg := HG.out
      unfold TextQ
      rw [HYES.out]
      dsimp only
      refine ⟨?_, FW.out.mono (fun q hq e => by omega)⟩
      rw [show ((i : Int) + 1 - (at_ : Nat)) = ((i - at_ + 1 : Nat) : Int) by omega]
    have m1 : ((x : Int) == 34) = false := beq_eq_false_iff_ne.2 (by omega)
    by_cases h92 : x = 92
    case neg =>
      have m2 : ((x : Int) == 92) = false := beq_eq_false_iff_ne.2 (by omega)
      have HS : Hid (TxAt (s.drop (at_ + 1)) (acc ++ [b]) (i + 1 - (at_ + 1)) (s.drop (i + 1))) := Lib.hid (by
        have h1 := TxAt.step htx.out (HDR.out ▸ txt_o b (s.drop (i + 1)) (fun e => h34 (by rw [← HX.out, e]; rfl)) (fun e => h92 (by rw [← HX.out, e]; rfl)))
        rw [show i - (at_ + 1) + 1 = i + 1 - (at_ + 1) by omega] at h1
        exact h1)
      clear h34 h92
      have FA : Hid (Fr (fun _ => False) wr (wr.alloc (.cells #[.int .u8 (x : Int)] 5))) := Lib.hid ((Fr.refl _ wr).alloc _)
      have KO : Hid ((wr.alloc (.cells #[.int .u8 (x : Int)] 5)).ownsRow 0 5 1 (.slice A acc.length c) acc.length (bv acc)) := Lib.hid (own_fr ROW.out FA.out (fun _ _ h => h))
      go_upto_region 4 with (
        at_builtin
        refine wpList_app rfl (.tmp 78) (.tmp 80) _ _ rfl 0 5 b0 _ 1 1 Tryd.underlying56 HB0.out bz0 bz1 bz2 rfl (.slice A acc.length c) acc.length (bv acc) rfl KO.out _ 1 _ rfl (src_b (Blk.new wr _ _)) (by omega) (by unfold maxLen; omega) (Nat.zero_le _) ?_
        intro v7 W7 o7 f7 hn7
        obtain ⟨A7, c7, rfl, -, -⟩ := own_slice o7
        have O7 := Lib.hid o7
        have F7 := Lib.hid f7
        have N7 := Lib.hid hn7
        clear o7 f7 hn7)
      have hag : ∀ q, (Value.slice A acc.length c).ownBlock = some q → ¬ q = g ∧ ¬ q = p ∧ g < q := fun q hq => HOB.out q hq
      have hsz := F1.out.size
      refine abs_world (fun W => Hid (W.ownsRow 0 5 1 (.slice A7 (acc ++ [b]).length c7) (acc ++ [b]).length (bv (acc ++ [b]))) ∧ Hid (∀ q, (Value.slice A7 (acc ++ [b]).length c7).ownBlock = some q → ¬ q = g ∧ ¬ q = p ∧ g < q) ∧ Hid (Blk W g 32 (tcs 0 [] 0 0)) ∧ Hid (Blk W p 45 (xcs s at_)) ∧ Hid (Fr (fun _ => False) w W)) ⟨?_, ?_, (keepB Z0.out FA.out).fr F7.out (fun e => (hag g e).1 rfl), (keepB P1.out FA.out).fr F7.out (fun e => (hag p e).2.1 rfl), (F1.out.trans FA.out (fun _ _ h => h)).trans F7.out (fun q hq e => by have h1 := (hag q e).2.2; have h2 := HG.out; omega)⟩ ?_
      · have h7 := O7.out
        rw [List.length_append, bv_append]
        have hxb := HX.out
        show W7.ownsRow 0 5 1 (.slice A7 (acc.length + 1) c7) (acc.length + 1) (bv acc ++ [.int .u8 (b).toNat])
        rw [hxb]
        exact h7
      · intro q hq
        rw [List.length_append] at hq
        rcases N7.out with e | e
        · exact hag q (e ▸ hq)
        · rw [show acc.length + [b].length = acc.length + 1 from rfl, e] at hq
          injection hq with hq
          have h1 := Z0.out.lt
          have h2 := P1.out.lt
          have h3 := FA.out.size
          rw [World.size_alloc] at hq
          exact ⟨by omega, by omega, by omega⟩
      clear KO O7 F7 N7 hag ROW HOB Z0 P1 FA
      rintro W8 ⟨ROW, HOB, Z0, P1, F8⟩
      clear F1
      have hlen : (acc ++ [b]).length = acc.length + 1 := by simp
      go_wp2_with fail
      go_roundw
      case rel => exact ⟨A7, c7, i + 1, acc ++ [b], by omega, by omega, by rw [hlen]; omega, by rw [hlen], by go_num, HS.out, ROW.out, HOB.out, Z0.out, P1.out, F8.out⟩
      case measure => simp [intOf]; omega
    case pos =>
      have HB : Hid (b = 92) := Lib.hid (UInt8.toNat_inj.1 (by rw [HX.out, h92]; rfl))
      subst h92
      by_cases hlt2 : i + 1 < s.length
      case neg =>
        have e1 : ((i : Int) + 1 == (s.length : Int)) = true := beq_iff_eq.2 (by omega)
        have e1' : (i : Int) + 1 = (s.length : Int) := by omega
        have HNO : Hid (txt (s.drop (at_ + 1)) = none) := Lib.hid (by rw [show txt (s.drop (at_ + 1)) = _ from htx.out, HDR.out, HB.out, List.drop_eq_nil_of_le (show s.length ≤ i + 1 by omega)]; rfl)
        have S1 := Lib.hid (show (Tryd.prog.info? 32).map (·.size) = some (tcs 0 [] 0 0).size from tsize)
        have HO1 := Lib.hid (show (tcs 0 [] 0 0).all (·.oneCell') = true by simp [tcs, Value.oneCell'])
        go_wp2_with (refine wpList_store_blk rfl 32 _ _ rfl g (tcs 0 [] 0 0) rfl rfl Z0.out rfl S1.out HO1.out ?_
                     intro W9 q9 f9
                     have F9 := Lib.hid f9
                     have Q9 := Lib.hid q9
                     clear q9 f9)
        refine bodyPost_ret (v := .tuple #[.agg (tcs 0 [] 0 0), .int .i64 0, .bool false]) (hres _ W9 g 32 _ _ _ _ rfl rfl rfl Q9.out Tryd.underlying32 rfl S1.out) rfl ?_
        have hg := HG.out
        unfold TextQ
        rw [HNO.out]
        exact ⟨rfl, F1.out.trans F9.out (fun q hq e => by omega)⟩
      have e1 : ((i : Int) + 1 == (s.length : Int)) = false := beq_eq_false_iff_ne.2 (by omega)
      have e1' : ¬ ((i : Int) + 1 = (s.length : Int)) := by omega
      have hiy : ∀ W, (Instr.index 9 (.string (strOf s)) (.int .i64 ((i : Int) + 1))).run Tryd.prog W = .ok (.int .u8 ((s[i + 1]).toNat : Nat)) W := fun W => run_index_str W s (i + 1) hlt2
      have hdr2 := List.drop_eq_getElem_cons hlt2
      have hcl2 := u8_lt s[i + 1]
      obtain ⟨d, hd⟩ : ∃ d, s[i + 1] = d := ⟨_, rfl⟩
      rw [hd] at hiy hdr2 hcl2
      obtain ⟨y, hy⟩ : ∃ y, d.toNat = y := ⟨_, rfl⟩
      rw [hy] at hiy hcl2
      have HDR2 : Hid (s.drop i = 92 :: d :: s.drop (i + 2)) := Lib.hid (by rw [HDR.out, HB.out, hdr2])
      have HY := Lib.hid hy
      clear hd hdr2 hy
      by_cases hq : y = 34 ∨ y = 92
      case neg =>
        have m3 : ((y : Int) == 34) = false := beq_eq_false_iff_ne.2 (fun e => hq (.inl (by omega)))
        have m3' : ((y : Int) != 34) = true := bne_iff_ne.2 (fun e => hq (.inl (by omega)))
        have m4 : ((y : Int) == 92) = false := beq_eq_false_iff_ne.2 (fun e => hq (.inr (by omega)))
        have m4' : ((y : Int) != 92) = true := bne_iff_ne.2 (fun e => hq (.inr (by omega)))
        have HNO : Hid (txt (s.drop (at_ + 1)) = none) := Lib.hid (by rw [show txt (s.drop (at_ + 1)) = _ from htx.out, HDR2.out, txt_bn d _ (fun e => hq (by rcases e with rfl | rfl; exact .inl HY.out.symm; exact .inr HY.out.symm))]; rfl)
        clear hq
        have S1 := Lib.hid (show (Tryd.prog.info? 32).map (·.size) = some (tcs 0 [] 0 0).size from tsize)
        have HO1 := Lib.hid (show (tcs 0 [] 0 0).all (·.oneCell') = true by simp [tcs, Value.oneCell'])
        go_wp2_with (refine wpList_store_blk rfl 32 _ _ rfl g (tcs 0 [] 0 0) rfl rfl Z0.out rfl S1.out HO1.out ?_
                     intro W9 q9 f9
                     have F9 := Lib.hid f9
                     have Q9 := Lib.hid q9
                     clear q9 f9)
        refine bodyPost_ret (v := .tuple #[.agg (tcs 0 [] 0 0), .int .i64 0, .bool false]) (hres _ W9 g 32 _ _ _ _ rfl rfl rfl Q9.out Tryd.underlying32 rfl S1.out) rfl ?_
        have hg := HG.out
        unfold TextQ
        rw [HNO.out]
        exact ⟨rfl, F1.out.trans F9.out (fun q hq e => by omega)⟩
      case pos =>
        have HS : Hid (TxAt (s.drop (at_ + 1)) (acc ++ [d]) (i + 2 - (at_ + 1)) (s.drop (i + 2))) := Lib.hid (by
          have h1 := TxAt.step htx.out (HDR2.out ▸ txt_b d (s.drop (i + 2)) (by
            rcases hq with e | e
            · exact .inl (UInt8.toNat_inj.1 (by rw [HY.out, e]; rfl))
            · exact .inr (UInt8.toNat_inj.1 (by rw [HY.out, e]; rfl))))
          rw [show i - (at_ + 1) + 2 = i + 2 - (at_ + 1) by omega] at h1
          exact h1)
        rcases hq with rfl | rfl
        · skip
          have FA : Hid (Fr (fun _ => False) wr (wr.alloc (.cells #[.int .u8 (34 : Int)] 5))) := Lib.hid ((Fr.refl _ wr).alloc _)
          have KO : Hid ((wr.alloc (.cells #[.int .u8 (34 : Int)] 5)).ownsRow 0 5 1 (.slice A acc.length c) acc.length (bv acc)) := Lib.hid (own_fr ROW.out FA.out (fun _ _ h => h))
          go_upto_region 4 with (
            at_builtin
            refine wpList_app rfl (.tmp 78) (.tmp 80) _ _ rfl 0 5 b0 _ 1 1 Tryd.underlying56 HB0.out bz0 bz1 bz2 rfl (.slice A acc.length c) acc.length (bv acc) rfl KO.out _ 1 _ rfl (src_b (Blk.new wr _ _)) (by omega) (by unfold maxLen; omega) (Nat.zero_le _) ?_
            intro v7 W7 o7 f7 hn7
            obtain ⟨A7, c7, rfl, -, -⟩ := own_slice o7
            have O7 := Lib.hid o7
            have F7 := Lib.hid f7
            have N7 := Lib.hid hn7
            clear o7 f7 hn7)
          have hag : ∀ q, (Value.slice A acc.length c).ownBlock = some q → ¬ q = g ∧ ¬ q = p ∧ g < q := fun q hq => HOB.out q hq
          have hsz := F1.out.size
          refine abs_world (fun W => Hid (W.ownsRow 0 5 1 (.slice A7 (acc ++ [d]).length c7) (acc ++ [d]).length (bv (acc ++ [d]))) ∧ Hid (∀ q, (Value.slice A7 (acc ++ [d]).length c7).ownBlock = some q → ¬ q = g ∧ ¬ q = p ∧ g < q) ∧ Hid (Blk W g 32 (tcs 0 [] 0 0)) ∧ Hid (Blk W p 45 (xcs s at_)) ∧ Hid (Fr (fun _ => False) w W)) ⟨?_, ?_, (keepB Z0.out FA.out).fr F7.out (fun e => (hag g e).1 rfl), (keepB P1.out FA.out).fr F7.out (fun e => (hag p e).2.1 rfl), (F1.out.trans FA.out (fun _ _ h => h)).trans F7.out (fun q hq e => by have h1 := (hag q e).2.2; have h2 := HG.out; omega)⟩ ?_
          · have h7 := O7.out
            rw [List.length_append, bv_append]
            have hxb := HY.out
            show W7.ownsRow 0 5 1 (.slice A7 (acc.length + 1) c7) (acc.length + 1) (bv acc ++ [.int .u8 (d).toNat])
            rw [hxb]
            exact h7
          · intro q hq
            rw [List.length_append] at hq
            rcases N7.out with e | e
            · exact hag q (e ▸ hq)
            · rw [show acc.length + [d].length = acc.length + 1 from rfl, e] at hq
              injection hq with hq
              have h1 := Z0.out.lt
              have h2 := P1.out.lt
              have h3 := FA.out.size
              rw [World.size_alloc] at hq
              exact ⟨by omega, by omega, by omega⟩
          clear KO O7 F7 N7 hag ROW HOB Z0 P1 FA
          rintro W8 ⟨ROW, HOB, Z0, P1, F8⟩
          clear F1
          have hlen : (acc ++ [d]).length = acc.length + 1 := by simp
          go_wp2_with fail
          go_roundw
          case rel => exact ⟨A7, c7, i + 2, acc ++ [d], by omega, by omega, by rw [hlen]; omega, by rw [hlen], by go_num, HS.out, ROW.out, HOB.out, Z0.out, P1.out, F8.out⟩
          case measure => simp [intOf]; omega
        · skip
          have FA : Hid (Fr (fun _ => False) wr (wr.alloc (.cells #[.int .u8 (92 : Int)] 5))) := Lib.hid ((Fr.refl _ wr).alloc _)
          have KO : Hid ((wr.alloc (.cells #[.int .u8 (92 : Int)] 5)).ownsRow 0 5 1 (.slice A acc.length c) acc.length (bv acc)) := Lib.hid (own_fr ROW.out FA.out (fun _ _ h => h))
          go_upto_region 4 with (
            at_builtin
            refine wpList_app rfl (.tmp 78) (.tmp 80) _ _ rfl 0 5 b0 _ 1 1 Tryd.underlying56 HB0.out bz0 bz1 bz2 rfl (.slice A acc.length c) acc.length (bv acc) rfl KO.out _ 1 _ rfl (src_b (Blk.new wr _ _)) (by omega) (by unfold maxLen; omega) (Nat.zero_le _) ?_
            intro v7 W7 o7 f7 hn7
            obtain ⟨A7, c7, rfl, -, -⟩ := own_slice o7
            have O7 := Lib.hid o7
            have F7 := Lib.hid f7
            have N7 := Lib.hid hn7
            clear o7 f7 hn7)
          have hag : ∀ q, (Value.slice A acc.length c).ownBlock = some q → ¬ q = g ∧ ¬ q = p ∧ g < q := fun q hq => HOB.out q hq
          have hsz := F1.out.size
          refine abs_world (fun W => Hid (W.ownsRow 0 5 1 (.slice A7 (acc ++ [d]).length c7) (acc ++ [d]).length (bv (acc ++ [d]))) ∧ Hid (∀ q, (Value.slice A7 (acc ++ [d]).length c7).ownBlock = some q → ¬ q = g ∧ ¬ q = p ∧ g < q) ∧ Hid (Blk W g 32 (tcs 0 [] 0 0)) ∧ Hid (Blk W p 45 (xcs s at_)) ∧ Hid (Fr (fun _ => False) w W)) ⟨?_, ?_, (keepB Z0.out FA.out).fr F7.out (fun e => (hag g e).1 rfl), (keepB P1.out FA.out).fr F7.out (fun e => (hag p e).2.1 rfl), (F1.out.trans FA.out (fun _ _ h => h)).trans F7.out (fun q hq e => by have h1 := (hag q e).2.2; have h2 := HG.out; omega)⟩ ?_
          · have h7 := O7.out
            rw [List.length_append, bv_append]
            have hxb := HY.out
            show W7.ownsRow 0 5 1 (.slice A7 (acc.length + 1) c7) (acc.length + 1) (bv acc ++ [.int .u8 (d).toNat])
            rw [hxb]
            exact h7
          · intro q hq
            rw [List.length_append] at hq
            rcases N7.out with e | e
            · exact hag q (e ▸ hq)
            · rw [show acc.length + [d].length = acc.length + 1 from rfl, e] at hq
              injection hq with hq
              have h1 := Z0.out.lt
              have h2 := P1.out.lt
              have h3 := FA.out.size
              rw [World.size_alloc] at hq
              exact ⟨by omega, by omega, by omega⟩
          clear KO O7 F7 N7 hag ROW HOB Z0 P1 FA
          rintro W8 ⟨ROW, HOB, Z0, P1, F8⟩
          clear F1
          have hlen : (acc ++ [d]).length = acc.length + 1 := by simp
          go_wp2_with fail
          go_roundw
          case rel => exact ⟨A7, c7, i + 2, acc ++ [d], by omega, by omega, by rw [hlen]; omega, by rw [hlen], by go_num, HS.out, ROW.out, HOB.out, Z0.out, P1.out, F8.out⟩
          case measure => simp [intOf]; omega

end Go.Proofs.YtimopkmlcjdgfaaDoor
