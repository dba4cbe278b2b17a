/-
  THE LAW RevOne, WALKED. Written by gen_one.py.
-/
import Derived.Test.YtjaocgmicdnghaaDoorMk
import Derived.Test.YtjaocgmicdnghaaDoorPar4
import Derived.Test.YtjaocgmicdnghaaDoorAwk
import Derived.Test.YtjaocgmicdnghaaDoorVaLong
import Derived.Test.YtjaocgmicdnghaaDoorVaSm2
namespace Go.Proofs.YtjaocgmicdnghaaDoor
set_option linter.unusedSimpArgs false
set_option linter.unusedVariables false
open Go Go.RowKit Go.Shelf
attribute [local go_sem] Oper.semAt_some

theorem operIn_loadL {F : Fence} {n : Nat} {P : Program} {o : Oper} {a : Act} {w : World} {K : Act → World → Prop} {Q : Exit → Act → World → Prop} (ty : TypeId) (d : Operand) (hop : o.op = Op.load ty d)
    (v : Value) (hd : a.eval d = v) {z : Value} (hr : (Instr.loadAt ty v).run P w = .ok z w) (hK : K (a.put o.dst z) w) : Oper.wpIn F n P o a w K Q := by
  refine ⟨fun f hf => ?_, ?_⟩
  · simp [Oper.about, hop] at hf
  · simp [Oper.semAt, execOp, hop, hd, hr, Result.andThen, Oper.uponIn]
    exact hK
def Gr (B : Nat) (M : Array Value) (W W' : World) : Prop := Fr (fun q => B ≤ q) W W' ∧ (∀ q t cs, Blk W q t cs → ∃ cs', Blk W' q t cs' ∧ cs'.size = cs.size) ∧ ∀ q, Blk W q 25 M → Blk W' q 25 M
theorem Gr.refl (B : Nat) (M : Array Value) (W : World) : Gr B M W W := ⟨Fr.refl _ _, fun q t cs h => ⟨cs, h, rfl⟩, fun q h => h⟩
theorem Gr.trans {B : Nat} {M : Array Value} {a b c : World} (h : Gr B M a b) (k : Gr B M b c) : Gr B M a c :=
  ⟨h.1.trans k.1 (fun _ _ h => h), fun q t cs hb => by obtain ⟨c1, h1, e1⟩ := h.2.1 q t cs hb; obtain ⟨c2, h2, e2⟩ := k.2.1 q t c1 h1; exact ⟨c2, h2, e2.trans e1⟩, fun q hb => k.2.2 q (h.2.2 q hb)⟩
theorem Gr.of {B : Nat} {M : Array Value} {W W' : World} (h : Fr (fun _ => False) W W') : Gr B M W W' := ⟨h.mono (fun _ _ h => h.elim), fun q t cs b => ⟨cs, b.fr h (fun h => h), rfl⟩, fun q b => b.fr h (fun h => h)⟩
theorem Gr.store {B g : Nat} {M : Array Value} {W W' : World} {cs : Array Value} (hg : B ≤ g) (hb : Blk W g 25 cs) (hs : cs.size = M.size) (h : Fr (fun k => k = g) W W') (hn : Blk W' g 25 M) : Gr B M W W' := by
  refine ⟨h.mono (fun _ _ h => by omega), fun q t cs2 b => ?_, fun q b => ?_⟩
  · by_cases hq : q = g
    · subst hq
      have e : some (Obj.cells cs2 t (0, 0)) = some (Obj.cells cs 25 (0, 0)) := b.symm.trans hb
      injection e with e
      injection e with e1 e2
      subst e1 e2
      exact ⟨_, hn, hs.symm⟩
    · exact ⟨_, b.fr h hq, rfl⟩
  · by_cases hq : q = g
    · subst hq; exact hn
    · exact b.fr h hq
theorem operIn_storeL {F : Fence} {n : Nat} {P : Program} {o : Oper} {a : Act} {w : World} {K : Act → World → Prop} {Q : Exit → Act → World → Prop} (hg : o.guard = none) (ty : TypeId) (d x : Operand) (hop : o.op = Op.store ty d x)
    (v u : Value) (hd : a.eval d = v) (hx : a.eval x = u) {w' : World} (hr : (Instr.storeAt ty v u).run P w = .ok () w') (hK : K (a.put o.dst undef) w') : Oper.wpIn F n P o a w K Q := by
  have h := stepIn_store (E := False) (ops := #[]) (F := F) (n := n) (Q := Q) hg ty d x hop v u hd hx hr hK
  have hw : Region.wanted o (yielded #[] a.tmps) = true := by simp [Region.wanted, hg]
  rwa [if_pos hw] at h
theorem LaidOk.ge {w w' : World} {lo : Nat} (h : LaidOk w) (hf : Fr (fun q => lo ≤ q) w w') (hlo : 8 ≤ lo) : LaidOk w' := by
  have c : ∀ {p : Addr} {v : Value}, p.block < 8 → w.cell? p = some v → w'.cell? p = some v := fun {p v} hp hv => by
    rw [hf.cell (World.block_lt_of_cell? w _ hv) (fun h => by have h2 : lo ≤ p.block := h; omega)]
    exact hv
  exact ⟨⟨fun k hk => c (of_decide_eq_true (by kernel_rfl)) (h.tabs.i k hk), fun k hk => c (of_decide_eq_true (by kernel_rfl)) (h.tabs.o k hk)⟩, V1.tab_fr V1.pow10G h.pow (frV hf) (fun h => by have h2 : lo ≤ 1 := h; omega),
    let ⟨m, hm⟩ := h.max; ⟨m, c (of_decide_eq_true (by kernel_rfl)) hm⟩, let ⟨t, p, hp⟩ := h.syn; ⟨t, p, c (of_decide_eq_true (by kernel_rfl)) hp⟩, let ⟨t, p, hp⟩ := h.rng; ⟨t, p, c (of_decide_eq_true (by kernel_rfl)) hp⟩⟩
theorem src_own {P : Program} {w : World} {base : Nat} {e tx e' : TypeId} {A : Option Addr} {n c size : Nat} {xs : List Value} (hk : P.underlying tx = some (.slice e')) (h : w.ownsRow base e size (.slice A n c) n xs) (h1 : ∀ u ∈ xs, u.oneCell' = true) : Src P size tx (.slice A n c) n xs w := by
  have hl := h.1
  rcases h.2 with ⟨e1, e2⟩ | ⟨g, cap, cur, e1, _, _, _⟩
  · subst e2
    injection e1 with e1 _ _
    subst e1
    obtain rfl : xs = [] := List.eq_nil_of_length_eq_zero (by omega)
    exact Src.ofNil w hk c
  · injection e1 with e1 e2 e3
    subst e1
    exact Src.ofSlice w hk ⟨g, 0, none⟩ n c xs hl (fun j u hu => h.cells (g := g) rfl j u hu) h1
theorem wpList_bs1 {P : Program} {ops : Array Oper} {rest : List Oper} {op : Oper} {a : Act} {w w' : World} {Q : Exit → Act → World → Prop} (hgd : op.guard = none) (ty : TypeId) (n i : Nat) (x : Operand) (ho : op.op = .buildSlice ty n #[(i, x)])
    (u z : Value) (hx : a.eval x = u) (hr : (Instr.buildSlice ty n #[(i, u)]).run P w = .ok z w')
    (h : wpList P ops Q rest (a.put op.dst z) w') : wpList P ops Q (op :: rest) a w :=
  wpList_plain hgd fun K hK => by
    unfold Oper.wp execOp
    simp only [ho, List.map_toArray, List.map_cons, List.map_nil, hx, Sem.run_bind, hr, Result.andThen_ok, Sem.run_pure]
    exact hK _ _ h
theorem own_rd17 {w : World} {base : Nat} {e : TypeId} {A : Option Addr} {n c : Nat} {xs : List Value} (h : w.ownsRow base e 17 (.slice A n c) n xs) : Rd w A (n * 17) xs := by
  refine ⟨h.1, fun hn => ?_⟩
  obtain ⟨g, cap, hv, _, hlt⟩ := h.form (by omega)
  have hA : A = some ⟨g, 0, none⟩ := by injection hv
  subst hA
  exact ⟨_, rfl, h.cells (g := g) rfl⟩
def BD (A : Option Addr) (n : Nat) (w : World) : Prop := ∀ i, i < n → ∃ (b off : Nat) (C : Array Value) (v : V1.V) (D : Nat → Prop), A = some ⟨b, off, none⟩ ∧ w.rangeAt b (off + i * 5) C.toList ∧ V1.RdV D w C v
theorem BD.far {A : Option Addr} {n : Nat} {w w' : World} (h : BD A n w) (hf : Fr (fun _ => False) w w') : BD A n w' := fun i hi => by
  obtain ⟨b, off, C, v, D, h1, h2, h3⟩ := h i hi
  exact ⟨b, off, C, v, D, h1, V1.rng_far h2 (frV hf), h3.far (frV hf)⟩
/-- What came to be stands in a row, the last one first. -/
structure Desc (g : Nat) (s : List UInt8) (l : List Nm) : Prop where
  ok : ∀ x ∈ l, NmOk x
  lk : ∀ j, j < l.length → lk l j = true
  hd : ∀ x, l.head? = some x → x = (g, s)
theorem Desc.cons {g : Nat} {s q : List UInt8} {l : List Nm} (h : Desc g s l) (hm : mayG (g + 1) = true) (hg : g + 1 < 18446744073709551616) (hq : q.length = 16) : Desc (g + 1) q ((g + 1, q) :: l) := by
  refine ⟨fun x hx => ?_, fun j hj => ?_, fun x hx => ?_⟩
  · rcases List.mem_cons.1 hx with rfl | hx
    · exact ⟨hq, hg⟩
    · exact h.ok x hx
  · unfold Go.Proofs.YtjaocgmicdnghaaDoor.lk
    cases j with
    | zero => simpa using hm
    | succ j =>
      have hj' : j < l.length := by simpa using hj
      have h1 := h.lk j hj'
      unfold Go.Proofs.YtjaocgmicdnghaaDoor.lk at h1
      simp only [Bool.and_eq_true, Bool.or_eq_true, decide_eq_true_eq] at h1
      simp only [List.getD_cons_succ, Nat.add_sub_cancel, Bool.and_eq_true, Bool.or_eq_true, decide_eq_true_eq]
      refine ⟨h1.1, .inr ?_⟩
      cases j with
      | zero =>
        cases l with
        | nil => simp at hj'
        | cons y l =>
          have := h.hd y rfl
          subst this
          rfl
      | succ j =>
        rcases h1.2 with h2 | h2
        · cases h2
        · simpa using h2
  · simpa using hx.symm
theorem makeR_cases (g : Nat) (s : List UInt8) (dl : Int) (ok : Bool) (T : List UInt8) : (∃ c : Int, c ≠ 0 ∧ makeR g s dl ok T = ((0, zN), c)) ∨ (∃ q, q.length = 16 ∧ makeR g s dl ok T = ((g + 1, q), 0) ∧ mayG (g + 1) = true ∧ g + 1 < 4611686018427387904) := by
  unfold makeR
  by_cases hb : badM g s dl ok = true
  · rw [if_pos hb]; exact .inl ⟨1, by decide, rfl⟩
  · rw [if_neg hb]
    by_cases hg : g = 4611686018427387903
    · rw [if_pos hg]; exact .inl ⟨11, by decide, rfl⟩
    · rw [if_neg hg]
      have hgm : mayG g = true ∨ g = 0 := by
        unfold badM at hb
        by_cases h1 : mayG g = true
        · exact .inl h1
        · have h2 : decide (g = 0 ∧ s = zN) = true := by simp_all
          exact .inr (of_decide_eq_true h2).1
      have hlt : g + 1 < 4611686018427387904 := by
        rcases hgm with h | h
        · unfold mayG at h
          simp only [Bool.and_eq_true, decide_eq_true_eq] at h
          omega
        · omega
      refine .inr ⟨_, nameQ_len dl g s T, rfl, ?_, hlt⟩
      unfold mayG
      simp only [Bool.and_eq_true, decide_eq_true_eq]
      omega
theorem run_slice1 (g : Nat) (q : List UInt8) (h : q.length = 16) (W : World) : (Instr.buildSlice 37 1 #[(0, .agg (rc g q).toArray)]).run Tryd.prog W = .ok (.slice (some ⟨W.heap.size, 0, none⟩) 1 1) (W.alloc (.cells (rc g q).toArray 25)) := by
  obtain ⟨a0, a1, a2, a3, a4, a5, a6, a7, a8, a9, a10, a11, a12, a13, a14, a15, rfl⟩ := len16 h
  kernel_rfl
theorem rev_info1 : (Tryd.prog.info? 25).map (fun i => (i.zero, i.size, i.bytes)) = some (some (.agg (rc 0 zN).toArray), 17, 24) := by kernel_rfl
theorem own_rev1 (w : World) (g : Nat) (q : List UInt8) (h : q.length = 16) : (w.alloc (.cells (rc g q).toArray 25)).ownsRow 0 25 17 (.slice (some ⟨w.heap.size, 0, none⟩) 1 1) 1 (rc g q) :=
  ⟨by rw [rc_len h], .inr ⟨w.heap.size, 1, (rc g q).toArray, rfl, Nat.zero_le _, heap_alloc_new w _, Nat.le_refl _, by unfold maxLen; omega, by simp [rc_len h], by simp [List.take_of_length_le (Nat.le_of_eq (rc_len h))]⟩⟩
theorem rcs_one {l : List Nm} : ∀ u ∈ rcs l, u.oneCell' = true := by
  intro u hu
  unfold rcs at hu
  obtain ⟨x, _, hx⟩ := List.mem_flatMap.1 hu
  exact rc_one x.1 x.2 u hx
def onR (lo bA g : Nat) (s : List UInt8) (d : Int) (bb off N cap p9 : Nat) (C : Array Value) (r1 : Nat) (r2 : List UInt8) (ce : Int) (q : Nat) (val : Nat → Value) (W : World) : Prop := match q with
  | 0 => val 0 = .agg (rc g s).toArray
  | 1 => val 1 = .int .i64 d
  | 2 => val 2 = .slice (some ⟨bb, off, none⟩) N cap
  | 3 => val 3 = .int .i64 (p9 : Nat)
  | 4 => val 4 = .pointer (some ⟨bb, off + p9 * 5, none⟩)
  | 5 => val 5 = .agg C
  | 6 => val 6 = .tuple #[.agg (rc r1 r2).toArray, .int .i64 ce]
  | 7 => val 7 = .tuple #[.agg (rc r1 r2).toArray, .int .i64 ce]
  | 8 => val 8 = .agg (rc r1 r2).toArray
  | 9 => val 9 = .int .i64 ce
  | 10 => ∃ xb, val 10 = .pointer (some ⟨xb, 0, none⟩) ∧ lo ≤ xb ∧ ∃ cs, Blk W xb 25 cs ∧ cs.size = 17
  | 11 => ∃ xb, val 10 = .pointer (some ⟨xb, 0, none⟩) ∧ lo ≤ xb ∧ Blk W xb 25 (rc r1 r2).toArray
  | 12 => val 12 = .int .i64 ce
  | _ => True
theorem onR_far {lo bA g : Nat} {s : List UInt8} {d : Int} {bb off N cap p9 : Nat} {C : Array Value} {r1 : Nat} {r2 : List UInt8} {ce : Int} (q : Nat) (val val' : Nat → Value) (W W' : World) (he : ∀ j, j = q ∨ Anc [0, 0, 0, 0, 12, 28, 63, 127, 255, 255, 0, 1535, 4095] q j = true → val j = val' j) (hg : Gr lo (rc r1 r2).toArray W W') (h : onR lo bA g s d bb off N cap p9 C r1 r2 ce q val W) : onR lo bA g s d bb off N cap p9 C r1 r2 ce q val' W' := by
  match q with
  | 0 => exact (he 0 (.inl rfl)).symm.trans h
  | 1 => exact (he 1 (.inl rfl)).symm.trans h
  | 2 => exact (he 2 (.inl rfl)).symm.trans h
  | 3 => exact (he 3 (.inl rfl)).symm.trans h
  | 4 => exact (he 4 (.inl rfl)).symm.trans h
  | 5 => exact (he 5 (.inl rfl)).symm.trans h
  | 6 => exact (he 6 (.inl rfl)).symm.trans h
  | 7 => exact (he 7 (.inl rfl)).symm.trans h
  | 8 => exact (he 8 (.inl rfl)).symm.trans h
  | 9 => exact (he 9 (.inl rfl)).symm.trans h
  | 10 => (obtain ⟨xb, h1, h2, cs, h3, h4⟩ := h; obtain ⟨cs2, h5, h6⟩ := hg.2.1 _ _ _ h3; exact ⟨xb, (he 10 (.inl rfl)).symm.trans h1, h2, cs2, h5, h6.trans h4⟩)
  | 11 => (obtain ⟨xb, h1, h2, h3⟩ := h; exact ⟨xb, (he 10 (.inr (by kernel_rfl))).symm.trans h1, h2, hg.2.2 _ h3⟩)
  | 12 => exact (he 12 (.inl rfl)).symm.trans h
  | (n + 13) => exact trivial

set_option maxRecDepth 100000 in
set_option maxHeartbeats 8000000 in
theorem revOne_c (w : World) (g0 : Nat) (s0 : List UInt8) (A : Option Addr) (n cap : Nat) (dl : Int) (hs0 : s0.length = 16) (hg0 : g0 < 18446744073709551616) (hd0 : -9223372036854775808 ≤ dl) (hd1 : dl ≤ 9223372036854775807) (hB : BD A n w) (hn : n ≤ 140737488355328) (hL : LaidOk w) (h8 : 8 ≤ w.heap.size) :
    Calls Tryd.prog 6 #[.agg (rc g0 s0).toArray, .slice A n cap, .int .i64 dl] w fun e w' => e = .returned (.bool true) ∧ Fr (fun _ => False) w w' := by
  have HBD := Lib.hid hB
  have HL := Lib.hid hL
  have H8 := Lib.hid h8
  have HS0 := Lib.hid hs0
  have HG0 := Lib.hid hg0
  have HAW := Lib.hid (fun (W : World) (hW : Fr (fun _ => False) w W) => awake_c W (hL.far hW))
  have HLN0 := Lib.hid (show (Tryd.prog.info? 25).map (·.size) = some (rc g0 s0).length by rw [rc_len hs0]; kernel_rfl)
  clear hB hL h8 hs0 hg0
  go_enter Tryd.func6, Tryd.ntmps6
  go_upto_region 1 with fail
  refine abs_world (fun W => Hid (Blk W w.heap.size 25 (rc g0 s0).toArray) ∧ Hid (Fr (fun _ => False) w W)) ⟨Blk.new w _ _, (Fr.refl _ w).alloc _⟩ ?_
  rintro W1 ⟨B0, FA⟩
  obtain ⟨b0, hb0⟩ : ∃ b, w.heap.size = b := ⟨_, rfl⟩
  rw [hb0] at B0 ⊢
  have HB0 := Lib.hid hb0
  clear hb0
  by_cases hn20 : n ≤ 20
  case neg =>
    have d1 : decide (20 < (n : Int)) = true := decide_eq_true (by omega)
    have d1' : decide (20 < n) = true := decide_eq_true (by omega)
    clear hn20
    go_wp2_with fail
    refine (HAW.out _ FA.out).mono ?_
    rintro e wa ⟨rfl, fa⟩
    have FB := Lib.hid (FA.out.trans fa (fun _ _ h => h))
    clear fa
    go_wp2_with fail
    go_ret
    exact ⟨rfl, FB.out⟩
  have d1 : decide (20 < (n : Int)) = false := decide_eq_false (by omega)
  have d1' : decide (20 < n) = false := decide_eq_false (by omega)
  have RG0 := Lib.hid B0.out.rng
  have BN := Blk.new W1 25 (rc 0 zN).toArray
  have HSZ := Lib.hid (tRev_size (g := g0) (s := s0) HS0.out)
  have HTH : Hid ((W1.alloc (.cells (rc 0 zN).toArray 25)).there W1.heap.size 0 (rc g0 s0).toArray.size) := by show World.there _ _ _ _; rw [show (rc g0 s0).toArray.size = 17 from by rw [List.size_toArray, rc_len HS0.out]]; exact BN.there
  have HST := Lib.hid (BN.setAll (ds := (rc g0 s0).toArray) (by rw [List.size_toArray, List.size_toArray, rc_len HS0.out]; rfl))
  have FST : Hid (Fr (fun _ => False) w ((W1.alloc (.cells (rc 0 zN).toArray 25)).setCells W1.heap.size 0 (rc g0 s0).toArray.toList)) := Lib.hid ((FA.out.alloc (.cells (rc 0 zN).toArray 25)).trans (Fr.setCells (fp := fun k => k = W1.heap.size) (a := W1.alloc (.cells (rc 0 zN).toArray 25)) (g := W1.heap.size) (fun _ => rfl) (rc g0 s0) 0 (W1.alloc (.cells (rc 0 zN).toArray 25)) (Fr.refl _ _)) (fun k hk e => by have := FA.out.size; omega))
  have HAB : Hid (w.heap.size ≤ W1.heap.size) := Lib.hid FA.out.size
  clear BN
  go_upto_region 6 with (first
    | refine wpList_load_g rfl 25 _ rfl b0 0 rfl (rc g0 s0) _ RG0.out Tryd.underlying25 rfl HLN0.out ?_
    | (refine wpList_store_mid rfl 25 _ _ rfl W1.heap.size 0 (rc g0 s0).toArray rfl rfl HTH.out HSZ.out (rc_all g0 s0) ?_
       refine abs_list (fun W => Hid (Blk W W1.heap.size 25 (rc g0 s0).toArray) ∧ Hid (Fr (fun _ => False) w W)) ⟨HST.out, FST.out⟩ ?_
       rintro W2 ⟨BA, FC⟩
       obtain ⟨bA, hx⟩ : ∃ x, W1.heap.size = x := ⟨_, rfl⟩
       rw [hx] at BA HAB ⊢
       clear hx HSZ HTH HST FST RG0 B0 FA))
  clear d1 d1'
  go_loopw [8, 9] (fun lv iv wr => ∃ (i : Nat) (K : Option Addr) (kc g : Nat) (s : List UInt8) (l : List Nm), i ≤ n ∧ iv = .int .i64 (i : Int) ∧ lv = .slice K i kc ∧ Hid (l.length = i) ∧ Hid (wr.ownsRow 0 25 17 (.slice K i kc) i (rcs l)) ∧ Hid (∀ q, (Value.slice K i kc).ownBlock = some q → w.heap.size ≤ q) ∧ Hid (Blk wr bA 25 (rc g s).toArray) ∧ Hid (s.length = 16 ∧ g < 18446744073709551616) ∧ Hid (Desc g s l) ∧ Hid (Fr (fun _ => False) w wr)) (fun _ iv _ => n - (intOf iv).toNat)
  case atStart => exact ⟨0, none, 0, g0, s0, [], Nat.zero_le _, rfl, rfl, rfl, World.ownsRow_nil _ _ _ _, fun q h => by simp [Value.ownBlock] at h, BA.out, ⟨HS0.out, HG0.out⟩, ⟨(fun _ h => by cases h), (fun j h => by simp at h), (fun x h => by simp at h)⟩, FC.out⟩
  case round =>
    obtain ⟨i, K, kc, g, s, l, hi, rfl, rfl, hlen, ho, hob, hba, hsg, hde, hfr⟩ := hrel
    by_cases hlt : i < n
    case neg =>
      obtain rfl : i = n := by omega
      have dl1 : decide ((i : Int) < (i : Int)) = false := decide_eq_false (by omega)
      have dl1' : decide (i < i) = false := decide_eq_false (by omega)
      have hch : chL l = (decide (1 ≤ i) && decide (i ≤ 16)) := by rw [chL_true hde.out.lk, hlen.out]
      have CHN := Lib.hid (hlen.out ▸ chain_c wr K kc l hde.out.ok (by rw [hlen.out]; exact own_rd17 ho.out) (by rw [hlen.out]; omega))
      rw [hch] at CHN
      have FA := hfr
      obtain ⟨c1, hc1⟩ : ∃ c, decide (1 ≤ i) = c := ⟨_, rfl⟩
      obtain ⟨c2, hc2⟩ : ∃ c, decide (i ≤ 16) = c := ⟨_, rfl⟩
      rw [hc1, hc2] at CHN
      have e1 : decide ((0 : Int) < (i : Int)) = c1 := by rw [← hc1, decide_eq_decide]; omega
      have e1' : decide (0 < i) = c1 := by rw [← hc1, decide_eq_decide]; omega
      have e2 : decide ((i : Int) ≤ 16) = c2 := by rw [← hc2, decide_eq_decide]; omega
      clear hch hlen ho hob hba hsg hde
      cases c1 <;> cases c2 <;>
      · go_wp2_with fail
        refine CHN.out.mono ?_
        rintro e W5 ⟨rfl, f5⟩
        have FA := Lib.hid (FA.out.trans f5 (fun _ _ h => h))
        clear f5
        go_wp2_with fail
        refine (HAW.out _ FA.out).mono ?_
        rintro e wa ⟨rfl, fa⟩
        have FB := Lib.hid (FA.out.trans fa (fun _ _ h => h))
        clear fa
        go_wp2_with fail
        go_ret
        exact ⟨rfl, FB.out⟩
    have dl1 : decide ((i : Int) < (n : Int)) = true := decide_eq_true (by omega)
    have dl1' : decide (i < n) = true := decide_eq_true hlt
    obtain ⟨bb, off, C, v, D, hA, hrg, hrv⟩ := (HBD.out.far hfr.out) i hlt
    subst hA
    have RGC := Lib.hid (fun (W : World) (hW : Fr (fun _ => False) wr W) => V1.rng_far hrg (frV hW))
    have RGC0 := Lib.hid hrg
    have HRV := Lib.hid (fun (W : World) (hW : Fr (fun _ => False) wr W) => hrv.far (frV hW))
    have HSC := Lib.hid (V1.szV hrv)
    have LONG := Lib.hid (V1.Long_c v wr D C hrv)
    have q1 : (0 : Int) ≤ (i : Int) := by omega
    have q2 : (i : Int) < (n : Int) := by omega
    clear hrg hrv
    cases hlg : decide (4000 < V1.partsV v 20) with
    | true =>
      rw [hlg] at LONG
      clear hlg
      go_wp2_with (refine V1.wpList_load_val rfl 45 _ rfl bb _ rfl C RGC0.out _ Tryd.underlying45 rfl HSC.out ?_)
      refine LONG.out.mono ?_
      rintro e W5 ⟨rfl, f5⟩
      have FA := Lib.hid (hfr.out.trans (frU f5) (fun _ _ h => h))
      clear f5
      go_wp2_with fail
      refine (HAW.out _ FA.out).mono ?_
      rintro e wa ⟨rfl, fa⟩
      have FB := Lib.hid (FA.out.trans fa (fun _ _ h => h))
      clear fa
      go_wp2_with fail
      go_ret
      exact ⟨rfl, FB.out⟩
    | false =>
    rw [hlg] at LONG
    have HSM := Lib.hid (V1.sm_of_not_long hlg)
    clear hlg
    go_wp2_with (refine V1.wpList_load_val rfl 45 _ rfl bb _ rfl C RGC0.out _ Tryd.underlying45 rfl HSC.out ?_)
    refine LONG.out.mono ?_
    rintro e W5 ⟨rfl, f5⟩
    have D5 := Lib.hid (frU f5)
    clear f5 LONG RGC0 dl1 dl1'
    go_upto_region 11 with fail
    generalize bits BinOp.and IntKind.i64 (dl / 2 ^ i) 1 = d
    have hba5 := hba.out.fr D5.out (fun h => h)
    have RGA := Lib.hid (fun (W : World) (hW : Fr (fun q => W5.heap.size ≤ q) W5 W) => (hba5.fr hW (fun h => by have := hba5.lt; omega)).rng)
    have HBA5 := Lib.hid hba5
    have HLN := Lib.hid (show (Tryd.prog.info? 25).map (·.size) = some (rc g s).length by rw [rc_len hsg.out.1]; kernel_rfl)
    have hrgc := RGC.out W5 D5.out
    have hbb : bb < W5.heap.size := by
      have h5 := (HRV.out W5 D5.out).size
      have h0 := hrgc 0 (C.toList[0]'(by rw [Array.length_toList, h5]; omega)) (by simp)
      exact World.block_lt_of_cell? _ _ h0
    have hrv5 := (HRV.out W5 D5.out).lts
    have HBB := Lib.hid hbb
    have HRG5 := Lib.hid hrgc
    have HRV5 := Lib.hid hrv5
    replace RGC := Lib.hid (fun (W : World) (hW : Fr (fun q => W5.heap.size ≤ q) W5 W) => V1.rng_fr HRG5.out (frV hW) (fun h => by have h2 : W5.heap.size ≤ bb := h; have := HBB.out; omega))
    clear hrgc hbb hrv5
    obtain ⟨r1, r2, ce, hR⟩ : ∃ r1 r2 ce, makeR g s d (V1.mayV v) (V1.prV v) = ((r1, r2), ce) := ⟨_, _, _, rfl⟩
    have F5 := Lib.hid (hfr.out.trans D5.out (fun _ _ h => h))
    have hl8 := Nat.le_trans H8.out F5.out.size
    have hmk := fun (W : World) (hW : Fr (fun q => W5.heap.size ≤ q) W5 W) => make_c W g s d v (HRV5.out.fr (frV hW) (fun b hb h => by have h2 : W5.heap.size ≤ b := h; have := hb.2; omega)) HSM.out hsg.out.1 hsg.out.2 ((HL.out.far F5.out).ge hW hl8) (Nat.le_trans hl8 hW.size)
    have hrc := makeR_cases g s d (V1.mayV v) (V1.prV v)
    simp only [hR] at hmk hrc
    have HMK := Lib.hid hmk
    have hr2 : r2.length = 16 := by
      rcases hrc with ⟨c, h1, h2⟩ | ⟨q, h1, h2, -⟩
      · injection h2 with h2 h3
        injection h2 with h2 h4
        rw [h4]; rfl
      · injection h2 with h2 h3
        injection h2 with h2 h4
        rw [h4]; exact h1
    have HR2 := Lib.hid hr2
    have HRC := Lib.hid hrc
    have HLT := Lib.hid (And.intro q1 q2)
    have HIN := Lib.hid (And.intro hlt hn20)
    clear hba5 hR hmk hrc hr2 hl8 q1 q2 hlt hba hn20
    · skip
      refine (wpIn_wide (n := 9)).1 ?_
      refine wpIn_region_factsR (ms := [0, 0, 0, 0, 12, 28, 63, 127, 255, 255, 0, 1535, 4095]) (k := 13) (Gr W5.heap.size (rc r1 r2).toArray) (onR W5.heap.size bA g s d bb off n cap i C r1 r2 ce) (by kernel_rfl) (by kernel_rfl) (fun W => Gr.refl _ _ W) (fun a b c h1 h2 => h1.trans h2) onR_far (lowMs_lt (by kernel_rfl)) ?walk11
      case walk11 =>
      have hdr : ∀ W, Gr W5.heap.size (rc r1 r2).toArray W5.drew W → Fr (fun q => W5.heap.size ≤ q) W5 W := fun W h => ((Fr.refl (fun q => W5.heap.size ≤ q) W5).drew).trans h.1 (fun _ _ h => h)
      have HDR := Lib.hid hdr
      clear hdr
      refine factWalkR_cons (fun W hW hf K hK => ?_) (fun x0 => ?_)
      · skip
        have hld := run_loadAt_mid (P := Tryd.prog) W bA 0 25 (rc g s) _ (RGA.out W (HDR.out W hW)) Tryd.underlying25 rfl HLN.out
        refine ⟨by kernel_rfl, ?_⟩
        refine operIn_loadL 25 _ rfl _ rfl hld ?_
        exact hK _ _ (Gr.refl _ _ _) rfl
      simp only [Act.put, List.setIfInBounds_toArray, List.set_cons_succ, List.set_cons_zero]
      refine factWalkR_cons (fun W hW hf K hK => ?_) (fun x1 => ?_)
      · skip
        refine ⟨by kernel_rfl, ?_⟩
        gi_step
        exact hK _ _ (Gr.refl _ _ _) rfl
      simp only [Act.put, List.setIfInBounds_toArray, List.set_cons_succ, List.set_cons_zero]
      refine factWalkR_cons (fun W hW hf K hK => ?_) (fun x2 => ?_)
      · skip
        refine ⟨by kernel_rfl, ?_⟩
        gi_step
        exact hK _ _ (Gr.refl _ _ _) rfl
      simp only [Act.put, List.setIfInBounds_toArray, List.set_cons_succ, List.set_cons_zero]
      refine factWalkR_cons (fun W hW hf K hK => ?_) (fun x3 => ?_)
      · skip
        refine ⟨by kernel_rfl, ?_⟩
        gi_step
        exact hK _ _ (Gr.refl _ _ _) rfl
      simp only [Act.put, List.setIfInBounds_toArray, List.set_cons_succ, List.set_cons_zero]
      refine factWalkR_cons (fun W hW hf K hK => ?_) (fun x4 => ?_)
      · skip
        have e2 : x2 = .slice (some ⟨bb, off, none⟩) n cap := hf 2 (by omega) (by kernel_rfl)
        have e3 : x3 = .int .i64 (i : Nat) := hf 3 (by omega) (by kernel_rfl)
        subst e2 e3
        have hl1 := HLT.out
        refine ⟨by kernel_rfl, ?_⟩
        gi_step
        exact hK _ _ (Gr.refl _ _ _) rfl
      simp only [Act.put, List.setIfInBounds_toArray, List.set_cons_succ, List.set_cons_zero]
      refine factWalkR_cons (fun W hW hf K hK => ?_) (fun x5 => ?_)
      · skip
        have e4 : x4 = .pointer (some ⟨bb, off + i * 5, none⟩) := hf 4 (by omega) (by kernel_rfl)
        subst e4
        have hld := V1.load_val (P := Tryd.prog) W bb (off + i * 5) C (RGC.out W (HDR.out W hW)) 45 _ Tryd.underlying45 rfl HSC.out
        refine ⟨by kernel_rfl, ?_⟩
        refine operIn_loadL 45 _ rfl _ rfl hld ?_
        exact hK _ _ (Gr.refl _ _ _) rfl
      simp only [Act.put, List.setIfInBounds_toArray, List.set_cons_succ, List.set_cons_zero]
      refine factWalkR_cons (fun W hW hf K hK => ?_) (fun x6 => ?_)
      · skip
        have e0 : x0 = .agg (rc g s).toArray := hf 0 (by omega) (by kernel_rfl)
        have e1 : x1 = .int .i64 d := hf 1 (by omega) (by kernel_rfl)
        have e5 : x5 = .agg C := hf 5 (by omega) (by kernel_rfl)
        subst e0 e1 e5
        refine ⟨by kernel_rfl, ?_⟩
        gi_step
        refine ⟨trivial, ?_⟩
        refine (callsIn_wide.2 (HMK.out W (HDR.out W hW))).mono ?_
        rintro e W' ⟨rfl, f2⟩
        dsimp only
        exact hK _ _ (Gr.of f2) rfl
      simp only [Act.put, List.setIfInBounds_toArray, List.set_cons_succ, List.set_cons_zero]
      refine factWalkR_cons (fun W hW hf K hK => ?_) (fun x7 => ?_)
      · skip
        have e6 : x6 = .tuple #[.agg (rc r1 r2).toArray, .int .i64 ce] := hf 6 (by omega) (by kernel_rfl)
        subst e6
        refine ⟨by kernel_rfl, ?_⟩
        gi_step
        exact hK _ _ (Gr.refl _ _ _) rfl
      simp only [Act.put, List.setIfInBounds_toArray, List.set_cons_succ, List.set_cons_zero]
      refine factWalkR_cons (fun W hW hf K hK => ?_) (fun x8 => ?_)
      · skip
        have e7 : x7 = .tuple #[.agg (rc r1 r2).toArray, .int .i64 ce] := hf 7 (by omega) (by kernel_rfl)
        subst e7
        refine ⟨by kernel_rfl, ?_⟩
        gi_step
        exact hK _ _ (Gr.refl _ _ _) rfl
      simp only [Act.put, List.setIfInBounds_toArray, List.set_cons_succ, List.set_cons_zero]
      refine factWalkR_cons (fun W hW hf K hK => ?_) (fun x9 => ?_)
      · skip
        have e7 : x7 = .tuple #[.agg (rc r1 r2).toArray, .int .i64 ce] := hf 7 (by omega) (by kernel_rfl)
        subst e7
        refine ⟨by kernel_rfl, ?_⟩
        gi_step
        exact hK _ _ (Gr.refl _ _ _) rfl
      simp only [Act.put, List.setIfInBounds_toArray, List.set_cons_succ, List.set_cons_zero]
      refine factWalkR_cons (fun W hW hf K hK => ?_) (fun x10 => ?_)
      · skip
        refine ⟨by kernel_rfl, ?_⟩
        gi_step
        exact hK _ _ (Gr.of ((Fr.refl _ W).alloc _)) ⟨W.heap.size, rfl, (HDR.out W hW).size, _, Blk.new W _ _, rfl⟩
      simp only [Act.put, List.setIfInBounds_toArray, List.set_cons_succ, List.set_cons_zero]
      refine factWalkR_cons (fun W hW hf K hK => ?_) (fun x11 => ?_)
      · skip
        have e8 : x8 = .agg (rc r1 r2).toArray := hf 8 (by omega) (by kernel_rfl)
        obtain ⟨xb, e10, hbg, cs, bl, hcs⟩ : ∃ xb, x10 = .pointer (some ⟨xb, 0, none⟩) ∧ W5.heap.size ≤ xb ∧ ∃ cs, Blk W xb 25 cs ∧ cs.size = 17 := hf 10 (by omega) (by kernel_rfl)
        subst e8 e10
        have hth : W.there xb 0 (rc r1 r2).toArray.size := by have h := bl.there; rw [hcs] at h; rw [List.size_toArray, rc_len HR2.out]; exact h
        have hst := bl.setAll (ds := (rc r1 r2).toArray) (by rw [List.size_toArray, rc_len HR2.out, hcs])
        have hff := Fr.setCells (fp := fun k => k = xb) (a := W) (g := xb) (fun _ => rfl) (rc r1 r2) 0 W (Fr.refl _ _)
        have hsto := run_storeAt_mid (P := Tryd.prog) W xb 0 25 (rc r1 r2).toArray hth (tRev_size HR2.out) (rc_all r1 r2)
        refine ⟨by kernel_rfl, ?_⟩
        refine operIn_storeL rfl 25 _ _ rfl _ _ rfl rfl hsto ?_
        exact hK undef _ (Gr.store hbg bl (by rw [hcs, List.size_toArray, rc_len HR2.out]) hff hst) ⟨xb, rfl, hbg, hst⟩
      simp only [Act.put, List.setIfInBounds_toArray, List.set_cons_succ, List.set_cons_zero]
      refine factWalkR_cons (fun W hW hf K hK => ?_) (fun x12 => ?_)
      · skip
        have e9 : x9 = .int .i64 ce := hf 9 (by omega) (by kernel_rfl)
        subst e9
        refine ⟨by kernel_rfl, ?_⟩
        gi_step
        exact hK _ _ (Gr.refl _ _ _) rfl
      simp only [Act.put, List.setIfInBounds_toArray, List.set_cons_succ, List.set_cons_zero]
      refine factWalkR_nil (fun W6 hW hf => ?_)
      have e12 : x12 = .int .i64 ce := hf 12 (by omega)
      have e8 : x8 = .agg (rc r1 r2).toArray := hf 8 (by omega)
      obtain ⟨xb, e10, hl10, hb10⟩ : ∃ xb, x10 = .pointer (some ⟨xb, 0, none⟩) ∧ W5.heap.size ≤ xb ∧ Blk W6 xb 25 (rc r1 r2).toArray := hf 11 (by omega)
      subst e12 e8 e10
      have HST := Lib.hid hb10
      have HLX := Lib.hid hl10
      have D11 : Hid (Fr (fun _ => False) W5 W6) := Lib.hid ((HDR.out W6 hW).mono (fun k hk e => by have e2 : W5.heap.size ≤ k := e; omega))
      clear hf hW HDR hb10 hl10
      change wpAnyIn _ _ _ _ _ _ 0 _ _ _
      refine wpAnyIn_done (by kernel_rfl) ?_ _
      refine abs_exit (fun W => Hid (Blk W xb 25 (rc r1 r2).toArray) ∧ Hid (W5.heap.size ≤ xb) ∧ Hid (Fr (fun _ => False) W5 W)) ⟨HST.out, HLX.out, D11.out⟩ ?_
      clear HST D11 HLX
      clear W6
      rintro W7 ⟨BX, HXL, D7⟩
      replace RGA := Lib.hid (fun (W : World) (hW : Fr (fun q => W7.heap.size ≤ q) W7 W) => RGA.out W ((D7.out.mono (fun _ _ h => h.elim)).trans hW (fun _ _ h => Nat.le_trans D7.out.size h)))
      replace RGC := Lib.hid (fun (W : World) (hW : Fr (fun q => W7.heap.size ≤ q) W7 W) => RGC.out W ((D7.out.mono (fun _ _ h => h.elim)).trans hW (fun _ _ h => Nat.le_trans D7.out.size h)))
      replace HMK := Lib.hid (fun (W : World) (hW : Fr (fun q => W7.heap.size ≤ q) W7 W) => HMK.out W ((D7.out.mono (fun _ _ h => h.elim)).trans hW (fun _ _ h => Nat.le_trans D7.out.size h)))
      go_upto_region 12 with fail
      refine (wpIn_wide (n := 9)).1 ?_
      refine wpIn_region_factsR (ms := [0, 0, 0, 0, 12, 28, 63, 127, 255, 255, 0, 1535, 4095]) (k := 13) (Gr W7.heap.size (rc r1 r2).toArray) (onR W7.heap.size bA g s d bb off n cap i C r1 r2 ce) (by kernel_rfl) (by kernel_rfl) (fun W => Gr.refl _ _ W) (fun a b c h1 h2 => h1.trans h2) onR_far (lowMs_lt (by kernel_rfl)) ?walk12
      case walk12 =>
      have hdr : ∀ W, Gr W7.heap.size (rc r1 r2).toArray W7.drew W → Fr (fun q => W7.heap.size ≤ q) W7 W := fun W h => ((Fr.refl (fun q => W7.heap.size ≤ q) W7).drew).trans h.1 (fun _ _ h => h)
      have HDR := Lib.hid hdr
      clear hdr
      refine factWalkR_cons (fun W hW hf K hK => ?_) (fun x0 => ?_)
      · skip
        have hld := run_loadAt_mid (P := Tryd.prog) W bA 0 25 (rc g s) _ (RGA.out W (HDR.out W hW)) Tryd.underlying25 rfl HLN.out
        refine ⟨by kernel_rfl, ?_⟩
        refine operIn_loadL 25 _ rfl _ rfl hld ?_
        exact hK _ _ (Gr.refl _ _ _) rfl
      simp only [Act.put, List.setIfInBounds_toArray, List.set_cons_succ, List.set_cons_zero]
      refine factWalkR_cons (fun W hW hf K hK => ?_) (fun x1 => ?_)
      · skip
        refine ⟨by kernel_rfl, ?_⟩
        gi_step
        exact hK _ _ (Gr.refl _ _ _) rfl
      simp only [Act.put, List.setIfInBounds_toArray, List.set_cons_succ, List.set_cons_zero]
      refine factWalkR_cons (fun W hW hf K hK => ?_) (fun x2 => ?_)
      · skip
        refine ⟨by kernel_rfl, ?_⟩
        gi_step
        exact hK _ _ (Gr.refl _ _ _) rfl
      simp only [Act.put, List.setIfInBounds_toArray, List.set_cons_succ, List.set_cons_zero]
      refine factWalkR_cons (fun W hW hf K hK => ?_) (fun x3 => ?_)
      · skip
        refine ⟨by kernel_rfl, ?_⟩
        gi_step
        exact hK _ _ (Gr.refl _ _ _) rfl
      simp only [Act.put, List.setIfInBounds_toArray, List.set_cons_succ, List.set_cons_zero]
      refine factWalkR_cons (fun W hW hf K hK => ?_) (fun x4 => ?_)
      · skip
        have e2 : x2 = .slice (some ⟨bb, off, none⟩) n cap := hf 2 (by omega) (by kernel_rfl)
        have e3 : x3 = .int .i64 (i : Nat) := hf 3 (by omega) (by kernel_rfl)
        subst e2 e3
        have hl1 := HLT.out
        refine ⟨by kernel_rfl, ?_⟩
        gi_step
        exact hK _ _ (Gr.refl _ _ _) rfl
      simp only [Act.put, List.setIfInBounds_toArray, List.set_cons_succ, List.set_cons_zero]
      refine factWalkR_cons (fun W hW hf K hK => ?_) (fun x5 => ?_)
      · skip
        have e4 : x4 = .pointer (some ⟨bb, off + i * 5, none⟩) := hf 4 (by omega) (by kernel_rfl)
        subst e4
        have hld := V1.load_val (P := Tryd.prog) W bb (off + i * 5) C (RGC.out W (HDR.out W hW)) 45 _ Tryd.underlying45 rfl HSC.out
        refine ⟨by kernel_rfl, ?_⟩
        refine operIn_loadL 45 _ rfl _ rfl hld ?_
        exact hK _ _ (Gr.refl _ _ _) rfl
      simp only [Act.put, List.setIfInBounds_toArray, List.set_cons_succ, List.set_cons_zero]
      refine factWalkR_cons (fun W hW hf K hK => ?_) (fun x6 => ?_)
      · skip
        have e0 : x0 = .agg (rc g s).toArray := hf 0 (by omega) (by kernel_rfl)
        have e1 : x1 = .int .i64 d := hf 1 (by omega) (by kernel_rfl)
        have e5 : x5 = .agg C := hf 5 (by omega) (by kernel_rfl)
        subst e0 e1 e5
        refine ⟨by kernel_rfl, ?_⟩
        gi_step
        refine ⟨trivial, ?_⟩
        refine (callsIn_wide.2 (HMK.out W (HDR.out W hW))).mono ?_
        rintro e W' ⟨rfl, f2⟩
        dsimp only
        exact hK _ _ (Gr.of f2) rfl
      simp only [Act.put, List.setIfInBounds_toArray, List.set_cons_succ, List.set_cons_zero]
      refine factWalkR_cons (fun W hW hf K hK => ?_) (fun x7 => ?_)
      · skip
        have e6 : x6 = .tuple #[.agg (rc r1 r2).toArray, .int .i64 ce] := hf 6 (by omega) (by kernel_rfl)
        subst e6
        refine ⟨by kernel_rfl, ?_⟩
        gi_step
        exact hK _ _ (Gr.refl _ _ _) rfl
      simp only [Act.put, List.setIfInBounds_toArray, List.set_cons_succ, List.set_cons_zero]
      refine factWalkR_cons (fun W hW hf K hK => ?_) (fun x8 => ?_)
      · skip
        have e7 : x7 = .tuple #[.agg (rc r1 r2).toArray, .int .i64 ce] := hf 7 (by omega) (by kernel_rfl)
        subst e7
        refine ⟨by kernel_rfl, ?_⟩
        gi_step
        exact hK _ _ (Gr.refl _ _ _) rfl
      simp only [Act.put, List.setIfInBounds_toArray, List.set_cons_succ, List.set_cons_zero]
      refine factWalkR_cons (fun W hW hf K hK => ?_) (fun x9 => ?_)
      · skip
        have e7 : x7 = .tuple #[.agg (rc r1 r2).toArray, .int .i64 ce] := hf 7 (by omega) (by kernel_rfl)
        subst e7
        refine ⟨by kernel_rfl, ?_⟩
        gi_step
        exact hK _ _ (Gr.refl _ _ _) rfl
      simp only [Act.put, List.setIfInBounds_toArray, List.set_cons_succ, List.set_cons_zero]
      refine factWalkR_cons (fun W hW hf K hK => ?_) (fun x10 => ?_)
      · skip
        refine ⟨by kernel_rfl, ?_⟩
        gi_step
        exact hK _ _ (Gr.of ((Fr.refl _ W).alloc _)) ⟨W.heap.size, rfl, (HDR.out W hW).size, _, Blk.new W _ _, rfl⟩
      simp only [Act.put, List.setIfInBounds_toArray, List.set_cons_succ, List.set_cons_zero]
      refine factWalkR_cons (fun W hW hf K hK => ?_) (fun x11 => ?_)
      · skip
        have e8 : x8 = .agg (rc r1 r2).toArray := hf 8 (by omega) (by kernel_rfl)
        obtain ⟨xb, e10, hbg, cs, bl, hcs⟩ : ∃ xb, x10 = .pointer (some ⟨xb, 0, none⟩) ∧ W7.heap.size ≤ xb ∧ ∃ cs, Blk W xb 25 cs ∧ cs.size = 17 := hf 10 (by omega) (by kernel_rfl)
        subst e8 e10
        have hth : W.there xb 0 (rc r1 r2).toArray.size := by have h := bl.there; rw [hcs] at h; rw [List.size_toArray, rc_len HR2.out]; exact h
        have hst := bl.setAll (ds := (rc r1 r2).toArray) (by rw [List.size_toArray, rc_len HR2.out, hcs])
        have hff := Fr.setCells (fp := fun k => k = xb) (a := W) (g := xb) (fun _ => rfl) (rc r1 r2) 0 W (Fr.refl _ _)
        have hsto := run_storeAt_mid (P := Tryd.prog) W xb 0 25 (rc r1 r2).toArray hth (tRev_size HR2.out) (rc_all r1 r2)
        refine ⟨by kernel_rfl, ?_⟩
        refine operIn_storeL rfl 25 _ _ rfl _ _ rfl rfl hsto ?_
        exact hK undef _ (Gr.store hbg bl (by rw [hcs, List.size_toArray, rc_len HR2.out]) hff hst) ⟨xb, rfl, hbg, hst⟩
      simp only [Act.put, List.setIfInBounds_toArray, List.set_cons_succ, List.set_cons_zero]
      refine factWalkR_cons (fun W hW hf K hK => ?_) (fun x12 => ?_)
      · skip
        have e9 : x9 = .int .i64 ce := hf 9 (by omega) (by kernel_rfl)
        subst e9
        refine ⟨by kernel_rfl, ?_⟩
        gi_step
        exact hK _ _ (Gr.refl _ _ _) rfl
      simp only [Act.put, List.setIfInBounds_toArray, List.set_cons_succ, List.set_cons_zero]
      refine factWalkR_nil (fun W8 hW hf => ?_)
      have e12 : x12 = .int .i64 ce := hf 12 (by omega)
      have e8 : x8 = .agg (rc r1 r2).toArray := hf 8 (by omega)
      obtain ⟨yb, e10, hl10, hb10⟩ : ∃ xb, x10 = .pointer (some ⟨xb, 0, none⟩) ∧ W7.heap.size ≤ xb ∧ Blk W8 xb 25 (rc r1 r2).toArray := hf 11 (by omega)
      subst e12 e8 e10
      have HST := Lib.hid hb10
      have HLX := Lib.hid hl10
      have D11 : Hid (Fr (fun _ => False) W7 W8) := Lib.hid ((HDR.out W8 hW).mono (fun k hk e => by have e2 : W7.heap.size ≤ k := e; omega))
      clear hf hW HDR hb10 hl10
      change wpAnyIn _ _ _ _ _ _ 0 _ _ _
      refine wpAnyIn_done (by kernel_rfl) ?_ _
      refine abs_exit (fun W => Hid (Blk W yb 25 (rc r1 r2).toArray) ∧ Hid (W7.heap.size ≤ yb) ∧ Hid (Fr (fun _ => False) W7 W)) ⟨HST.out, HLX.out, D11.out⟩ ?_
      clear HST D11 HLX
      rintro W9 ⟨BY, HYL, D9⟩
      have BX9 := Lib.hid (BX.out.fr D9.out (fun h => h))
      have BA9 := Lib.hid ((HBA5.out.fr D7.out (fun h => h)).fr D9.out (fun h => h))
      have FA := Lib.hid ((F5.out.trans D7.out (fun _ _ h => h)).trans D9.out (fun _ _ h => h))
      have D59 := Lib.hid ((D5.out.trans D7.out (fun _ _ h => h)).trans D9.out (fun _ _ h => h))
      have RGX := Lib.hid BX9.out.rng
      have RGY := Lib.hid BY.out.rng
      have HLX := Lib.hid (show (Tryd.prog.info? 25).map (·.size) = some (rc r1 r2).length by rw [rc_len HR2.out]; kernel_rfl)
      have hneq : ∀ W, (binOp .neq 25 (.agg (rc r1 r2).toArray) (.agg (rc r1 r2).toArray)).run Tryd.prog W = .ok (.bool false) W := fun W => by
        rw [run_neq_rev r1 r1 r2 r2 HR2.out HR2.out]
        simp
      have hce : (ce == ce) = true := by simp
      have HO9 := Lib.hid (own_fr ho.out D59.out (fun _ _ h => h))
      clear RGA RGC HMK HRV HRV5 HRG5 HBB HSC HSM HBA5 BX ho D5 D7 F5 hfr
      rcases HRC.out with ⟨c, hc0, hc⟩ | ⟨q, hq, hc, hmg, hlg⟩
      · injection hc with hc hc3
        injection hc with hc1 hc2
        subst hc1 hc2 hc3
        have dce : (ce == 0) = false := by simpa using hc0
        have heq : ∀ W, (binOp .eql 25 (.agg (rc 0 zN).toArray) (.agg #[.int .u64 0, .int .u8 0, .int .u8 0, .int .u8 0, .int .u8 0, .int .u8 0, .int .u8 0, .int .u8 0, .int .u8 0, .int .u8 0, .int .u8 0, .int .u8 0, .int .u8 0, .int .u8 0, .int .u8 0, .int .u8 0, .int .u8 0])).run Tryd.prog W = .ok (.bool true) W := fun W => by
          have h : (binOp .eql 25 (.agg (rc 0 zN).toArray) (.agg (rc 0 zN).toArray)).run Tryd.prog W = .ok (.bool true) W := by
            rw [run_eql_rev 0 0 zN zN rfl rfl W]
            simp
          exact h
        clear hc0 HRC
        go_wp2_with (first
          | refine wpList_load_g rfl 25 _ rfl xb 0 rfl (rc 0 zN) _ RGX.out Tryd.underlying25 rfl HLX.out ?_
          | refine wpList_load_g rfl 25 _ rfl yb 0 rfl (rc 0 zN) _ RGY.out Tryd.underlying25 rfl HLX.out ?_)
        refine (HAW.out _ FA.out).mono ?_
        rintro e wa ⟨rfl, fa⟩
        have FB := Lib.hid (FA.out.trans fa (fun _ _ h => h))
        clear fa
        go_wp2_with fail
        go_ret
        exact ⟨rfl, FB.out⟩
      · injection hc with hc hc3
        injection hc with hc1 hc2
        subst hc1 hc2 hc3
        have HQ := Lib.hid hq
        have RGA9 := Lib.hid BA9.out.rng
        have cA : W9.cell? ⟨bA, 0, none⟩ = some (.int .u64 (g : Nat)) := by rw [BA9.out.cell]; rfl
        have cX : W9.cell? ⟨xb, 0, none⟩ = some (.int .u64 ((g : Int) + 1)) := by rw [BX9.out.cell]; show some (Value.int .u64 ((g + 1 : Nat) : Int)) = _; rw [show ((g + 1 : Nat) : Int) = (g : Int) + 1 by omega]
        have hgw : IntKind.u64.wrap ((g : Int) + 1) = (g : Int) + 1 := by rw [IntKind.wrap_u64]; omega
        have CMP := Lib.hid (cmp_lt W9 g (g + 1) s r2 (by omega))
        have MAY := Lib.hid (fun W => may_c W (g + 1) r2 hq (by omega))
        rw [hmg] at MAY
        have HMG := Lib.hid (And.intro hmg hlg)
        have hne1 : ((g : Int) + 1 == (g : Int) + 1) = true := by simp
        clear hq hmg hlg HRC
        go_wp2_with (first
          | refine wpList_load_g rfl 25 _ rfl xb 0 rfl (rc (g + 1) r2) _ RGX.out Tryd.underlying25 rfl HLX.out ?_
          | refine wpList_load_g rfl 25 _ rfl yb 0 rfl (rc (g + 1) r2) _ RGY.out Tryd.underlying25 rfl HLX.out ?_
          | (refine wpList_load_h 25 (.tmp 7) rfl ?_ bA 0 ?_ (rc g s) _ ?_ Tryd.underlying25 rfl ?_ ?_
             · kernel_rfl
             · rfl
             · exact RGA9.out
             · exact HLN.out)
          | (refine wpList_load_h 25 (.tmp 11) rfl ?_ xb 0 ?_ (rc (g + 1) r2) _ ?_ Tryd.underlying25 rfl ?_ ?_
             · kernel_rfl
             · rfl
             · exact RGX.out
             · exact HLX.out))
        refine CMP.out.mono ?_
        rintro e W10 ⟨rfl, f10⟩
        replace BX9 := Lib.hid (BX9.out.fr f10 (fun h => h))
        replace BA9 := Lib.hid (BA9.out.fr f10 (fun h => h))
        replace HO9 := Lib.hid (own_fr HO9.out f10 (fun _ _ h => h))
        replace FA := Lib.hid (FA.out.trans f10 (fun _ _ h => h))
        replace RGX := Lib.hid BX9.out.rng
        clear f10 CMP RGA9 cA cX
        go_wp2_with (first
          | (refine wpList_load_h 25 (.tmp 11) rfl ?_ xb 0 ?_ (rc (g + 1) r2) _ ?_ Tryd.underlying25 rfl ?_ ?_
             · kernel_rfl
             · rfl
             · exact RGX.out
             · exact HLX.out))
        refine (MAY.out W10).mono ?_
        rintro e W11 ⟨rfl, f11⟩
        replace BX9 := Lib.hid (BX9.out.fr f11 (fun h => h))
        replace BA9 := Lib.hid (BA9.out.fr f11 (fun h => h))
        replace HO9 := Lib.hid (own_fr HO9.out f11 (fun _ _ h => h))
        replace FA := Lib.hid (FA.out.trans f11 (fun _ _ h => h))
        replace RGX := Lib.hid BX9.out.rng
        clear f11 MAY
        obtain ⟨i0, hi0, hz0', hz1', hz2'⟩ := info_parts rev_info1
        have HI0 := Lib.hid hi0
        have HI20 : Hid (i ≤ 20) := Lib.hid (by have := HIN.out; omega)
        clear hi0
        go_wp2_with (first
          | refine wpList_load_g rfl 25 _ rfl xb 0 rfl (rc (g + 1) r2) _ RGX.out Tryd.underlying25 rfl HLX.out ?_
          | (refine wpList_bs1 ?_ 37 1 0 (.tmp 89) ?_ (.agg (rc (g + 1) r2).toArray) _ ?_ (run_slice1 (g + 1) r2 HQ.out W11) ?_
             rotate_left
             · rfl
             · rfl
             rotate_left
             · rfl)
          | (at_builtin
             refine wpList_app rfl (.tmp 90) (.tmp 91) _ _ rfl 0 25 i0 _ 17 24 Tryd.underlying37 HI0.out hz0' hz1' hz2' rfl _ 1 (rc (g + 1) r2) rfl (own_rev1 W11 (g + 1) r2 HQ.out) _ i (rcs l) rfl (src_own Tryd.underlying37 (own_fr HO9.out ((Fr.refl (fun _ => False) W11).alloc _) (fun _ _ h => h)) rcs_one) (by have := HI20.out; omega) (by have := HI20.out; unfold maxLen; omega) (Nat.zero_le _) ?_
             intro v12 W12 o12 f12 n12
             obtain ⟨K12, kc12, rfl, -, -⟩ := own_slice o12
             have O12 := Lib.hid o12
             have NB12 : Hid ((Value.slice K12 (1 + i) kc12).ownBlock ≠ some bA) := Lib.hid (fun e => by
               have h1 := BA9.out.lt
               rcases n12 with h | h
               · rw [h] at e
                 have h2 : W11.heap.size = bA := Option.some.inj e
                 omega
               · rw [h] at e
                 injection e with e
                 rw [World.size_alloc] at e
                 omega)
             have NW12 : Hid (∀ q, (Value.slice K12 (1 + i) kc12).ownBlock = some q → w.heap.size ≤ q) := Lib.hid (fun q e => by
               have h1 := FA.out.size
               rcases n12 with h | h
               · rw [h] at e
                 have h2 : W11.heap.size = q := Option.some.inj e
                 omega
               · rw [h] at e
                 injection e with e
                 rw [World.size_alloc] at e
                 omega)
             have BX12 := Lib.hid ((BX9.out.alloc _).fr f12 (fun e => by
               have h1 := BX9.out.lt
               have h2 : W11.heap.size = xb := Option.some.inj e
               omega))
             have BA12 := Lib.hid ((BA9.out.alloc _).fr f12 (fun e => by
               have h1 := BA9.out.lt
               have h2 : W11.heap.size = bA := Option.some.inj e
               omega))
             have FA12 : Hid (Fr (fun _ => False) w W12) := Lib.hid ((FA.out.alloc _).trans f12 (fun k hk e => by
               have h1 := FA.out.size
               have h2 : W11.heap.size = k := Option.some.inj e
               omega))
             have SZ12 := Lib.hid FA.out.size
             have RGX12 := Lib.hid BX12.out.rng
             have HTH : Hid (W12.there bA 0 (rc (g + 1) r2).toArray.size) := by have h := BA12.out.there; rw [List.size_toArray, rc_len HQ.out]; rw [List.size_toArray, rc_len hsg.out.1] at h; exact h
             have HSZ := Lib.hid (tRev_size (g := g + 1) (s := r2) HQ.out)
             have HST := Lib.hid (BA12.out.setAll (ds := (rc (g + 1) r2).toArray) (by rw [List.size_toArray, List.size_toArray, rc_len HQ.out, rc_len hsg.out.1]))
             have HFS := Lib.hid (Fr.setCells (fp := fun k => k = bA) (a := W12) (g := bA) (fun _ => rfl) (rc (g + 1) r2) 0 W12 (Fr.refl _ _))
             clear o12 f12 n12 BX9 BA9 RGX)
          | refine wpList_load_g rfl 25 _ rfl xb 0 rfl (rc (g + 1) r2) _ RGX12.out Tryd.underlying25 rfl HLX.out ?_
          | (refine wpList_store_mid rfl 25 _ _ rfl bA 0 (rc (g + 1) r2).toArray rfl rfl HTH.out HSZ.out (rc_all (g + 1) r2) ?_
             refine abs_list (fun W => Hid (Blk W bA 25 (rc (g + 1) r2).toArray) ∧ Hid (W.ownsRow 0 25 17 (.slice K12 (1 + i) kc12) (1 + i) (rc (g + 1) r2 ++ rcs l)) ∧ Hid (Fr (fun _ => False) w W)) ⟨HST.out, own_fr O12.out HFS.out (fun q hq e => by
               have h2 : q = bA := e
               subst h2
               exact absurd hq NB12.out), FA12.out.trans HFS.out (fun k hk e => by
               have h2 : k = bA := e
               have := HAB.out
               omega)⟩ ?_
             rintro W13 ⟨BA13, O13, F13⟩
             clear HST HFS HTH HSZ))
        go_roundw
        case rel =>
          have hin := HIN.out
          have ei : 1 + i = i + 1 := Nat.add_comm 1 i
          exact ⟨i + 1, K12, kc12, g + 1, r2, (g + 1, r2) :: l, by omega, by go_num, by rw [ei], Lib.hid (by simp [hlen.out]), Lib.hid (by rw [← ei]; exact O13.out), Lib.hid (by rw [← ei]; exact NW12.out), BA13, Lib.hid ⟨HQ.out, by have := HMG.out.2; omega⟩, Lib.hid (hde.out.cons HMG.out.1 (by have := HMG.out.2; omega) HQ.out), F13⟩
        case measure =>
          have hin := HIN.out
          simp [intOf]; omega
end Go.Proofs.YtjaocgmicdnghaaDoor
