/-
  CONTRACT of rev.Make at null.
-/
import Derived.Test.YtjaocgmicdnghaaGreatDoorHQ
import Derived.Test.YtjaocgmicdnghaaGreatDoorNull
import Derived.Test.YtjaocgmicdnghaaGreatDoorHC
import Derived.Test.YtjaocgmicdnghaaGreatDoorChain
namespace Go.Proofs.YtjaocgmicdnghaaGreatDoor
set_option linter.unusedSimpArgs false
set_option linter.unusedVariables false
open Go Go.RowKit Go.Shelf
attribute [local go_sem] Oper.semAt_some

/-- []byte(s): a new row. -/
theorem conv_rd (w : World) (l : List UInt8) : Rd (Lib.bytesWorld w 5 (strOf l)) (some ⟨w.heap.size, 0, none⟩) l.length (bv l) := by
  refine ⟨bv_length l, fun _ => ⟨_, rfl, fun j u hu => ?_⟩⟩
  have hj : j < l.length := by
    rcases Nat.lt_or_ge j l.length with h | h
    · exact h
    · rw [List.getElem?_eq_none (by rw [bv_length]; exact h)] at hu; cases hu
  rw [Addr.add_lit, Nat.zero_add, Lib.bytesWorld_cell w 5 (strOf l) j (by rw [strOf_size]; exact hj)]
  rw [bv_get _ _ hj] at hu
  rw [← hu, List.getD_eq_getElem?_getD]
  show some (Value.int .u8 (l[j]?.getD 0).toNat) = _
  rw [List.getElem?_eq_getElem hj]
  rfl
theorem conv_fr (w : World) (s : ByteArray) : Fr (fun _ => False) w (Lib.bytesWorld w 5 s) :=
  ⟨rfl, rfl, rfl, by rw [Lib.bytesWorld_size]; omega, fun k hk _ => Lib.bytesWorld_at_old w _ s k hk⟩
theorem rows3 (W : World) (A : Option Addr) (c b3 : Nat) (a7 : Option Addr) (c7 : Nat) (L s t : List UInt8) (hl : L.length = 9) (hs : s.length = 16) (ht : t.length = 4) (hc : 9 ≤ c ∧ c ≤ maxLen) (h7 : 4 ≤ c7 ∧ c7 ≤ maxLen)
    (r1 : Rd W (some ⟨b3, 1, none⟩) 16 (bv s)) (r2 : Rd W A 9 (bv L)) (r3 : Rd W a7 4 (bv t)) :
    RdB (W.alloc (.cells #[.slice A 9 c, .slice (some ⟨b3, 1, none⟩) 16 16, .slice a7 4 c7] 43)) (some ⟨W.heap.size, 0, none⟩) 3 [L, s, t] := by
  have hb := Blk.new W 43 #[.slice A 9 c, .slice (some ⟨b3, 1, none⟩) 16 16, .slice a7 4 c7]
  refine ⟨rfl, fun _ => ⟨_, _, rfl, fun i hi => ?_⟩⟩
  rw [Nat.zero_add, hb.cell]
  match i, hi with
  | 0, _ => exact ⟨A, c, by show some (Value.slice A 9 c) = some (.slice A L.length c); rw [hl], by show Rd _ A L.length (bv L); rw [hl]; exact r2.alloc _, by show L.length ≤ c; rw [hl]; exact hc.1, hc.2⟩
  | 1, _ => exact ⟨_, 16, by show some (Value.slice (some ⟨b3, 1, none⟩) 16 16) = some (.slice _ s.length 16); rw [hs], by show Rd _ _ s.length (bv s); rw [hs]; exact r1.alloc _, by show s.length ≤ 16; omega, by unfold maxLen; omega⟩
  | 2, _ => exact ⟨a7, c7, by show some (Value.slice a7 4 c7) = some (.slice a7 t.length c7); rw [ht], by show Rd _ a7 t.length (bv t); rw [ht]; exact r3.alloc _, by show t.length ≤ c7; rw [ht]; exact h7.1, h7.2⟩
theorem build_rev (g : Nat) (q : List UInt8) (hq : q.length = 16) (W : World) : (Instr.build 25 #[(0, .int .u64 (g : Nat)), (1, .agg (b16 q))]).run Tryz.prog W = .ok (.agg (rc g q).toArray) W := by
  obtain ⟨a0, a1, a2, a3, a4, a5, a6, a7, a8, a9, a10, a11, a12, a13, a14, a15, rfl⟩ := len16 hq
  kernel_rfl
section steps
variable {P : Program} {ops : Array Oper} {rest : List Oper} {o : Oper} {a : Act} {w : World} {Q : Exit → Act → World → Prop}
theorem stepIn_store {F : Fence} {n : Nat} {K : Act → World → Prop} {E : Prop} (hg : o.guard = none) (ty : TypeId) (d x : Operand) (hop : o.op = Op.store ty d x)
    (v u : Value) (hd : a.eval d = v) (hx : a.eval x = u) {w' : World} (hr : (Instr.storeAt ty v u).run P w = .ok () w') (hK : K (a.put o.dst undef) w') :
    if Region.wanted o (yielded ops a.tmps) = true then Oper.wpIn F n P o a w K Q else E := by
  have hw : Region.wanted o (yielded ops a.tmps) = true := by simp [Region.wanted, hg]
  rw [if_pos hw]
  refine ⟨fun f hf => ?_, ?_⟩
  · simp [Oper.about, hop] at hf
  · simp [Oper.semAt, execOp, hop, hd, hx, hr, Result.andThen, Oper.uponIn]
    exact hK
theorem stepIn_build {F : Fence} {n : Nat} {K : Act → World → Prop} {E : Prop} (hg : o.guard = none) (ty : TypeId) (i j : Nat) (x y : Operand) (hop : o.op = Op.build ty #[(i, x), (j, y)])
    (u v : Value) (hx : a.eval x = u) (hy : a.eval y = v) {z : Value} {w' : World} (hr : (Instr.build ty #[(i, u), (j, v)]).run P w = .ok z w') (hK : K (a.put o.dst z) w') :
    if Region.wanted o (yielded ops a.tmps) = true then Oper.wpIn F n P o a w K Q else E := by
  have hw : Region.wanted o (yielded ops a.tmps) = true := by simp [Region.wanted, hg]
  rw [if_pos hw]
  refine ⟨fun f hf => ?_, ?_⟩
  · simp [Oper.about, hop] at hf
  · simp [Oper.semAt, execOp, hop, hx, hy, hr, Result.andThen, Oper.uponIn]
    exact hK
end steps
theorem own_lits (w : World) (base : Nat) (l : List Value) (n : Nat) (hl : l.length = n) (hb : base ≤ w.heap.size) (hn : n ≤ maxLen) :
    (w.alloc (.cells l.toArray 5)).ownsRow base 5 1 (.slice (some ⟨w.heap.size, 0, none⟩) n n) n l :=
  ⟨by rw [hl, Nat.mul_one], .inr ⟨w.heap.size, n, l.toArray, rfl, hb, heap_alloc_new w _, Nat.le_refl _, hn, by simp [hl], by rw [Nat.mul_one, ← hl]; simp⟩⟩
def mkX (b3 g : Nat) (A : Option Addr) (c : Nat) (s L Q : List UInt8) (i : Nat) (v : Value) (W : World) : Prop := match i with
  | 0 => v = .pointer (some ⟨b3, 0, none⟩)
  | 1 => v = .int .u64 (g : Nat)
  | 2 => v = .int .u64 ((g : Int) + 1)
  | 3 => v = .slice A 9 c
  | 4 => v = .pointer (some ⟨b3, 1, none⟩)
  | 5 => v = .slice (some ⟨b3, 1, none⟩) 16 16
  | 6 => v = .string (strOf [110, 117, 108, 108])
  | 7 => ∃ a7 c7, v = .slice a7 4 c7 ∧ 4 ≤ c7 ∧ c7 ≤ maxLen ∧ Rd W a7 4 (bv [110, 117, 108, 108])
  | 8 => ∃ g8, v = .slice (some ⟨g8, 0, none⟩) 3 3 ∧ RdB W (some ⟨g8, 0, none⟩) 3 [L, s, [110, 117, 108, 108]]
  | 9 => v = .agg (b16 Q)
  | _ => True
theorem mkX_far {b3 g : Nat} {A : Option Addr} {c : Nat} {s L Q : List UInt8} {i : Nat} {v : Value} {W W' : World} (hg : Fr (fun _ => False) W W') (hx : mkX b3 g A c s L Q i v W) : mkX b3 g A c s L Q i v W' := by
  match i with
  | 0 => exact hx
  | 1 => exact hx
  | 2 => exact hx
  | 3 => exact hx
  | 4 => exact hx
  | 5 => exact hx
  | 6 => exact hx
  | 7 => obtain ⟨a7, c7, e, h1, h2, r⟩ := hx; exact ⟨a7, c7, e, h1, h2, r.far hg⟩
  | 8 => obtain ⟨g8, e, r⟩ := hx; exact ⟨g8, e, r.far hg⟩
  | 9 => exact hx
  | (n + 10) => exact hx
set_option maxRecDepth 100000 in
set_option maxHeartbeats 2000000 in
theorem make_null (w : World) (g : Nat) (s : List UInt8) (dl : Int) (hs : s.length = 16) (hp : (g = 0 ∧ s = zN ∧ dl = 0) ∨ (mayG g = true ∧ 1 ≤ g ∧ dl = 1)) (hg : g < 4611686018427387903) (hL : LaidOk w) :
    Calls Tryz.prog 6 #[.agg (rc g s).toArray, .int .i64 dl, .agg nul] w fun e w' => ∃ q : List UInt8, q.length = 16 ∧ e = .returned (.tuple #[.agg (rc (g + 1) q).toArray, .int .i64 0]) ∧ Fr (fun _ => False) w w' := by
  have hneq := fun W => run_neq_rev g 0 s zN hs rfl W
  simp only [show (rc 0 zN).toArray = #[.int .u64 0, .int .u8 0, .int .u8 0, .int .u8 0, .int .u8 0, .int .u8 0, .int .u8 0, .int .u8 0, .int .u8 0, .int .u8 0, .int .u8 0, .int .u8 0, .int .u8 0, .int .u8 0, .int .u8 0, .int .u8 0, .int .u8 0] from rfl] at hneq
  have hmay := fun W => may_c W g s hs (by omega)
  have hc0 : (rc g s).toArray[0]? = some (.int .u64 (g : Nat)) := rfl
  have hrng : ∀ W b, Blk W b 25 (rc g s).toArray → W.rangeAt b 0 (rc g s) := fun W b hb => hb.rng
  have hrow : ∀ W b, Blk W b 25 (rc g s).toArray → Rd W (some ⟨b, 1, none⟩) 16 (bv s) := fun W b hb => by
    refine ⟨by rw [bv_length, hs], fun _ => ⟨_, rfl, fun j u hu => ?_⟩⟩
    rw [Addr.add_lit, hb.cell, List.getElem?_toArray, Nat.add_comm]
    exact hu
  have hlen : (Tryz.prog.info? 25).map (·.size) = some (rc g s).length := by rw [rc_len hs]; kernel_rfl
  have HMAY := Lib.hid hmay
  have HROW := Lib.hid hrow
  have HRNG := Lib.hid hrng
  have HLEN := Lib.hid hlen
  have HC0 := Lib.hid hc0
  have HL := Lib.hid hL
  have HS := Lib.hid hs
  clear hmay hrow hrng hlen hc0 hL hs
  go_enter Tryz.func6, Tryz.ntmps6
  go_upto_region 1 with fail
  refine abs_world (fun W => Hid (Blk W w.heap.size 25 (rc g s).toArray) ∧ Hid (Blk W (w.heap.size + 1) 29 nul) ∧ Hid (Blk W (w.heap.size + 1 + 1) 25 (rc 0 zN).toArray) ∧ Hid (Fr (fun _ => False) w W)) ⟨?_, ?_, ?_, (((Fr.refl _ w).alloc _).alloc _).alloc _⟩ ?_
  · exact ((Blk.new w _ _).alloc _).alloc _
  · have h := Blk.new (w.alloc (.cells (rc g s).toArray 25)) 29 nul
    rw [World.size_alloc] at h
    exact h.alloc _
  · have h := Blk.new ((w.alloc (.cells (rc g s).toArray 25)).alloc (.cells nul 29)) 25 (rc 0 zN).toArray
    rw [World.size_alloc, World.size_alloc] at h
    exact h
  rintro W1 ⟨P1, V1, R1, F1⟩
  obtain ⟨b6, hb6⟩ : ∃ b, w.heap.size + 1 + 1 = b := ⟨_, rfl⟩
  rw [hb6] at R1 ⊢
  obtain ⟨b5, hb5⟩ : ∃ b, w.heap.size + 1 = b := ⟨_, rfl⟩
  rw [hb5] at V1 ⊢
  obtain ⟨b3, hb3⟩ : ∃ b, w.heap.size = b := ⟨_, rfl⟩
  rw [hb3] at P1 ⊢
  have HB : Hid (w.heap.size = b3 ∧ b3 < b5 ∧ b5 < b6) := ⟨hb3, by omega, by omega⟩
  clear hb6 hb5 hb3
  have k0 : W1.cell? ⟨b5, 0, none⟩ = some (.int .i64 0) := V1.out.cell 0
  have k1 : W1.cell? ⟨b5, 1, none⟩ = some (.int .i64 0) := V1.out.cell 1
  have k2 : W1.cell? ⟨b5, 2, none⟩ = some (.string ⟨#[]⟩) := V1.out.cell 2
  have k3 : W1.cell? ⟨b5, 3, none⟩ = some (.slice none 0 0) := V1.out.cell 3
  have k4 : W1.cell? ⟨b5, 4, none⟩ = some (.slice none 0 0) := V1.out.cell 4
  go_upto_region 2 with (
    (go_at_call 15
     refine (vprint_null W1).mono ?_
     rintro e W2 ⟨rfl, f2⟩
     have F2 := Lib.hid (F1.out.trans f2 (fun _ _ h => h))
     have P2 := Lib.hid (P1.out.fr f2 (fun h => h))
     have R2 := Lib.hid (R1.out.fr f2 (fun h => h))
     clear f2))
  clear k0 k1 k2 k3 k4 F1 P1 V1 R1
  have RG2 := Lib.hid (HRNG.out _ _ P2.out)
  have hg0 : ((g : Int) == 4611686018427387903) = false := by
    rw [beq_eq_false_iff_ne]
    omega
  have c0 : W2.cell? ⟨b3, 0, none⟩ = some (.int .u64 (g : Nat)) := by rw [P2.out.cell]; exact HC0.out
  have hways : (decide (g = 0 ∧ s = zN) = true ∧ dl = 0) ∨ (decide (g = 0 ∧ s = zN) = false ∧ mayG g = true ∧ dl = 1) := by
    rcases hp with ⟨h1, h2, h3⟩ | ⟨h1, h2, h3⟩
    · exact .inl ⟨decide_eq_true ⟨h1, h2⟩, h3⟩
    · exact .inr ⟨decide_eq_false (fun h => by omega), h1, h3⟩
  have HNEQ := Lib.hid hneq
  clear hp hneq
  have hb := HB.out.1
  rcases hways with ⟨h1, rfl⟩ | ⟨h1, h2, rfl⟩
  case inl =>
    have hneq := HNEQ.out
    simp only [h1] at hneq
    have F3 := Lib.hid F2.out
    have P3 := Lib.hid P2.out
    have R3 := Lib.hid R2.out
    obtain ⟨W3, rfl⟩ : ∃ W, W = W2 := ⟨_, rfl⟩
    skip
    all_goals
      go_upto_region 6 with (first
        | refine wpList_load_g rfl 25 _ rfl b3 0 rfl (rc g s) _ RG2.out Tryz.underlying25 rfl HLEN.out ?_)
      clear F2 P2 R2 c0 hg0 RG2 hneq h1
      go_wp2_with fail
      refine abs_world (fun W => Hid (W.ownsRow b3 5 1 (.slice (some ⟨W3.heap.size, 0, none⟩) 1 1) 1 (bv [0])) ∧ Hid (Blk W b3 25 (rc g s).toArray) ∧ Hid (Blk W b6 25 (rc 0 zN).toArray) ∧ Hid (Fr (fun _ => False) w W)) ⟨own_lits W3 b3 _ 1 rfl (by rw [← hb]; exact F3.out.size) (by unfold maxLen; omega), P3.out.alloc _, R3.out.alloc _, F3.out.alloc _⟩ ?_
      rintro W4 ⟨O4, P4, R4, F4⟩
      generalize W3.heap.size = q3 at *
      clear F3 P3 R3
      obtain ⟨i0, hi0, hz0', hz1', hz2'⟩ := info_parts u8_info
      have HI0 := Lib.hid hi0
      clear hi0
      go_loopw [10, 11] (fun hv sv wr => ∃ (k : Nat) (A : Option Addr) (c : Nat) (l : List UInt8) (n : Int), hv = .slice A (k + 1) c ∧ sv = .int .i64 n ∧ n = 56 - 8 * (k : Int) ∧ k ≤ 8 ∧ Hid (wr.ownsRow b3 5 1 (.slice A (k + 1) c) (k + 1) (bv l)) ∧ Hid (Blk wr b3 25 (rc g s).toArray) ∧ Hid (Blk wr b6 25 (rc 0 zN).toArray) ∧ Hid (Fr (fun _ => False) w wr)) (fun _ sv _ => (intOf sv + 8).toNat)
      case atStart => exact ⟨0, _, _, [0], 56, rfl, rfl, by omega, by omega, O4.out, P4.out, R4.out, F4.out⟩
      case round =>
        obtain ⟨k, A, c, l, n, rfl, rfl, hn, hk, o5, P5, R5, F5⟩ := hrel
        by_cases hlt : k < 8
        case pos =>
          have hn0 : 0 ≤ n := by omega
          have hn56 : n ≤ 56 := by omega
          have hdl : decide (0 ≤ n) = true := decide_eq_true hn0
          have c0 : wr.cell? ⟨b3, 0, none⟩ = some (.int .u64 (g : Nat)) := by rw [P5.out.cell]; exact HC0.out
          obtain ⟨x, hx, hx2⟩ : ∃ x : Nat, (g : Int) / 2 ^ (56 - 8 * k) % 256 = (x : Int) ∧ x < 256 := by
            have h1 := Int.emod_nonneg ((g : Int) / 2 ^ (56 - 8 * k)) (show (256 : Int) ≠ 0 by decide)
            have h2 := Int.emod_lt_of_pos ((g : Int) / 2 ^ (56 - 8 * k)) (show (0 : Int) < 256 by decide)
            exact ⟨((g : Int) / 2 ^ (56 - 8 * k) % 256).toNat, by omega, by omega⟩
          have hzb : b3 ≤ wr.heap.size := by rw [← hb]; exact F5.out.size
          go_wp2_with (
            (at_builtin
             refine wpList_app rfl (.tmp 49) (.tmp 55) _ _ rfl b3 5 i0 _ 1 1 Tryz.underlying43 HI0.out hz0' hz1' hz2' rfl _ (k + 1) _ rfl (own_fr o5.out ((Fr.refl (fun _ => False) wr).alloc _) (fun _ _ h => h)) _ 1 [.int .u8 (x : Nat)] rfl (Src.rd Tryz.underlying43 _ (Rd.of_blk (Blk.new wr 5 #[.int .u8 (x : Nat)]) (Nat.le_refl _)) (by simp [Value.oneCell'])) (by omega) (by unfold maxLen; omega) (by rw [World.size_alloc]; exact Nat.le_succ_of_le hzb) ?_
             intro v6 w6 o6 f6 n6
             have F6 := Lib.hid ((F5.out.alloc (.cells #[.int .u8 (x : Nat)] 5)).trans f6 (fun i hi hq => by have := (o5.out.lt i hq).1; omega))
             have P6 := Lib.hid ((P5.out.alloc (.cells #[.int .u8 (x : Nat)] 5)).fr f6 (fun hq => (own_blk_ne o5.out P5.out (by decide)) hq))
             have R6 := Lib.hid ((R5.out.alloc (.cells #[.int .u8 (x : Nat)] 5)).fr f6 (fun hq => (own_blk_ne o5.out R5.out (by decide)) hq))
             have O6 := Lib.hid o6
             obtain ⟨A6, c6, rfl, -, -⟩ := own_slice o6
             clear o6 f6 n6))
          have O7 : Hid (w6.ownsRow b3 5 1 (.slice A6 (k + 1 + 1) c6) (k + 1 + 1) (bv (l ++ [UInt8.ofNat x]))) := by
            have h := O6.out
            rw [show bv (l ++ [UInt8.ofNat x]) = bv l ++ [.int .u8 (x : Nat)] by simp [bv]; omega]
            exact h
          exact ⟨⟨k + 1, A6, c6, l ++ [UInt8.ofNat x], 56 - 8 * (k : Int) - 8, rfl, rfl, by omega, by omega, O7, P6.out, R6.out, F6.out⟩, by simp [intOf]; omega⟩
        case neg =>
          obtain rfl : k = 8 := by omega
          obtain rfl : n = -8 := by omega
          have hdl : decide ((0 : Int) ≤ -8) = false := by decide
          obtain ⟨L, rfl⟩ : ∃ L, L = l := ⟨_, rfl⟩
          have HLL : Hid (L.length = 9) := by
            have h := o5.out.1
            rw [bv_length] at h
            exact h
          have HCC : Hid (9 ≤ c ∧ c ≤ maxLen) := by
            obtain ⟨A9, c9, e9, h1, h2⟩ := own_slice o5.out
            injection e9 with e1 e2 e3
            subst e3
            exact ⟨h1, h2⟩
          have RDL := Lib.hid (fun (W : World) (hW : Fr (fun _ => False) wr W) => (Rd.of_own o5.out).far hW)
          have ROW := Lib.hid (fun (W : World) (hW : Fr (fun _ => False) wr W) => HROW.out W b3 (P5.out.fr hW (fun h => h)))
          have hsh := fun (W : World) (g8 : Nat) (hW : Fr (fun _ => False) wr W) (hr : RdB W (some ⟨g8, 0, none⟩) 3 [L, s, [110, 117, 108, 108]]) => short_c W (some ⟨g8, 0, none⟩) 3 3 _ hr (by omega) (by simp [HLL.out, HS.out]) ((HL.out.far (F5.out.trans hW (fun _ _ h => h))).tabs)
          obtain ⟨Q, hQ⟩ : ∃ Q, sumL (begL 16) 0 [L, s, [110, 117, 108, 108]].flatten 16 = Q := ⟨_, rfl⟩
          simp only [hQ] at hsh
          have hQl : Q.length = 16 := by rw [← hQ]; exact bytesL_len _ _
          have HSH := Lib.hid hsh
          have HQL := Lib.hid hQl
          have HBD := Lib.hid (build_rev (g + 1) Q hQl)
          have hgw : IntKind.u64.wrap ((g : Int) + 1) = (g : Int) + 1 := by rw [IntKind.wrap_u64]; omega
          clear hsh hQ hQl hn hk hlt
          go_upto_region 11 with fail
          clear hdl
          refine (wpIn_wide (n := 9)).1 ?_
          refine wpIn_region_factsG (ms := [0, 1, 3, 0, 0, 16, 0, 64, 248, 504, 1023, 2047, 4095]) (k := 10) (Fr (fun _ => False)) (mkX b3 g A c s L Q) (fun i v W => True) (by kernel_rfl) (by kernel_rfl) (Fr.refl _ _) (fun a b c h1 h2 => h1.trans h2 (fun _ _ h => h)) (fun i v w w' hg hx => mkX_far hg hx) ?walk11
          case walk11 =>
          have hdr : ∀ W, Fr (fun _ => False) wr.drew W → Fr (fun _ => False) wr W := fun W h => ((Fr.refl (fun _ => False) wr).drew).trans h (fun _ _ h => h)
          have HDR := Lib.hid hdr
          clear hdr
          refine factWalkG_cons (fun W hW hf K hK => ?_) (fun x0 => ?_)
          · skip
            refine ⟨by kernel_rfl, ?_⟩
            gi_step
            exact hK _ _ (Fr.refl _ _) rfl trivial
          simp only [Act.put, List.setIfInBounds_toArray, List.set_cons_succ, List.set_cons_zero]
          refine factWalkG_cons (fun W hW hf K hK => ?_) (fun x1 => ?_)
          · skip
            have e0 : x0 = .pointer (some ⟨b3, 0, none⟩) := hf 0 (by omega) (by kernel_rfl)
            subst e0
            have c0 : W.cell? ⟨b3, 0, none⟩ = some (.int .u64 (g : Nat)) := by rw [(P5.out.fr (HDR.out W hW) (fun h => h)).cell]; exact HC0.out
            refine ⟨by kernel_rfl, ?_⟩
            gi_step
            exact hK _ _ (Fr.refl _ _) rfl trivial
          simp only [Act.put, List.setIfInBounds_toArray, List.set_cons_succ, List.set_cons_zero]
          refine factWalkG_cons (fun W hW hf K hK => ?_) (fun x2 => ?_)
          · skip
            have e1 : x1 = .int .u64 (g : Nat) := hf 1 (by omega) (by kernel_rfl)
            subst e1
            refine ⟨by kernel_rfl, ?_⟩
            gi_step
            exact hK _ _ (Fr.refl _ _) rfl trivial
          simp only [Act.put, List.setIfInBounds_toArray, List.set_cons_succ, List.set_cons_zero]
          refine factWalkG_cons (fun W hW hf K hK => ?_) (fun x3 => ?_)
          · skip
            refine ⟨by kernel_rfl, ?_⟩
            gi_step
            exact hK _ _ (Fr.refl _ _) rfl trivial
          simp only [Act.put, List.setIfInBounds_toArray, List.set_cons_succ, List.set_cons_zero]
          refine factWalkG_cons (fun W hW hf K hK => ?_) (fun x4 => ?_)
          · skip
            refine ⟨by kernel_rfl, ?_⟩
            gi_step
            exact hK _ _ (Fr.refl _ _) rfl trivial
          simp only [Act.put, List.setIfInBounds_toArray, List.set_cons_succ, List.set_cons_zero]
          refine factWalkG_cons (fun W hW hf K hK => ?_) (fun x5 => ?_)
          · skip
            have e4 : x4 = .pointer (some ⟨b3, 1, none⟩) := hf 4 (by omega) (by kernel_rfl)
            subst e4
            refine ⟨by kernel_rfl, ?_⟩
            gi_step
            exact hK _ _ (Fr.refl _ _) rfl trivial
          simp only [Act.put, List.setIfInBounds_toArray, List.set_cons_succ, List.set_cons_zero]
          refine factWalkG_cons (fun W hW hf K hK => ?_) (fun x6 => ?_)
          · skip
            refine ⟨by kernel_rfl, ?_⟩
            gi_step
            exact hK _ _ (Fr.refl _ _) rfl trivial
          simp only [Act.put, List.setIfInBounds_toArray, List.set_cons_succ, List.set_cons_zero]
          refine factWalkG_cons (fun W hW hf K hK => ?_) (fun x7 => ?_)
          · skip
            have e6 : x6 = .string (strOf [110, 117, 108, 108]) := hf 6 (by omega) (by kernel_rfl)
            subst e6
            have hcv := Lib.run_convert_string_bytes (P := Tryz.prog) W 9 43 5 (strOf [110, 117, 108, 108]) Tryz.underlying9 Tryz.underlying43 Tryz.underlying5
            refine ⟨by kernel_rfl, ?_⟩
            gi_step
            exact hK _ _ (conv_fr W _) ⟨_, _, rfl, grownCap_ge _ _ _ _, grownCap_le_maxLen _ _ _ _ (by unfold maxLen; decide), conv_rd W _⟩ trivial
          simp only [Act.put, List.setIfInBounds_toArray, List.set_cons_succ, List.set_cons_zero]
          refine factWalkG_cons (fun W hW hf K hK => ?_) (fun x8 => ?_)
          · skip
            have e3 : x3 = .slice A 9 c := hf 3 (by omega) (by kernel_rfl)
            have e5 : x5 = .slice (some ⟨b3, 1, none⟩) 16 16 := hf 5 (by omega) (by kernel_rfl)
            obtain ⟨a7, c7, e7, l7, m7, r7⟩ : ∃ a7 c7, x7 = .slice a7 4 c7 ∧ 4 ≤ c7 ∧ c7 ≤ maxLen ∧ Rd W a7 4 (bv [110, 117, 108, 108]) := hf 7 (by omega) (by kernel_rfl)
            subst e3 e5 e7
            refine ⟨by kernel_rfl, ?_⟩
            gi_step
            exact hK _ _ ((Fr.refl _ _).alloc _) ⟨_, rfl, rows3 W A c b3 a7 c7 L s [110, 117, 108, 108] HLL.out HS.out rfl HCC.out ⟨l7, m7⟩ (ROW.out W (HDR.out W hW)) (RDL.out W (HDR.out W hW)) r7⟩ trivial
          simp only [Act.put, List.setIfInBounds_toArray, List.set_cons_succ, List.set_cons_zero]
          refine factWalkG_cons (fun W hW hf K hK => ?_) (fun x9 => ?_)
          · skip
            obtain ⟨g8, e8, r8⟩ : ∃ g8, x8 = .slice (some ⟨g8, 0, none⟩) 3 3 ∧ RdB W (some ⟨g8, 0, none⟩) 3 [L, s, [110, 117, 108, 108]] := hf 8 (by omega) (by kernel_rfl)
            subst e8
            refine ⟨by kernel_rfl, ?_⟩
            gi_step
            refine ⟨trivial, ?_⟩
            refine (callsIn_wide.2 (HSH.out W g8 (HDR.out W hW) r8)).mono ?_
            rintro e W' ⟨rfl, f2⟩
            dsimp only
            exact hK _ _ f2 rfl trivial
          simp only [Act.put, List.setIfInBounds_toArray, List.set_cons_succ, List.set_cons_zero]
          refine factWalkG_nil (fun W hW hf11 hmet => ?_)
          have e2 : x2 = .int .u64 ((g : Int) + 1) := hf11 2 (by omega)
          have e9 : x9 = .agg (b16 Q) := hf11 9 (by omega)
          subst e2 e9
          have hWf := HDR.out W hW
          have R9 := Lib.hid (R5.out.fr hWf (fun h => h))
          have F9 := Lib.hid (F5.out.trans hWf (fun _ _ h => h))
          have hbd := HBD.out
          rw [show ((g + 1 : Nat) : Int) = (g : Int) + 1 by omega] at hbd
          clear hf11 hmet hWf hW HDR F5 R5 P5 o5
          change wpAnyIn _ _ _ _ _ _ 3 _ _ _
          refine wpAnyIn_ready (rs := [10]) (by kernel_rfl) (by simp) ?_
          refine AllReadyIn.cons rfl (fun K hK => ?_) AllReadyIn.nil
          refine stepIn_build rfl 25 0 1 (.tmp 59) (.tmp 66) rfl _ _ rfl rfl (hbd W) ?_
          refine hK _ _ ?_
          clear hK K hbd
          have HSZ := Lib.hid (tRev_size (g := g + 1) (s := Q) HQL.out)
          have HTH : Hid (W.there b6 0 (rc (g + 1) Q).toArray.size) := by have h := R9.out.there; rw [List.size_toArray, rc_len HQL.out]; exact h
          have HST := Lib.hid (R9.out.setAll (ds := (rc (g + 1) Q).toArray) (by rw [List.size_toArray, List.size_toArray, rc_len HQL.out]; rfl))
          have FST := Lib.hid (Fr.setCells (fp := fun k => k = b6) (a := W) (g := b6) (fun _ => rfl) (rc (g + 1) Q) 0 W (Fr.refl _ _))
          have hsto := run_storeAt_mid (P := Tryz.prog) W b6 0 25 (rc (g + 1) Q).toArray HTH.out HSZ.out (rc_all (g + 1) Q)
          refine wpAnyIn_ready (rs := [11]) (by kernel_rfl) (by simp) ?_
          refine AllReadyIn.cons rfl (fun K hK => ?_) AllReadyIn.nil
          refine stepIn_store rfl 25 _ _ rfl _ _ rfl rfl hsto ?_
          refine hK _ _ ?_
          clear hK K hsto
          refine wpAnyIn_ready (rs := [12]) (by kernel_rfl) (by simp) ?_
          refine AllReadyIn.cons rfl (fun K hK => ?_) AllReadyIn.nil
          go_simp
          refine hK _ _ ?_
          refine wpAnyIn_done (by kernel_rfl) ?_ _
          clear hK K
          generalize W.setCells b6 0 (rc (g + 1) Q).toArray.toList = w9 at *
          go_wp2_with fail
          refine bodyPost_ret (v := .tuple #[.agg (rc (g + 1) Q).toArray, .int .i64 0]) (results_two Tryz.results6 _ _ b6 25 (rc (g + 1) Q).toArray (0, 0) _ rfl HST.out Tryz.underlying25 rfl HSZ.out) rfl ⟨Q, HQL.out, rfl, F9.out.trans FST.out (fun k hk e => by have := HB.out; omega)⟩
  case inr =>
    have hneq := HNEQ.out
    have hm := HMAY.out W2
    rw [h2] at hm
    have HM := Lib.hid hm
    simp only [h1] at hneq
    clear hm
    skip
    all_goals
      go_upto_region 3 with (first
        | refine wpList_load_g rfl 25 _ rfl b3 0 rfl (rc g s) _ RG2.out Tryz.underlying25 rfl HLEN.out ?_
        | (go_at_call 8
           refine HM.out.mono ?_
           rintro e W3 ⟨rfl, f3⟩
           have F3 := Lib.hid (F2.out.trans f3 (fun _ _ h => h))
           have P3 := Lib.hid (P2.out.fr f3 (fun h => h))
           have R3 := Lib.hid (R2.out.fr f3 (fun h => h))
           have c3 : W3.cell? ⟨b3, 0, none⟩ = some (.int .u64 (g : Nat)) := by rw [P3.out.cell]; exact HC0.out
           clear f3))
      go_upto_region 6 with fail
      clear F2 P2 R2 c0 c3 hg0 RG2 hneq h1 h2 HM
      go_wp2_with fail
      refine abs_world (fun W => Hid (W.ownsRow b3 5 1 (.slice (some ⟨W3.heap.size, 0, none⟩) 1 1) 1 (bv [1])) ∧ Hid (Blk W b3 25 (rc g s).toArray) ∧ Hid (Blk W b6 25 (rc 0 zN).toArray) ∧ Hid (Fr (fun _ => False) w W)) ⟨own_lits W3 b3 _ 1 rfl (by rw [← hb]; exact F3.out.size) (by unfold maxLen; omega), P3.out.alloc _, R3.out.alloc _, F3.out.alloc _⟩ ?_
      rintro W4 ⟨O4, P4, R4, F4⟩
      generalize W3.heap.size = q3 at *
      clear F3 P3 R3
      obtain ⟨i0, hi0, hz0', hz1', hz2'⟩ := info_parts u8_info
      have HI0 := Lib.hid hi0
      clear hi0
      go_loopw [10, 11] (fun hv sv wr => ∃ (k : Nat) (A : Option Addr) (c : Nat) (l : List UInt8) (n : Int), hv = .slice A (k + 1) c ∧ sv = .int .i64 n ∧ n = 56 - 8 * (k : Int) ∧ k ≤ 8 ∧ Hid (wr.ownsRow b3 5 1 (.slice A (k + 1) c) (k + 1) (bv l)) ∧ Hid (Blk wr b3 25 (rc g s).toArray) ∧ Hid (Blk wr b6 25 (rc 0 zN).toArray) ∧ Hid (Fr (fun _ => False) w wr)) (fun _ sv _ => (intOf sv + 8).toNat)
      case atStart => exact ⟨0, _, _, [1], 56, rfl, rfl, by omega, by omega, O4.out, P4.out, R4.out, F4.out⟩
      case round =>
        obtain ⟨k, A, c, l, n, rfl, rfl, hn, hk, o5, P5, R5, F5⟩ := hrel
        by_cases hlt : k < 8
        case pos =>
          have hn0 : 0 ≤ n := by omega
          have hn56 : n ≤ 56 := by omega
          have hdl : decide (0 ≤ n) = true := decide_eq_true hn0
          have c0 : wr.cell? ⟨b3, 0, none⟩ = some (.int .u64 (g : Nat)) := by rw [P5.out.cell]; exact HC0.out
          obtain ⟨x, hx, hx2⟩ : ∃ x : Nat, (g : Int) / 2 ^ (56 - 8 * k) % 256 = (x : Int) ∧ x < 256 := by
            have h1 := Int.emod_nonneg ((g : Int) / 2 ^ (56 - 8 * k)) (show (256 : Int) ≠ 0 by decide)
            have h2 := Int.emod_lt_of_pos ((g : Int) / 2 ^ (56 - 8 * k)) (show (0 : Int) < 256 by decide)
            exact ⟨((g : Int) / 2 ^ (56 - 8 * k) % 256).toNat, by omega, by omega⟩
          have hzb : b3 ≤ wr.heap.size := by rw [← hb]; exact F5.out.size
          go_wp2_with (
            (at_builtin
             refine wpList_app rfl (.tmp 49) (.tmp 55) _ _ rfl b3 5 i0 _ 1 1 Tryz.underlying43 HI0.out hz0' hz1' hz2' rfl _ (k + 1) _ rfl (own_fr o5.out ((Fr.refl (fun _ => False) wr).alloc _) (fun _ _ h => h)) _ 1 [.int .u8 (x : Nat)] rfl (Src.rd Tryz.underlying43 _ (Rd.of_blk (Blk.new wr 5 #[.int .u8 (x : Nat)]) (Nat.le_refl _)) (by simp [Value.oneCell'])) (by omega) (by unfold maxLen; omega) (by rw [World.size_alloc]; exact Nat.le_succ_of_le hzb) ?_
             intro v6 w6 o6 f6 n6
             have F6 := Lib.hid ((F5.out.alloc (.cells #[.int .u8 (x : Nat)] 5)).trans f6 (fun i hi hq => by have := (o5.out.lt i hq).1; omega))
             have P6 := Lib.hid ((P5.out.alloc (.cells #[.int .u8 (x : Nat)] 5)).fr f6 (fun hq => (own_blk_ne o5.out P5.out (by decide)) hq))
             have R6 := Lib.hid ((R5.out.alloc (.cells #[.int .u8 (x : Nat)] 5)).fr f6 (fun hq => (own_blk_ne o5.out R5.out (by decide)) hq))
             have O6 := Lib.hid o6
             obtain ⟨A6, c6, rfl, -, -⟩ := own_slice o6
             clear o6 f6 n6))
          have O7 : Hid (w6.ownsRow b3 5 1 (.slice A6 (k + 1 + 1) c6) (k + 1 + 1) (bv (l ++ [UInt8.ofNat x]))) := by
            have h := O6.out
            rw [show bv (l ++ [UInt8.ofNat x]) = bv l ++ [.int .u8 (x : Nat)] by simp [bv]; omega]
            exact h
          exact ⟨⟨k + 1, A6, c6, l ++ [UInt8.ofNat x], 56 - 8 * (k : Int) - 8, rfl, rfl, by omega, by omega, O7, P6.out, R6.out, F6.out⟩, by simp [intOf]; omega⟩
        case neg =>
          obtain rfl : k = 8 := by omega
          obtain rfl : n = -8 := by omega
          have hdl : decide ((0 : Int) ≤ -8) = false := by decide
          obtain ⟨L, rfl⟩ : ∃ L, L = l := ⟨_, rfl⟩
          have HLL : Hid (L.length = 9) := by
            have h := o5.out.1
            rw [bv_length] at h
            exact h
          have HCC : Hid (9 ≤ c ∧ c ≤ maxLen) := by
            obtain ⟨A9, c9, e9, h1, h2⟩ := own_slice o5.out
            injection e9 with e1 e2 e3
            subst e3
            exact ⟨h1, h2⟩
          have RDL := Lib.hid (fun (W : World) (hW : Fr (fun _ => False) wr W) => (Rd.of_own o5.out).far hW)
          have ROW := Lib.hid (fun (W : World) (hW : Fr (fun _ => False) wr W) => HROW.out W b3 (P5.out.fr hW (fun h => h)))
          have hsh := fun (W : World) (g8 : Nat) (hW : Fr (fun _ => False) wr W) (hr : RdB W (some ⟨g8, 0, none⟩) 3 [L, s, [110, 117, 108, 108]]) => short_c W (some ⟨g8, 0, none⟩) 3 3 _ hr (by omega) (by simp [HLL.out, HS.out]) ((HL.out.far (F5.out.trans hW (fun _ _ h => h))).tabs)
          obtain ⟨Q, hQ⟩ : ∃ Q, sumL (begL 16) 0 [L, s, [110, 117, 108, 108]].flatten 16 = Q := ⟨_, rfl⟩
          simp only [hQ] at hsh
          have hQl : Q.length = 16 := by rw [← hQ]; exact bytesL_len _ _
          have HSH := Lib.hid hsh
          have HQL := Lib.hid hQl
          have HBD := Lib.hid (build_rev (g + 1) Q hQl)
          have hgw : IntKind.u64.wrap ((g : Int) + 1) = (g : Int) + 1 := by rw [IntKind.wrap_u64]; omega
          clear hsh hQ hQl hn hk hlt
          go_upto_region 11 with fail
          clear hdl
          refine (wpIn_wide (n := 9)).1 ?_
          refine wpIn_region_factsG (ms := [0, 1, 3, 0, 0, 16, 0, 64, 248, 504, 1023, 2047, 4095]) (k := 10) (Fr (fun _ => False)) (mkX b3 g A c s L Q) (fun i v W => True) (by kernel_rfl) (by kernel_rfl) (Fr.refl _ _) (fun a b c h1 h2 => h1.trans h2 (fun _ _ h => h)) (fun i v w w' hg hx => mkX_far hg hx) ?walk11
          case walk11 =>
          have hdr : ∀ W, Fr (fun _ => False) wr.drew W → Fr (fun _ => False) wr W := fun W h => ((Fr.refl (fun _ => False) wr).drew).trans h (fun _ _ h => h)
          have HDR := Lib.hid hdr
          clear hdr
          refine factWalkG_cons (fun W hW hf K hK => ?_) (fun x0 => ?_)
          · skip
            refine ⟨by kernel_rfl, ?_⟩
            gi_step
            exact hK _ _ (Fr.refl _ _) rfl trivial
          simp only [Act.put, List.setIfInBounds_toArray, List.set_cons_succ, List.set_cons_zero]
          refine factWalkG_cons (fun W hW hf K hK => ?_) (fun x1 => ?_)
          · skip
            have e0 : x0 = .pointer (some ⟨b3, 0, none⟩) := hf 0 (by omega) (by kernel_rfl)
            subst e0
            have c0 : W.cell? ⟨b3, 0, none⟩ = some (.int .u64 (g : Nat)) := by rw [(P5.out.fr (HDR.out W hW) (fun h => h)).cell]; exact HC0.out
            refine ⟨by kernel_rfl, ?_⟩
            gi_step
            exact hK _ _ (Fr.refl _ _) rfl trivial
          simp only [Act.put, List.setIfInBounds_toArray, List.set_cons_succ, List.set_cons_zero]
          refine factWalkG_cons (fun W hW hf K hK => ?_) (fun x2 => ?_)
          · skip
            have e1 : x1 = .int .u64 (g : Nat) := hf 1 (by omega) (by kernel_rfl)
            subst e1
            refine ⟨by kernel_rfl, ?_⟩
            gi_step
            exact hK _ _ (Fr.refl _ _) rfl trivial
          simp only [Act.put, List.setIfInBounds_toArray, List.set_cons_succ, List.set_cons_zero]
          refine factWalkG_cons (fun W hW hf K hK => ?_) (fun x3 => ?_)
          · skip
            refine ⟨by kernel_rfl, ?_⟩
            gi_step
            exact hK _ _ (Fr.refl _ _) rfl trivial
          simp only [Act.put, List.setIfInBounds_toArray, List.set_cons_succ, List.set_cons_zero]
          refine factWalkG_cons (fun W hW hf K hK => ?_) (fun x4 => ?_)
          · skip
            refine ⟨by kernel_rfl, ?_⟩
            gi_step
            exact hK _ _ (Fr.refl _ _) rfl trivial
          simp only [Act.put, List.setIfInBounds_toArray, List.set_cons_succ, List.set_cons_zero]
          refine factWalkG_cons (fun W hW hf K hK => ?_) (fun x5 => ?_)
          · skip
            have e4 : x4 = .pointer (some ⟨b3, 1, none⟩) := hf 4 (by omega) (by kernel_rfl)
            subst e4
            refine ⟨by kernel_rfl, ?_⟩
            gi_step
            exact hK _ _ (Fr.refl _ _) rfl trivial
          simp only [Act.put, List.setIfInBounds_toArray, List.set_cons_succ, List.set_cons_zero]
          refine factWalkG_cons (fun W hW hf K hK => ?_) (fun x6 => ?_)
          · skip
            refine ⟨by kernel_rfl, ?_⟩
            gi_step
            exact hK _ _ (Fr.refl _ _) rfl trivial
          simp only [Act.put, List.setIfInBounds_toArray, List.set_cons_succ, List.set_cons_zero]
          refine factWalkG_cons (fun W hW hf K hK => ?_) (fun x7 => ?_)
          · skip
            have e6 : x6 = .string (strOf [110, 117, 108, 108]) := hf 6 (by omega) (by kernel_rfl)
            subst e6
            have hcv := Lib.run_convert_string_bytes (P := Tryz.prog) W 9 43 5 (strOf [110, 117, 108, 108]) Tryz.underlying9 Tryz.underlying43 Tryz.underlying5
            refine ⟨by kernel_rfl, ?_⟩
            gi_step
            exact hK _ _ (conv_fr W _) ⟨_, _, rfl, grownCap_ge _ _ _ _, grownCap_le_maxLen _ _ _ _ (by unfold maxLen; decide), conv_rd W _⟩ trivial
          simp only [Act.put, List.setIfInBounds_toArray, List.set_cons_succ, List.set_cons_zero]
          refine factWalkG_cons (fun W hW hf K hK => ?_) (fun x8 => ?_)
          · skip
            have e3 : x3 = .slice A 9 c := hf 3 (by omega) (by kernel_rfl)
            have e5 : x5 = .slice (some ⟨b3, 1, none⟩) 16 16 := hf 5 (by omega) (by kernel_rfl)
            obtain ⟨a7, c7, e7, l7, m7, r7⟩ : ∃ a7 c7, x7 = .slice a7 4 c7 ∧ 4 ≤ c7 ∧ c7 ≤ maxLen ∧ Rd W a7 4 (bv [110, 117, 108, 108]) := hf 7 (by omega) (by kernel_rfl)
            subst e3 e5 e7
            refine ⟨by kernel_rfl, ?_⟩
            gi_step
            exact hK _ _ ((Fr.refl _ _).alloc _) ⟨_, rfl, rows3 W A c b3 a7 c7 L s [110, 117, 108, 108] HLL.out HS.out rfl HCC.out ⟨l7, m7⟩ (ROW.out W (HDR.out W hW)) (RDL.out W (HDR.out W hW)) r7⟩ trivial
          simp only [Act.put, List.setIfInBounds_toArray, List.set_cons_succ, List.set_cons_zero]
          refine factWalkG_cons (fun W hW hf K hK => ?_) (fun x9 => ?_)
          · skip
            obtain ⟨g8, e8, r8⟩ : ∃ g8, x8 = .slice (some ⟨g8, 0, none⟩) 3 3 ∧ RdB W (some ⟨g8, 0, none⟩) 3 [L, s, [110, 117, 108, 108]] := hf 8 (by omega) (by kernel_rfl)
            subst e8
            refine ⟨by kernel_rfl, ?_⟩
            gi_step
            refine ⟨trivial, ?_⟩
            refine (callsIn_wide.2 (HSH.out W g8 (HDR.out W hW) r8)).mono ?_
            rintro e W' ⟨rfl, f2⟩
            dsimp only
            exact hK _ _ f2 rfl trivial
          simp only [Act.put, List.setIfInBounds_toArray, List.set_cons_succ, List.set_cons_zero]
          refine factWalkG_nil (fun W hW hf11 hmet => ?_)
          have e2 : x2 = .int .u64 ((g : Int) + 1) := hf11 2 (by omega)
          have e9 : x9 = .agg (b16 Q) := hf11 9 (by omega)
          subst e2 e9
          have hWf := HDR.out W hW
          have R9 := Lib.hid (R5.out.fr hWf (fun h => h))
          have F9 := Lib.hid (F5.out.trans hWf (fun _ _ h => h))
          have hbd := HBD.out
          rw [show ((g + 1 : Nat) : Int) = (g : Int) + 1 by omega] at hbd
          clear hf11 hmet hWf hW HDR F5 R5 P5 o5
          change wpAnyIn _ _ _ _ _ _ 3 _ _ _
          refine wpAnyIn_ready (rs := [10]) (by kernel_rfl) (by simp) ?_
          refine AllReadyIn.cons rfl (fun K hK => ?_) AllReadyIn.nil
          refine stepIn_build rfl 25 0 1 (.tmp 59) (.tmp 66) rfl _ _ rfl rfl (hbd W) ?_
          refine hK _ _ ?_
          clear hK K hbd
          have HSZ := Lib.hid (tRev_size (g := g + 1) (s := Q) HQL.out)
          have HTH : Hid (W.there b6 0 (rc (g + 1) Q).toArray.size) := by have h := R9.out.there; rw [List.size_toArray, rc_len HQL.out]; exact h
          have HST := Lib.hid (R9.out.setAll (ds := (rc (g + 1) Q).toArray) (by rw [List.size_toArray, List.size_toArray, rc_len HQL.out]; rfl))
          have FST := Lib.hid (Fr.setCells (fp := fun k => k = b6) (a := W) (g := b6) (fun _ => rfl) (rc (g + 1) Q) 0 W (Fr.refl _ _))
          have hsto := run_storeAt_mid (P := Tryz.prog) W b6 0 25 (rc (g + 1) Q).toArray HTH.out HSZ.out (rc_all (g + 1) Q)
          refine wpAnyIn_ready (rs := [11]) (by kernel_rfl) (by simp) ?_
          refine AllReadyIn.cons rfl (fun K hK => ?_) AllReadyIn.nil
          refine stepIn_store rfl 25 _ _ rfl _ _ rfl rfl hsto ?_
          refine hK _ _ ?_
          clear hK K hsto
          refine wpAnyIn_ready (rs := [12]) (by kernel_rfl) (by simp) ?_
          refine AllReadyIn.cons rfl (fun K hK => ?_) AllReadyIn.nil
          go_simp
          refine hK _ _ ?_
          refine wpAnyIn_done (by kernel_rfl) ?_ _
          clear hK K
          generalize W.setCells b6 0 (rc (g + 1) Q).toArray.toList = w9 at *
          go_wp2_with fail
          refine bodyPost_ret (v := .tuple #[.agg (rc (g + 1) Q).toArray, .int .i64 0]) (results_two Tryz.results6 _ _ b6 25 (rc (g + 1) Q).toArray (0, 0) _ rfl HST.out Tryz.underlying25 rfl HSZ.out) rfl ⟨Q, HQL.out, rfl, F9.out.trans FST.out (fun k hk e => by have := HB.out; omega)⟩
end Go.Proofs.YtjaocgmicdnghaaGreatDoor
