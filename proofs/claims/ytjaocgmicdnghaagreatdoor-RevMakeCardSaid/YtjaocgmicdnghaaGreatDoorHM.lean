/-
  Cnd, Mk, in one text (merge.py).
-/
import Derived.Test.YtjaocgmicdnghaaGreatDoorPar3
import Derived.WalkMore
import Derived.Test.YtjaocgmicdnghaaGreatDoorMake
import Derived.Test.YtjaocgmicdnghaaGreatDoorVaHP
import Derived.Test.YtjaocgmicdnghaaGreatDoorVaGCmp

/-
  A REGION IN THE ORDER OF THE TEXT, guards open: each operation's value is a letter, of which it is known what it is if its guard says yes. No program is named here.
-/
namespace Go.Proofs.YtjaocgmicdnghaaGreatDoor
set_option linter.unusedSimpArgs false
set_option linter.unusedVariables false
open Go Go.RowKit

theorem wpList_fact {P : Program} {ops : Array Oper} {Q : Exit → Act → World → Prop} {a : Act} {w : World} {rest : List Oper} {o : Oper} (X : Value → Prop)
    (h1 : ∀ K : Act → World → Prop, (∀ v, X v → K (a.put o.dst v) w) → if Region.wanted o (yielded ops a.tmps) = true then o.wp P a w K Q else K (a.put o.dst undef) w)
    (h2 : ∀ v, X v → wpList P ops Q rest (a.put o.dst v) w) : wpList P ops Q (o :: rest) a w :=
  wpList_step fun K hK => h1 K (fun v hv => hK _ _ (h2 v hv))
theorem wpList_factW {P : Program} {ops : Array Oper} {Q : Exit → Act → World → Prop} {a : Act} {w : World} {rest : List Oper} {o : Oper} (G : World → Prop) (hG : G w) (X : Value → Prop)
    (h1 : ∀ K : Act → World → Prop, (∀ v w', X v → G w' → K (a.put o.dst v) w') → if Region.wanted o (yielded ops a.tmps) = true then o.wp P a w K Q else K (a.put o.dst undef) w)
    (h2 : ∀ v w', X v → G w' → wpList P ops Q rest (a.put o.dst v) w') : wpList P ops Q (o :: rest) a w :=
  wpList_step fun K hK => h1 K (fun v w' hv hw => hK _ _ (h2 v w' hv hw))
theorem ite_yes {b : Bool} {p q : Prop} (hb : b = true) (h : p) : if b = true then p else q := by rw [if_pos hb]; exact h
theorem ite_no {b : Bool} {p q : Prop} (hb : b = false) (h : q) : if b = true then p else q := by rw [if_neg (by rw [hb]; decide)]; exact h
/-- This value where c says yes, none else. -/
def cv (c : Bool) (v : Value) : Value := if c then v else undef
theorem cv_t {c : Bool} {v x : Value} (e : x = cv c v) (h : c = true) : x = v := by rw [e, h]; rfl
theorem cv_f {c : Bool} {v x : Value} (e : x = cv c v) (h : c = false) : x = undef := by rw [e, h]; rfl
theorem cv_yes {c : Bool} {v x : Value} (h : c = true) (e : x = v) : Hid (x = cv c v) := Lib.hid (by rw [e, h]; rfl)
theorem cv_no {c : Bool} {v : Value} (h : c = false) : Hid (undef = cv c v) := Lib.hid (by rw [h]; rfl)
theorem cv_yes0 {c : Bool} {v x : Value} (h : c = true) (e : x = v) : x = cv c v := by rw [e, h]; rfl
theorem cv_no0 {c : Bool} {v : Value} (h : c = false) : undef = cv c v := by rw [h]; rfl
theorem band_l {a b : Bool} (h : (a && b) = true) : a = true := by cases a <;> simp_all
theorem band_r {a b : Bool} (h : (a && b) = true) : b = true := by cases b <;> simp_all
theorem bnot_t {a : Bool} (h : (!a) = true) : a = false := by cases a <;> simp_all
theorem bnot_f {a : Bool} (h : (!a) = false) : a = true := by cases a <;> simp_all
theorem band_f {a b : Bool} (ha : a = true) (h : (a && b) = false) : b = false := by cases a <;> simp_all
theorem factWalkG_any {F : Fence} {N : Nat} {P : Program} {ms : List Nat} {ops : Array Oper} {G : World → World → Prop} {w0 : World} {Xs Fp : Nat → Value → World → Prop} {i : Nat} {o : Oper} {rest : List Oper} {val : Nat → Value} {a : Act} {K : (Nat → Value) → Act → Prop}
    (h1 : ∀ w, G w0 w → (∀ j, j < i → Anc ms i j = true → Xs j (val j) w) → ∀ K' : Act → World → Prop, (∀ v w', G w w' → Xs i v w' → Fp i v w → K' (a.put o.dst v) w') → if Region.wanted o (yielded ops a.tmps) = true then o.wpIn F N P a w K' (fun _ _ _ => False) else (∀ f, o.about P w a.eval = some f → F.fn f) ∧ K' (a.put o.dst undef) w)
    (h3 : ∀ v, factWalkG F N P ms ops G w0 Xs Fp (i + 1) rest (fun q => if q = i then v else val q) (a.put o.dst v) K) : factWalkG F N P ms ops G w0 Xs Fp i (o :: rest) val a K := ⟨h1, h3⟩
theorem bcases (b : Bool) : b = false ∨ b = true := by cases b <;> simp
end Go.Proofs.YtjaocgmicdnghaaGreatDoor

/-
  CONTRACT of rev.Make, of any body. Written by gen_mk.py.
-/
namespace Go.Proofs.YtjaocgmicdnghaaGreatDoor
set_option linter.unusedSimpArgs false
set_option linter.unusedVariables false
open Go Go.RowKit Go.Shelf
attribute [local go_sem] Oper.semAt_some

theorem frV {fp : Nat → Prop} {w w' : World} (h : Fr fp w w') : V1.Fr fp w w' := ⟨h.1, h.2, h.3, h.4, h.5⟩
theorem frU {fp : Nat → Prop} {w w' : World} (h : V1.Fr fp w w') : Fr fp w w' := ⟨h.1, h.2, h.3, h.4, h.5⟩
theorem laidV {w : World} (h : LaidOk w) (h8 : 8 ≤ w.heap.size) : V1.LaidOk w := ⟨h.pow, h.max, h.syn, h.rng, h8⟩
def hd8 (dl : Int) (g k : Nat) : List UInt8 := UInt8.ofNat dl.toNat :: (List.range k).map (fun j => UInt8.ofNat (((g : Int) / 2 ^ (56 - 8 * j) % 256).toNat))
theorem hd8_succ (dl : Int) (g k : Nat) : hd8 dl g (k + 1) = hd8 dl g k ++ [UInt8.ofNat (((g : Int) / 2 ^ (56 - 8 * k) % 256).toNat)] := by
  unfold hd8
  rw [List.range_succ, List.map_append]
  rfl
/-- The sum in a revision's name. -/
def nameQ (dl : Int) (g : Nat) (s T : List UInt8) : List UInt8 := sumL (begL 16) 0 [hd8 dl g 8, s, T].flatten 16
theorem nameQ_len (dl : Int) (g : Nat) (s T : List UInt8) : (nameQ dl g s T).length = 16 := bytesL_len _ _
def badM (g : Nat) (s : List UInt8) (dl : Int) (ok : Bool) : Bool := (!ok || (!decide (g = 0 ∧ s = zN) && !mayG g)) || (!(dl == 0) && !(dl == 1))
/-- What Make makes: a name, and an errno. -/
def makeR (g : Nat) (s : List UInt8) (dl : Int) (ok : Bool) (T : List UInt8) : (Nat × List UInt8) × Int :=
  if badM g s dl ok = true then ((0, zN), 1) else if g = 4611686018427387903 then ((0, zN), 11) else ((g + 1, nameQ dl g s T), 0)
theorem rows3g (W : World) (A : Option Addr) (c b3 : Nat) (a7 : Option Addr) (c7 : Nat) (L s t : List UInt8) (hl : L.length = 9) (hs : s.length = 16) (hc : 9 ≤ c ∧ c ≤ maxLen) (h7 : t.length ≤ c7 ∧ c7 ≤ maxLen)
    (r1 : Rd W (some ⟨b3, 1, none⟩) 16 (bv s)) (r2 : Rd W A 9 (bv L)) (r3 : Rd W a7 t.length (bv t)) :
    RdB (W.alloc (.cells #[.slice A 9 c, .slice (some ⟨b3, 1, none⟩) 16 16, .slice a7 t.length c7] 43)) (some ⟨W.heap.size, 0, none⟩) 3 [L, s, t] := by
  have hb := Blk.new W 43 #[.slice A 9 c, .slice (some ⟨b3, 1, none⟩) 16 16, .slice a7 t.length c7]
  refine ⟨rfl, fun _ => ⟨_, _, rfl, fun i hi => ?_⟩⟩
  rw [Nat.zero_add, hb.cell]
  match i, hi with
  | 0, _ => exact ⟨A, c, by show some (Value.slice A 9 c) = some (.slice A L.length c); rw [hl], by show Rd _ A L.length (bv L); rw [hl]; exact r2.alloc _, by show L.length ≤ c; rw [hl]; exact hc.1, hc.2⟩
  | 1, _ => exact ⟨_, 16, by show some (Value.slice (some ⟨b3, 1, none⟩) 16 16) = some (.slice _ s.length 16); rw [hs], by show Rd _ _ s.length (bv s); rw [hs]; exact r1.alloc _, by show s.length ≤ 16; omega, by unfold maxLen; omega⟩
  | 2, _ => exact ⟨a7, c7, rfl, r3.alloc _, h7.1, h7.2⟩
def mgX (b3 g : Nat) (A : Option Addr) (c : Nat) (s L Q T : List UInt8) (i : Nat) (v : Value) (W : World) : Prop := match i with
  | 0 => v = .pointer (some ⟨b3, 0, none⟩)
  | 1 => v = .int .u64 (g : Nat)
  | 2 => v = .int .u64 ((g : Int) + 1)
  | 3 => v = .slice A 9 c
  | 4 => v = .pointer (some ⟨b3, 1, none⟩)
  | 5 => v = .slice (some ⟨b3, 1, none⟩) 16 16
  | 6 => v = .string (strOf T)
  | 7 => ∃ a7 c7, v = .slice a7 T.length c7 ∧ T.length ≤ c7 ∧ c7 ≤ maxLen ∧ Rd W a7 T.length (bv T)
  | 8 => ∃ g8, v = .slice (some ⟨g8, 0, none⟩) 3 3 ∧ RdB W (some ⟨g8, 0, none⟩) 3 [L, s, T]
  | 9 => v = .agg (b16 Q)
  | _ => True
theorem mgX_far {b3 g : Nat} {A : Option Addr} {c : Nat} {s L Q T : List UInt8} {i : Nat} {v : Value} {W W' : World} (hg : Fr (fun _ => False) W W') (hx : mgX b3 g A c s L Q T i v W) : mgX b3 g A c s L Q T i v W' := by
  match i with
  | 0 => exact hx
  | 1 => exact hx
  | 2 => exact hx
  | 3 => exact hx
  | 4 => exact hx
  | 5 => exact hx
  | 6 => exact hx
  | 7 => (obtain ⟨a7, c7, e, h1, h2, r⟩ := hx; exact ⟨a7, c7, e, h1, h2, r.far hg⟩)
  | 8 => (obtain ⟨g8, e, r⟩ := hx; exact ⟨g8, e, r.far hg⟩)
  | 9 => exact hx
  | (n + 10) => exact hx
set_option maxRecDepth 100000 in
set_option maxHeartbeats 8000000 in
theorem make_c (w : World) (g : Nat) (s : List UInt8) (dl : Int) (v : V1.V) {D : Nat → Prop} {C : Array Value} (hr : V1.RdV D w C v) (hsm : V1.Sm v) (hs : s.length = 16) (hg : g < 18446744073709551616) (hL : LaidOk w) (h8 : 8 ≤ w.heap.size) :
    Calls Tryz.prog 6 #[.agg (rc g s).toArray, .int .i64 dl, .agg C] w fun e w' => e = .returned (.tuple #[.agg (rc (makeR g s dl (V1.mayV v) (V1.prV v)).1.1 (makeR g s dl (V1.mayV v) (V1.prV v)).1.2).toArray, .int .i64 (makeR g s dl (V1.mayV v) (V1.prV v)).2]) ∧ Fr (fun _ => False) w w' := by
  have HRV := Lib.hid hr
  have HSMV := Lib.hid hsm
  have H8 := Lib.hid h8
  have HSC := Lib.hid (V1.szV hr)
  obtain ⟨ok, hok⟩ : ∃ ok, V1.mayV v = ok := ⟨_, rfl⟩
  obtain ⟨T, hT⟩ : ∃ T, V1.prV v = T := ⟨_, rfl⟩
  have HTL : Hid (ok = true → T.length ≤ 512) := Lib.hid (fun h => by rw [← hT]; exact (V1.may_fields (hok.trans h)).2.1)
  have PC := Lib.hid (fun W (hW : Fr (fun _ => False) w W) => V1.print_c v W D C (hr.far (frV hW)) hsm (laidV (hL.far hW) (Nat.le_trans h8 hW.size)))
  rw [hok, hT] at PC ⊢
  obtain ⟨R, hR⟩ : ∃ R, makeR g s dl ok T = R := ⟨_, rfl⟩
  rw [hR]
  have HR0 := Lib.hid hR
  have HG := Lib.hid hg
  clear hr hsm h8 hok hT hR
  have hneq := fun W => run_neq_rev g 0 s zN hs rfl W
  simp only [show (rc 0 zN).toArray = #[.int .u64 0, .int .u8 0, .int .u8 0, .int .u8 0, .int .u8 0, .int .u8 0, .int .u8 0, .int .u8 0, .int .u8 0, .int .u8 0, .int .u8 0, .int .u8 0, .int .u8 0, .int .u8 0, .int .u8 0, .int .u8 0, .int .u8 0] from rfl] at hneq
  have hmay := fun W => may_c W g s hs hg
  have hc0 : (rc g s).toArray[0]? = some (.int .u64 (g : Nat)) := rfl
  have hrng : ∀ W b, Blk W b 25 (rc g s).toArray → W.rangeAt b 0 (rc g s) := fun W b hb => hb.rng
  have hrow : ∀ W b, Blk W b 25 (rc g s).toArray → Rd W (some ⟨b, 1, none⟩) 16 (bv s) := fun W b hb => by
    refine ⟨by rw [bv_length, hs], fun _ => ⟨_, rfl, fun j u hu => ?_⟩⟩
    rw [Addr.add_lit, hb.cell, List.getElem?_toArray, Nat.add_comm]
    exact hu
  have hlen : (Tryz.prog.info? 25).map (·.size) = some (rc g s).length := by rw [rc_len hs]; kernel_rfl
  have HMAY := Lib.hid hmay
  have HROW := Lib.hid hrow
  have HRNG := Lib.hid hrng
  have HLEN := Lib.hid hlen
  have HC0 := Lib.hid hc0
  have HL := Lib.hid hL
  have HS := Lib.hid hs
  clear hmay hrow hrng hlen hc0 hL hs
  go_enter Tryz.func6, Tryz.ntmps6
  go_upto_region 1 with fail
  refine abs_world (fun W => Hid (Blk W w.heap.size 25 (rc g s).toArray) ∧ Hid (Blk W (w.heap.size + 1) 29 C) ∧ Hid (Blk W (w.heap.size + 1 + 1) 25 (rc 0 zN).toArray) ∧ Hid (Fr (fun _ => False) w W)) ⟨?_, ?_, ?_, (((Fr.refl _ w).alloc _).alloc _).alloc _⟩ ?_
  · exact ((Blk.new w _ _).alloc _).alloc _
  · have h := Blk.new (w.alloc (.cells (rc g s).toArray 25)) 29 C
    rw [World.size_alloc] at h
    exact h.alloc _
  · have h := Blk.new ((w.alloc (.cells (rc g s).toArray 25)).alloc (.cells C 29)) 25 (rc 0 zN).toArray
    rw [World.size_alloc, World.size_alloc] at h
    exact h
  rintro W1 ⟨P1, VV, R1, F1⟩
  obtain ⟨b6, hb6⟩ : ∃ b, w.heap.size + 1 + 1 = b := ⟨_, rfl⟩
  rw [hb6] at R1 ⊢
  obtain ⟨b5, hb5⟩ : ∃ b, w.heap.size + 1 = b := ⟨_, rfl⟩
  rw [hb5] at VV ⊢
  obtain ⟨b3, hb3⟩ : ∃ b, w.heap.size = b := ⟨_, rfl⟩
  rw [hb3] at P1 ⊢
  have HB : Hid (w.heap.size = b3 ∧ b3 < b5 ∧ b5 < b6) := ⟨hb3, by omega, by omega⟩
  clear hb6 hb5 hb3
  have hV1 : V1.Blk W1 b5 29 C := VV.out
  have A5 := Lib.hid (V1.blk_all hV1)
  clear hV1
  obtain ⟨ec, hec⟩ : ∃ ec : Int, (if ok then 0 else 1) = ec := ⟨_, rfl⟩
  obtain ⟨ts, hts⟩ : ∃ ts : ByteArray, (if ok then strOf T else ⟨#[]⟩) = ts := ⟨_, rfl⟩
  have HEC : Hid ((ec == 0) = ok) := Lib.hid (by rw [← hec]; cases ok <;> rfl)
  have HTS : Hid (ok = true → ts = strOf T) := Lib.hid (fun h => by rw [← hts, h]; rfl)
  have PC1 := Lib.hid (PC.out W1 F1.out)
  rw [show V1.strOf T = strOf T from rfl, hec, hts] at PC1
  clear hec hts PC
  go_upto_region 2 with (first
    | (refine V1.wpList_load_val rfl 29 _ rfl b5 _ rfl C A5.out _ Tryz.underlying29 rfl HSC.out ?_)
    | (refine PC1.out.mono ?_
       rintro e W2 ⟨rfl, f2⟩
       have F2 := Lib.hid (F1.out.trans (frU f2) (fun _ _ h => h))
       have P2 := Lib.hid (P1.out.fr (frU f2) (fun h => h))
       have R2 := Lib.hid (R1.out.fr (frU f2) (fun h => h))
       clear f2))
  clear F1 P1 VV R1 A5 PC1
  have RG2 := Lib.hid (HRNG.out _ _ P2.out)
  have HNEQ := Lib.hid hneq
  clear hneq
  obtain ⟨z, hz⟩ : ∃ z, decide (g = 0 ∧ s = zN) = z := ⟨_, rfl⟩
  have HZZ := Lib.hid hz
  clear hz
  obtain ⟨m, hm⟩ : ∃ m, mayG g = m := ⟨_, rfl⟩
  rw [hm] at HMAY
  have HM := Lib.hid hm
  clear hm
  refine wp_region_lit ?_
  refine wpList_fact (fun v => Hid (v = .int .i64 ec)) (fun K hK => ?_) (fun x0 E0 => ?_)
  · refine ite_yes (by kernel_rfl) ?_
    go_simp
    exact hK _ (Lib.hid (by first | rfl | simp))
  simp only [Act.put, List.setIfInBounds_toArray, List.set_cons_succ, List.set_cons_zero]
  refine wpList_fact (fun v => Hid (v = .bool (!(ec == 0)))) (fun K hK => ?_) (fun x1 E1 => ?_)
  · refine ite_yes (by kernel_rfl) ?_
    obtain rfl : x0 = .int .i64 ec := E0.out
    go_simp
    exact hK _ (Lib.hid (by first | rfl | simp))
  simp only [Act.put, List.setIfInBounds_toArray, List.set_cons_succ, List.set_cons_zero]
  refine wpList_fact (fun v => Hid (v = .bool (!(ec == 0)))) (fun K hK => ?_) (fun x2 E2 => ?_)
  · refine ite_yes (by kernel_rfl) ?_
    obtain rfl : x1 = .bool (!(ec == 0)) := E1.out
    go_simp
    exact hK _ (Lib.hid (by first | rfl | simp))
  simp only [Act.put, List.setIfInBounds_toArray, List.set_cons_succ, List.set_cons_zero]
  refine wpList_fact (fun v => Hid (v = cv (!(!(ec == 0))) (.agg (rc g s).toArray))) (fun K hK => ?_) (fun x3 E3 => ?_)
  · rcases bcases (!(!(ec == 0))) with hc | hc
    · have hk := hK undef (cv_no hc)
      obtain rfl : x2 = .bool true := E2.out.trans (congrArg Value.bool (bnot_f hc))
      exact ite_no (by kernel_rfl) hk
    · have eg : x2 = .bool false := E2.out.trans (congrArg Value.bool (bnot_t (hc)))
      refine ite_yes (by rw [eg]; kernel_rfl) ?_
      clear eg
      exact wp_load_mid 25 _ rfl b3 0 rfl (rc g s) _ RG2.out Tryz.underlying25 rfl HLEN.out (hK _ (cv_yes hc rfl))
  simp only [Act.put, List.setIfInBounds_toArray, List.set_cons_succ, List.set_cons_zero]
  refine wpList_fact (fun v => Hid (v = cv (!(!(ec == 0))) (.agg (rc 0 zN).toArray))) (fun K hK => ?_) (fun x4 E4 => ?_)
  · rcases bcases (!(!(ec == 0))) with hc | hc
    · have hk := hK undef (cv_no hc)
      obtain rfl : x2 = .bool true := E2.out.trans (congrArg Value.bool (bnot_f hc))
      exact ite_no (by kernel_rfl) hk
    · have eg : x2 = .bool false := E2.out.trans (congrArg Value.bool (bnot_t (hc)))
      refine ite_yes (by rw [eg]; kernel_rfl) ?_
      clear eg
      go_simp
      exact hK _ (cv_yes hc (by first | rfl | simp))
  simp only [Act.put, List.setIfInBounds_toArray, List.set_cons_succ, List.set_cons_zero]
  refine wpList_fact (fun v => Hid (v = cv (!(!(ec == 0))) (.bool (!z)))) (fun K hK => ?_) (fun x5 E5 => ?_)
  · rcases bcases (!(!(ec == 0))) with hc | hc
    · have hk := hK undef (cv_no hc)
      obtain rfl : x2 = .bool true := E2.out.trans (congrArg Value.bool (bnot_f hc))
      exact ite_no (by kernel_rfl) hk
    · have eg : x2 = .bool false := E2.out.trans (congrArg Value.bool (bnot_t (hc)))
      refine ite_yes (by rw [eg]; kernel_rfl) ?_
      clear eg
      obtain rfl : x3 = .agg (rc g s).toArray := cv_t E3.out (hc)
      obtain rfl : x4 = .agg (rc 0 zN).toArray := cv_t E4.out (hc)
      have hneq := fun W => run_neq_rev g 0 s zN HS.out rfl W
      simp only [HZZ.out] at hneq
      go_simp
      exact hK _ (cv_yes hc rfl)
  simp only [Act.put, List.setIfInBounds_toArray, List.set_cons_succ, List.set_cons_zero]
  refine wpList_fact (fun v => Hid (v = cv (!(!(ec == 0))) (.bool (!z)))) (fun K hK => ?_) (fun x6 E6 => ?_)
  · rcases bcases (!(!(ec == 0))) with hc | hc
    · have hk := hK undef (cv_no hc)
      obtain rfl : x2 = .bool true := E2.out.trans (congrArg Value.bool (bnot_f hc))
      exact ite_no (by kernel_rfl) hk
    · have eg : x2 = .bool false := E2.out.trans (congrArg Value.bool (bnot_t (hc)))
      refine ite_yes (by rw [eg]; kernel_rfl) ?_
      clear eg
      obtain rfl : x5 = .bool (!z) := cv_t E5.out (hc)
      go_simp
      exact hK _ (cv_yes hc (by first | rfl | simp))
  simp only [Act.put, List.setIfInBounds_toArray, List.set_cons_succ, List.set_cons_zero]
  refine wpList_fact (fun v => Hid (v = cv ((!(!(ec == 0))) && (!z)) (.agg (rc g s).toArray))) (fun K hK => ?_) (fun x7 E7 => ?_)
  · rcases bcases ((!(!(ec == 0))) && (!z)) with hc | hc
    · have hk := hK undef (cv_no hc)
      rcases bcases (!(!(ec == 0))) with hj | hj
      · obtain rfl : x6 = undef := cv_f E6.out hj
        exact ite_no (by kernel_rfl) hk
      · obtain rfl : x6 = .bool false := (cv_t E6.out hj).trans (congrArg Value.bool (band_f hj hc))
        exact ite_no (by kernel_rfl) hk
    · have eg : x6 = .bool true := (cv_t E6.out (band_l (hc))).trans (congrArg Value.bool (band_r (hc)))
      refine ite_yes (by rw [eg]; kernel_rfl) ?_
      clear eg
      exact wp_load_mid 25 _ rfl b3 0 rfl (rc g s) _ RG2.out Tryz.underlying25 rfl HLEN.out (hK _ (cv_yes hc rfl))
  simp only [Act.put, List.setIfInBounds_toArray, List.set_cons_succ, List.set_cons_zero]
  refine wpList_factW (fun W => Fr (fun _ => False) W2 W) (Fr.refl _ _) (fun v => Hid (v = cv ((!(!(ec == 0))) && (!z)) (.bool m))) (fun K hK => ?_) (fun x8 W3 E8 f3 => ?_)
  · rcases bcases ((!(!(ec == 0))) && (!z)) with hc | hc
    · have hk := hK undef W2 (cv_no hc) (Fr.refl _ _)
      rcases bcases (!(!(ec == 0))) with hj | hj
      · obtain rfl : x6 = undef := cv_f E6.out hj
        exact ite_no (by kernel_rfl) hk
      · obtain rfl : x6 = .bool false := (cv_t E6.out hj).trans (congrArg Value.bool (band_f hj hc))
        exact ite_no (by kernel_rfl) hk
    · have eg : x6 = .bool true := (cv_t E6.out (band_l (hc))).trans (congrArg Value.bool (band_r (hc)))
      refine ite_yes (by rw [eg]; kernel_rfl) ?_
      clear eg
      obtain rfl : x7 = .agg (rc g s).toArray := cv_t E7.out (hc)
      go_simp
      refine (HMAY.out _).mono ?_
      rintro e W9 ⟨rfl, f9⟩
      go_simp
      exact hK _ _ (cv_yes hc rfl) f9
  simp only [Act.put, List.setIfInBounds_toArray, List.set_cons_succ, List.set_cons_zero]
  refine wpList_fact (fun v => Hid (v = cv ((!(!(ec == 0))) && (!z)) (.bool (!m)))) (fun K hK => ?_) (fun x9 E9 => ?_)
  · rcases bcases ((!(!(ec == 0))) && (!z)) with hc | hc
    · have hk := hK undef (cv_no hc)
      rcases bcases (!(!(ec == 0))) with hj | hj
      · obtain rfl : x6 = undef := cv_f E6.out hj
        exact ite_no (by kernel_rfl) hk
      · obtain rfl : x6 = .bool false := (cv_t E6.out hj).trans (congrArg Value.bool (band_f hj hc))
        exact ite_no (by kernel_rfl) hk
    · have eg : x6 = .bool true := (cv_t E6.out (band_l (hc))).trans (congrArg Value.bool (band_r (hc)))
      refine ite_yes (by rw [eg]; kernel_rfl) ?_
      clear eg
      obtain rfl : x8 = .bool m := cv_t E8.out (hc)
      go_simp
      exact hK _ (cv_yes hc (by first | rfl | simp))
  simp only [Act.put, List.setIfInBounds_toArray, List.set_cons_succ, List.set_cons_zero]
  refine wpList_fact (fun v => Hid (v = cv (!(!(ec == 0))) (.bool ((!z) && (!m))))) (fun K hK => ?_) (fun x10 E10 => ?_)
  · rcases bcases (!(!(ec == 0))) with hc | hc
    · have hk := hK undef (cv_no hc)
      obtain rfl : x2 = .bool true := E2.out.trans (congrArg Value.bool (bnot_f hc))
      exact ite_no (by kernel_rfl) hk
    · have eg : x2 = .bool false := E2.out.trans (congrArg Value.bool (bnot_t (hc)))
      refine ite_yes (by rw [eg]; kernel_rfl) ?_
      clear eg
      rcases bcases ((!z)) with hq | hq
      · obtain rfl : x6 = .bool false := (cv_t E6.out (hc)).trans (congrArg Value.bool hq)
        go_simp
        exact hK _ (cv_yes hc (by simp only [hq, Bool.false_or, Bool.true_or, Bool.true_and, Bool.false_and]))
      · obtain rfl : x6 = .bool true := (cv_t E6.out (hc)).trans (congrArg Value.bool hq)
        obtain rfl : x9 = .bool (!m) := cv_t E9.out ((by first | (rw [show (!(!(ec == 0))) = true from hc, hq]; done) | (rw [show (!(!(ec == 0))) = true from hc, hq]; rfl)))
        go_simp
        exact hK _ (cv_yes hc (by simp only [hq, Bool.false_or, Bool.true_or, Bool.true_and, Bool.false_and]))
  simp only [Act.put, List.setIfInBounds_toArray, List.set_cons_succ, List.set_cons_zero]
  refine wpList_fact (fun v => Hid (v = .bool ((!(ec == 0)) || ((!z) && (!m))))) (fun K hK => ?_) (fun x11 E11 => ?_)
  · refine ite_yes (by kernel_rfl) ?_
    rcases bcases ((!(ec == 0))) with hq | hq
    · obtain rfl : x2 = .bool false := E2.out.trans (congrArg Value.bool hq)
      obtain rfl : x10 = .bool ((!z) && (!m)) := cv_t E10.out ((by first | exact hq | (rw [hq]; rfl)))
      go_simp
      exact hK _ (Lib.hid (by simp only [hq, Bool.false_or, Bool.true_or, Bool.true_and, Bool.false_and]))
    · obtain rfl : x2 = .bool true := E2.out.trans (congrArg Value.bool hq)
      go_simp
      exact hK _ (Lib.hid (by simp only [hq, Bool.false_or, Bool.true_or, Bool.true_and, Bool.false_and]))
  simp only [Act.put, List.setIfInBounds_toArray, List.set_cons_succ, List.set_cons_zero]
  refine wpList_fact (fun v => Hid (v = .bool ((!(ec == 0)) || ((!z) && (!m))))) (fun K hK => ?_) (fun x12 E12 => ?_)
  · refine ite_yes (by kernel_rfl) ?_
    obtain rfl : x11 = .bool ((!(ec == 0)) || ((!z) && (!m))) := E11.out
    go_simp
    exact hK _ (Lib.hid (by first | rfl | simp))
  simp only [Act.put, List.setIfInBounds_toArray, List.set_cons_succ, List.set_cons_zero]
  refine wpList_fact (fun v => Hid (v = cv (!((!(ec == 0)) || ((!z) && (!m)))) (.int .i64 dl))) (fun K hK => ?_) (fun x13 E13 => ?_)
  · rcases bcases (!((!(ec == 0)) || ((!z) && (!m)))) with hc | hc
    · have hk := hK undef (cv_no hc)
      obtain rfl : x12 = .bool true := E12.out.trans (congrArg Value.bool (bnot_f hc))
      exact ite_no (by kernel_rfl) hk
    · have eg : x12 = .bool false := E12.out.trans (congrArg Value.bool (bnot_t (hc)))
      refine ite_yes (by rw [eg]; kernel_rfl) ?_
      clear eg
      go_simp
      exact hK _ (cv_yes hc (by first | rfl | simp))
  simp only [Act.put, List.setIfInBounds_toArray, List.set_cons_succ, List.set_cons_zero]
  refine wpList_fact (fun v => Hid (v = cv (!((!(ec == 0)) || ((!z) && (!m)))) (.bool (!(dl == 0))))) (fun K hK => ?_) (fun x14 E14 => ?_)
  · rcases bcases (!((!(ec == 0)) || ((!z) && (!m)))) with hc | hc
    · have hk := hK undef (cv_no hc)
      obtain rfl : x12 = .bool true := E12.out.trans (congrArg Value.bool (bnot_f hc))
      exact ite_no (by kernel_rfl) hk
    · have eg : x12 = .bool false := E12.out.trans (congrArg Value.bool (bnot_t (hc)))
      refine ite_yes (by rw [eg]; kernel_rfl) ?_
      clear eg
      obtain rfl : x13 = .int .i64 dl := cv_t E13.out (hc)
      go_simp
      exact hK _ (cv_yes hc (by first | rfl | simp))
  simp only [Act.put, List.setIfInBounds_toArray, List.set_cons_succ, List.set_cons_zero]
  refine wpList_fact (fun v => Hid (v = cv (!((!(ec == 0)) || ((!z) && (!m)))) (.bool (!(dl == 0))))) (fun K hK => ?_) (fun x15 E15 => ?_)
  · rcases bcases (!((!(ec == 0)) || ((!z) && (!m)))) with hc | hc
    · have hk := hK undef (cv_no hc)
      obtain rfl : x12 = .bool true := E12.out.trans (congrArg Value.bool (bnot_f hc))
      exact ite_no (by kernel_rfl) hk
    · have eg : x12 = .bool false := E12.out.trans (congrArg Value.bool (bnot_t (hc)))
      refine ite_yes (by rw [eg]; kernel_rfl) ?_
      clear eg
      obtain rfl : x14 = .bool (!(dl == 0)) := cv_t E14.out (hc)
      go_simp
      exact hK _ (cv_yes hc (by first | rfl | simp))
  simp only [Act.put, List.setIfInBounds_toArray, List.set_cons_succ, List.set_cons_zero]
  refine wpList_fact (fun v => Hid (v = cv ((!((!(ec == 0)) || ((!z) && (!m)))) && (!(dl == 0))) (.int .i64 dl))) (fun K hK => ?_) (fun x16 E16 => ?_)
  · rcases bcases ((!((!(ec == 0)) || ((!z) && (!m)))) && (!(dl == 0))) with hc | hc
    · have hk := hK undef (cv_no hc)
      rcases bcases (!((!(ec == 0)) || ((!z) && (!m)))) with hj | hj
      · obtain rfl : x15 = undef := cv_f E15.out hj
        exact ite_no (by kernel_rfl) hk
      · obtain rfl : x15 = .bool false := (cv_t E15.out hj).trans (congrArg Value.bool (band_f hj hc))
        exact ite_no (by kernel_rfl) hk
    · have eg : x15 = .bool true := (cv_t E15.out (band_l (hc))).trans (congrArg Value.bool (band_r (hc)))
      refine ite_yes (by rw [eg]; kernel_rfl) ?_
      clear eg
      go_simp
      exact hK _ (cv_yes hc (by first | rfl | simp))
  simp only [Act.put, List.setIfInBounds_toArray, List.set_cons_succ, List.set_cons_zero]
  refine wpList_fact (fun v => Hid (v = cv ((!((!(ec == 0)) || ((!z) && (!m)))) && (!(dl == 0))) (.bool (!(dl == 1))))) (fun K hK => ?_) (fun x17 E17 => ?_)
  · rcases bcases ((!((!(ec == 0)) || ((!z) && (!m)))) && (!(dl == 0))) with hc | hc
    · have hk := hK undef (cv_no hc)
      rcases bcases (!((!(ec == 0)) || ((!z) && (!m)))) with hj | hj
      · obtain rfl : x15 = undef := cv_f E15.out hj
        exact ite_no (by kernel_rfl) hk
      · obtain rfl : x15 = .bool false := (cv_t E15.out hj).trans (congrArg Value.bool (band_f hj hc))
        exact ite_no (by kernel_rfl) hk
    · have eg : x15 = .bool true := (cv_t E15.out (band_l (hc))).trans (congrArg Value.bool (band_r (hc)))
      refine ite_yes (by rw [eg]; kernel_rfl) ?_
      clear eg
      obtain rfl : x16 = .int .i64 dl := cv_t E16.out (hc)
      go_simp
      exact hK _ (cv_yes hc (by first | rfl | simp))
  simp only [Act.put, List.setIfInBounds_toArray, List.set_cons_succ, List.set_cons_zero]
  refine wpList_fact (fun v => Hid (v = cv (!((!(ec == 0)) || ((!z) && (!m)))) (.bool ((!(dl == 0)) && (!(dl == 1)))))) (fun K hK => ?_) (fun x18 E18 => ?_)
  · rcases bcases (!((!(ec == 0)) || ((!z) && (!m)))) with hc | hc
    · have hk := hK undef (cv_no hc)
      obtain rfl : x12 = .bool true := E12.out.trans (congrArg Value.bool (bnot_f hc))
      exact ite_no (by kernel_rfl) hk
    · have eg : x12 = .bool false := E12.out.trans (congrArg Value.bool (bnot_t (hc)))
      refine ite_yes (by rw [eg]; kernel_rfl) ?_
      clear eg
      rcases bcases ((!(dl == 0))) with hq | hq
      · obtain rfl : x15 = .bool false := (cv_t E15.out (hc)).trans (congrArg Value.bool hq)
        go_simp
        exact hK _ (cv_yes hc (by simp only [hq, Bool.false_or, Bool.true_or, Bool.true_and, Bool.false_and]))
      · obtain rfl : x15 = .bool true := (cv_t E15.out (hc)).trans (congrArg Value.bool hq)
        obtain rfl : x17 = .bool (!(dl == 1)) := cv_t E17.out ((by first | (rw [show (!((!(ec == 0)) || ((!z) && (!m)))) = true from hc, hq]; done) | (rw [show (!((!(ec == 0)) || ((!z) && (!m)))) = true from hc, hq]; rfl)))
        go_simp
        exact hK _ (cv_yes hc (by simp only [hq, Bool.false_or, Bool.true_or, Bool.true_and, Bool.false_and]))
  simp only [Act.put, List.setIfInBounds_toArray, List.set_cons_succ, List.set_cons_zero]
  refine wpList_fact (fun v => Hid (v = .bool (((!(ec == 0)) || ((!z) && (!m))) || ((!(dl == 0)) && (!(dl == 1)))))) (fun K hK => ?_) (fun x19 E19 => ?_)
  · refine ite_yes (by kernel_rfl) ?_
    rcases bcases (((!(ec == 0)) || ((!z) && (!m)))) with hq | hq
    · obtain rfl : x12 = .bool false := E12.out.trans (congrArg Value.bool hq)
      obtain rfl : x18 = .bool ((!(dl == 0)) && (!(dl == 1))) := cv_t E18.out ((by first | exact hq | (rw [hq]; rfl)))
      go_simp
      exact hK _ (Lib.hid (by simp only [hq, Bool.false_or, Bool.true_or, Bool.true_and, Bool.false_and]))
    · obtain rfl : x12 = .bool true := E12.out.trans (congrArg Value.bool hq)
      go_simp
      exact hK _ (Lib.hid (by simp only [hq, Bool.false_or, Bool.true_or, Bool.true_and, Bool.false_and]))
  simp only [Act.put, List.setIfInBounds_toArray, List.set_cons_succ, List.set_cons_zero]
  refine wpList_nil ?_
  have E : Hid (x19 = .bool (badM g s dl ok)) := Lib.hid (by
    rw [E19.out]
    refine congrArg Value.bool ?_
    unfold badM
    rw [HEC.out, HM.out, HZZ.out])
  have F3 := Lib.hid (F2.out.trans f3 (fun _ _ h => h))
  have P3 := Lib.hid (P2.out.fr f3 (fun h => h))
  have R3 := Lib.hid (R2.out.fr f3 (fun h => h))
  clear E0 E1 E2 E3 E4 E5 E6 E7 E8 E9 E10 E11 E12 E13 E14 E15 E16 E17 E18 E19 f3 F2 P2 R2 RG2 HNEQ HZZ
  obtain ⟨u, hu⟩ : ∃ u, badM g s dl ok = u := ⟨_, rfl⟩
  have HU := Lib.hid hu
  rw [hu] at E
  obtain rfl := E.out
  clear E hu
  have hb := HB.out.1
  cases u with
  | true =>
    have HT : Hid (makeR g s dl ok T = ((0, zN), 1)) := Lib.hid (by unfold makeR; rw [if_pos HU.out])
    have HSZ0 := Lib.hid (tRev_size (g := 0) (s := zN) rfl)
    have HTH : Hid (W3.there b6 0 (rc 0 zN).toArray.size) := by have h := R3.out.there; rw [List.size_toArray, rc_len rfl]; exact h
    have HST := Lib.hid (R3.out.setAll (ds := (rc 0 zN).toArray) rfl)
    have FST := Lib.hid (Fr.setCells (fp := fun k => k = b6) (a := W3) (g := b6) (fun _ => rfl) (rc 0 zN) 0 W3 (Fr.refl _ _))
    have hbz : ∀ W, (Instr.build 25 #[]).run Tryz.prog W = .ok (.agg (rc 0 zN).toArray) W := fun W => by kernel_rfl
    go_wp2_with (refine wpList_store_mid rfl 25 _ _ rfl b6 0 (rc 0 zN).toArray rfl rfl HTH.out HSZ0.out (rc_all 0 zN) ?_
                 obtain ⟨w9, hw9⟩ : ∃ w9, W3.setCells b6 0 (rc 0 zN).toArray.toList = w9 := ⟨_, rfl⟩
                 rw [hw9] at HST
                 have FS9 : Hid (Fr (fun k => k = b6) W3 w9) := Lib.hid (hw9 ▸ FST.out)
                 rw [hw9]
                 clear hw9 HTH FST)
    refine bodyPost_ret (v := .tuple #[.agg (rc 0 zN).toArray, .int .i64 1]) (results_two Tryz.results6 _ _ b6 25 (rc 0 zN).toArray (0, 0) _ rfl HST.out Tryz.underlying25 rfl HSZ0.out) rfl ⟨by rw [← HR0.out, HT.out], F3.out.trans FS9.out (fun k hk e => by have := HB.out; omega)⟩
  | false =>
  have c0 : W3.cell? ⟨b3, 0, none⟩ = some (.int .u64 (g : Nat)) := by rw [P3.out.cell]; exact HC0.out
  by_cases hgx : g = 4611686018427387903
  case pos =>
    subst hgx
    have hg0 : (((4611686018427387903 : Nat) : Int) == 4611686018427387903) = true := by decide
    have HT : Hid (makeR 4611686018427387903 s dl ok T = ((0, zN), 11)) := Lib.hid (by unfold makeR; rw [if_neg (by rw [HU.out]; decide), if_pos rfl])
    have HSZ0 := Lib.hid (tRev_size (g := 0) (s := zN) rfl)
    have HTH : Hid (W3.there b6 0 (rc 0 zN).toArray.size) := by have h := R3.out.there; rw [List.size_toArray, rc_len rfl]; exact h
    have HST := Lib.hid (R3.out.setAll (ds := (rc 0 zN).toArray) rfl)
    have FST := Lib.hid (Fr.setCells (fp := fun k => k = b6) (a := W3) (g := b6) (fun _ => rfl) (rc 0 zN) 0 W3 (Fr.refl _ _))
    have hbz : ∀ W, (Instr.build 25 #[]).run Tryz.prog W = .ok (.agg (rc 0 zN).toArray) W := fun W => by kernel_rfl
    go_wp2_with (refine wpList_store_mid rfl 25 _ _ rfl b6 0 (rc 0 zN).toArray rfl rfl HTH.out HSZ0.out (rc_all 0 zN) ?_
                 obtain ⟨w9, hw9⟩ : ∃ w9, W3.setCells b6 0 (rc 0 zN).toArray.toList = w9 := ⟨_, rfl⟩
                 rw [hw9] at HST
                 have FS9 : Hid (Fr (fun k => k = b6) W3 w9) := Lib.hid (hw9 ▸ FST.out)
                 rw [hw9]
                 clear hw9 HTH FST)
    refine bodyPost_ret (v := .tuple #[.agg (rc 0 zN).toArray, .int .i64 11]) (results_two Tryz.results6 _ _ b6 25 (rc 0 zN).toArray (0, 0) _ rfl HST.out Tryz.underlying25 rfl HSZ0.out) rfl ⟨by rw [← HR0.out, HT.out], F3.out.trans FS9.out (fun k hk e => by have := HB.out; omega)⟩
  have hgx2 : ((g : Int) == 4611686018427387903) = false := by
    rw [beq_eq_false_iff_ne]
    omega
  have hok : ok = true := by
    have h := HU.out
    unfold badM at h
    cases ok <;> simp_all
  have hd01 : dl = 0 ∨ dl = 1 := by
    have h := HU.out
    unfold badM at h
    by_cases h0 : dl = 0
    · exact .inl h0
    · by_cases h1 : dl = 1
      · exact .inr h1
      · simp [h0, h1] at h
  have HTL := Lib.hid (HTL.out hok)
  obtain rfl := HTS.out hok
  have HR : Hid (R = ((g + 1, nameQ dl g s T), 0)) := Lib.hid (by rw [← HR0.out]; unfold makeR; rw [if_neg (by rw [HU.out]; decide), if_neg hgx])
  have hgm : mayG g = true ∨ g = 0 := by
    have h := HU.out
    unfold badM at h
    by_cases h1 : mayG g = true
    · exact .inl h1
    · have h2 : decide (g = 0 ∧ s = zN) = true := by simp_all
      exact .inr (of_decide_eq_true h2).1
  have hg2 : g < 4611686018427387903 := by
    rcases hgm with h | h
    · unfold mayG at h
      simp only [Bool.and_eq_true, decide_eq_true_eq] at h
      omega
    · omega
  have hg := hg2
  clear HTS HEC HU HR0 hok hgm hg2 hgx HMAY HM HSC HSMV HRV
  rcases hd01 with rfl | rfl
  case inl =>
    go_upto_region 6 with fail
    clear c0 hgx2
    go_wp2_with fail
    refine abs_world (fun W => Hid (W.ownsRow b3 5 1 (.slice (some ⟨W3.heap.size, 0, none⟩) 1 1) 1 (bv [0])) ∧ Hid (Blk W b3 25 (rc g s).toArray) ∧ Hid (Blk W b6 25 (rc 0 zN).toArray) ∧ Hid (Fr (fun _ => False) w W)) ⟨own_lits W3 b3 _ 1 rfl (by rw [← hb]; exact F3.out.size) (by unfold maxLen; omega), P3.out.alloc _, R3.out.alloc _, F3.out.alloc _⟩ ?_
    rintro W4 ⟨O4, P4, R4, F4⟩
    generalize W3.heap.size = q3 at *
    clear F3 P3 R3
    obtain ⟨i0, hi0, hz0', hz1', hz2'⟩ := info_parts u8_info
    have HI0 := Lib.hid hi0
    clear hi0
    go_loopw [10, 11] (fun hv sv wr => ∃ (k : Nat) (A : Option Addr) (c : Nat) (l : List UInt8) (n : Int), hv = .slice A (k + 1) c ∧ sv = .int .i64 n ∧ n = 56 - 8 * (k : Int) ∧ k ≤ 8 ∧ Hid (l = hd8 0 g k) ∧ Hid (wr.ownsRow b3 5 1 (.slice A (k + 1) c) (k + 1) (bv l)) ∧ Hid (Blk wr b3 25 (rc g s).toArray) ∧ Hid (Blk wr b6 25 (rc 0 zN).toArray) ∧ Hid (Fr (fun _ => False) w wr)) (fun _ sv _ => (intOf sv + 8).toNat)
    case atStart => exact ⟨0, _, _, [0], 56, rfl, rfl, by omega, by omega, rfl, O4.out, P4.out, R4.out, F4.out⟩
    case round =>
      obtain ⟨k, A, c, l, n, rfl, rfl, hn, hk, hld, o5, P5, R5, F5⟩ := hrel
      by_cases hlt : k < 8
      case pos =>
        have hn0 : 0 ≤ n := by omega
        have hn56 : n ≤ 56 := by omega
        have hdl : decide (0 ≤ n) = true := decide_eq_true hn0
        have c0 : wr.cell? ⟨b3, 0, none⟩ = some (.int .u64 (g : Nat)) := by rw [P5.out.cell]; exact HC0.out
        obtain ⟨x, hx, hx2⟩ : ∃ x : Nat, (g : Int) / 2 ^ (56 - 8 * k) % 256 = (x : Int) ∧ x < 256 := by
          have h1 := Int.emod_nonneg ((g : Int) / 2 ^ (56 - 8 * k)) (show (256 : Int) ≠ 0 by decide)
          have h2 := Int.emod_lt_of_pos ((g : Int) / 2 ^ (56 - 8 * k)) (show (0 : Int) < 256 by decide)
          exact ⟨((g : Int) / 2 ^ (56 - 8 * k) % 256).toNat, by omega, by omega⟩
        have HX := Lib.hid hx
        have hzb : b3 ≤ wr.heap.size := by rw [← hb]; exact F5.out.size
        go_wp2_with (
          (at_builtin
           refine wpList_app rfl (.tmp 49) (.tmp 55) _ _ rfl b3 5 i0 _ 1 1 Tryz.underlying43 HI0.out hz0' hz1' hz2' rfl _ (k + 1) _ rfl (own_fr o5.out ((Fr.refl (fun _ => False) wr).alloc _) (fun _ _ h => h)) _ 1 [.int .u8 (x : Nat)] rfl (Src.rd Tryz.underlying43 _ (Rd.of_blk (Blk.new wr 5 #[.int .u8 (x : Nat)]) (Nat.le_refl _)) (by simp [Value.oneCell'])) (by omega) (by unfold maxLen; omega) (by rw [World.size_alloc]; exact Nat.le_succ_of_le hzb) ?_
           intro v6 w6 o6 f6 n6
           have F6 := Lib.hid ((F5.out.alloc (.cells #[.int .u8 (x : Nat)] 5)).trans f6 (fun i hi hq => by have := (o5.out.lt i hq).1; omega))
           have P6 := Lib.hid ((P5.out.alloc (.cells #[.int .u8 (x : Nat)] 5)).fr f6 (fun hq => (own_blk_ne o5.out P5.out (by decide)) hq))
           have R6 := Lib.hid ((R5.out.alloc (.cells #[.int .u8 (x : Nat)] 5)).fr f6 (fun hq => (own_blk_ne o5.out R5.out (by decide)) hq))
           have O6 := Lib.hid o6
           obtain ⟨A6, c6, rfl, -, -⟩ := own_slice o6
           clear o6 f6 n6))
        have O7 : Hid (w6.ownsRow b3 5 1 (.slice A6 (k + 1 + 1) c6) (k + 1 + 1) (bv (l ++ [UInt8.ofNat x]))) := by
          have h := O6.out
          rw [show bv (l ++ [UInt8.ofNat x]) = bv l ++ [.int .u8 (x : Nat)] by simp [bv]; omega]
          exact h
        exact ⟨⟨k + 1, A6, c6, l ++ [UInt8.ofNat x], 56 - 8 * (k : Int) - 8, rfl, rfl, by omega, by omega, Lib.hid (by rw [hld.out, hd8_succ, HX.out]; simp), O7, P6.out, R6.out, F6.out⟩, by simp [intOf]; omega⟩
      case neg =>
        obtain rfl : k = 8 := by omega
        obtain rfl : n = -8 := by omega
        have hdl : decide ((0 : Int) ≤ -8) = false := by decide
        obtain ⟨L, rfl⟩ : ∃ L, L = l := ⟨_, rfl⟩
        have HLL : Hid (L.length = 9) := by
          have h := o5.out.1
          rw [bv_length] at h
          exact h
        have HCC : Hid (9 ≤ c ∧ c ≤ maxLen) := by
          obtain ⟨A9, c9, e9, h1, h2⟩ := own_slice o5.out
          injection e9 with e1 e2 e3
          subst e3
          exact ⟨h1, h2⟩
        have RDL := Lib.hid (fun (W : World) (hW : Fr (fun _ => False) wr W) => (Rd.of_own o5.out).far hW)
        have ROW := Lib.hid (fun (W : World) (hW : Fr (fun _ => False) wr W) => HROW.out W b3 (P5.out.fr hW (fun h => h)))
        have hsh := fun (W : World) (g8 : Nat) (hW : Fr (fun _ => False) wr W) (hr : RdB W (some ⟨g8, 0, none⟩) 3 [L, s, T]) => short_c W (some ⟨g8, 0, none⟩) 3 3 _ hr (by omega) (by have := HTL.out; simp [HLL.out, HS.out]; omega) ((HL.out.far (F5.out.trans hW (fun _ _ h => h))).tabs)
        have HLQ : Hid (L = hd8 0 g 8) := Lib.hid hld.out
        obtain ⟨Q, hQ⟩ : ∃ Q, sumL (begL 16) 0 [L, s, T].flatten 16 = Q := ⟨_, rfl⟩
        simp only [hQ] at hsh
        have hQl : Q.length = 16 := by rw [← hQ]; exact bytesL_len _ _
        have HSH := Lib.hid hsh
        have HQL := Lib.hid hQl
        have HBD := Lib.hid (build_rev (g + 1) Q hQl)
        have hgw : IntKind.u64.wrap ((g : Int) + 1) = (g : Int) + 1 := by rw [IntKind.wrap_u64]; omega
        have HNM : Hid (Q = nameQ 0 g s T) := Lib.hid (by rw [← hQ, HLQ.out]; rfl)
        clear hsh hQ hQl hn hk hlt
        go_upto_region 11 with fail
        clear hdl
        refine (wpIn_wide (n := 9)).1 ?_
        refine wpIn_region_factsG (ms := [0, 1, 3, 0, 0, 16, 0, 64, 248, 504, 1023, 2047, 4095]) (k := 10) (Fr (fun _ => False)) (mgX b3 g A c s L Q T) (fun i v W => True) (by kernel_rfl) (by kernel_rfl) (Fr.refl _ _) (fun a b c h1 h2 => h1.trans h2 (fun _ _ h => h)) (fun i v w w' hg hx => mgX_far hg hx) ?walk11
        case walk11 =>
        have hdr : ∀ W, Fr (fun _ => False) wr.drew W → Fr (fun _ => False) wr W := fun W h => ((Fr.refl (fun _ => False) wr).drew).trans h (fun _ _ h => h)
        have HDR := Lib.hid hdr
        clear hdr
        refine factWalkG_cons (fun W hW hf K hK => ?_) (fun x0 => ?_)
        · skip
          refine ⟨by kernel_rfl, ?_⟩
          gi_step
          exact hK _ _ (Fr.refl _ _) rfl trivial
        simp only [Act.put, List.setIfInBounds_toArray, List.set_cons_succ, List.set_cons_zero]
        refine factWalkG_cons (fun W hW hf K hK => ?_) (fun x1 => ?_)
        · skip
          have e0 : x0 = .pointer (some ⟨b3, 0, none⟩) := hf 0 (by omega) (by kernel_rfl)
          subst e0
          have c0 : W.cell? ⟨b3, 0, none⟩ = some (.int .u64 (g : Nat)) := by rw [(P5.out.fr (HDR.out W hW) (fun h => h)).cell]; exact HC0.out
          refine ⟨by kernel_rfl, ?_⟩
          gi_step
          exact hK _ _ (Fr.refl _ _) rfl trivial
        simp only [Act.put, List.setIfInBounds_toArray, List.set_cons_succ, List.set_cons_zero]
        refine factWalkG_cons (fun W hW hf K hK => ?_) (fun x2 => ?_)
        · skip
          have e1 : x1 = .int .u64 (g : Nat) := hf 1 (by omega) (by kernel_rfl)
          subst e1
          refine ⟨by kernel_rfl, ?_⟩
          gi_step
          exact hK _ _ (Fr.refl _ _) rfl trivial
        simp only [Act.put, List.setIfInBounds_toArray, List.set_cons_succ, List.set_cons_zero]
        refine factWalkG_cons (fun W hW hf K hK => ?_) (fun x3 => ?_)
        · skip
          refine ⟨by kernel_rfl, ?_⟩
          gi_step
          exact hK _ _ (Fr.refl _ _) rfl trivial
        simp only [Act.put, List.setIfInBounds_toArray, List.set_cons_succ, List.set_cons_zero]
        refine factWalkG_cons (fun W hW hf K hK => ?_) (fun x4 => ?_)
        · skip
          refine ⟨by kernel_rfl, ?_⟩
          gi_step
          exact hK _ _ (Fr.refl _ _) rfl trivial
        simp only [Act.put, List.setIfInBounds_toArray, List.set_cons_succ, List.set_cons_zero]
        refine factWalkG_cons (fun W hW hf K hK => ?_) (fun x5 => ?_)
        · skip
          have e4 : x4 = .pointer (some ⟨b3, 1, none⟩) := hf 4 (by omega) (by kernel_rfl)
          subst e4
          refine ⟨by kernel_rfl, ?_⟩
          gi_step
          exact hK _ _ (Fr.refl _ _) rfl trivial
        simp only [Act.put, List.setIfInBounds_toArray, List.set_cons_succ, List.set_cons_zero]
        refine factWalkG_cons (fun W hW hf K hK => ?_) (fun x6 => ?_)
        · skip
          refine ⟨by kernel_rfl, ?_⟩
          gi_step
          exact hK _ _ (Fr.refl _ _) rfl trivial
        simp only [Act.put, List.setIfInBounds_toArray, List.set_cons_succ, List.set_cons_zero]
        refine factWalkG_cons (fun W hW hf K hK => ?_) (fun x7 => ?_)
        · skip
          have e6 : x6 = .string (strOf T) := hf 6 (by omega) (by kernel_rfl)
          subst e6
          have hcv := Lib.run_convert_string_bytes (P := Tryz.prog) W 9 43 5 (strOf T) Tryz.underlying9 Tryz.underlying43 Tryz.underlying5
          rw [strOf_size] at hcv
          refine ⟨by kernel_rfl, ?_⟩
          gi_step
          exact hK _ _ (conv_fr W _) ⟨_, _, rfl, grownCap_ge _ _ _ _, grownCap_le_maxLen _ _ _ _ (by have := HTL.out; unfold maxLen; omega), conv_rd W _⟩ trivial
        simp only [Act.put, List.setIfInBounds_toArray, List.set_cons_succ, List.set_cons_zero]
        refine factWalkG_cons (fun W hW hf K hK => ?_) (fun x8 => ?_)
        · skip
          have e3 : x3 = .slice A 9 c := hf 3 (by omega) (by kernel_rfl)
          have e5 : x5 = .slice (some ⟨b3, 1, none⟩) 16 16 := hf 5 (by omega) (by kernel_rfl)
          obtain ⟨a7, c7, e7, l7, m7, r7⟩ : ∃ a7 c7, x7 = .slice a7 T.length c7 ∧ T.length ≤ c7 ∧ c7 ≤ maxLen ∧ Rd W a7 T.length (bv T) := hf 7 (by omega) (by kernel_rfl)
          subst e3 e5 e7
          refine ⟨by kernel_rfl, ?_⟩
          gi_step
          exact hK _ _ ((Fr.refl _ _).alloc _) ⟨_, rfl, rows3g W A c b3 a7 c7 L s T HLL.out HS.out HCC.out ⟨l7, m7⟩ (ROW.out W (HDR.out W hW)) (RDL.out W (HDR.out W hW)) r7⟩ trivial
        simp only [Act.put, List.setIfInBounds_toArray, List.set_cons_succ, List.set_cons_zero]
        refine factWalkG_cons (fun W hW hf K hK => ?_) (fun x9 => ?_)
        · skip
          obtain ⟨g8, e8, r8⟩ : ∃ g8, x8 = .slice (some ⟨g8, 0, none⟩) 3 3 ∧ RdB W (some ⟨g8, 0, none⟩) 3 [L, s, T] := hf 8 (by omega) (by kernel_rfl)
          subst e8
          refine ⟨by kernel_rfl, ?_⟩
          gi_step
          refine ⟨trivial, ?_⟩
          refine (callsIn_wide.2 (HSH.out W g8 (HDR.out W hW) r8)).mono ?_
          rintro e W' ⟨rfl, f2⟩
          dsimp only
          exact hK _ _ f2 rfl trivial
        simp only [Act.put, List.setIfInBounds_toArray, List.set_cons_succ, List.set_cons_zero]
        refine factWalkG_nil (fun W hW hf11 hmet => ?_)
        have e2 : x2 = .int .u64 ((g : Int) + 1) := hf11 2 (by omega)
        have e9 : x9 = .agg (b16 Q) := hf11 9 (by omega)
        subst e2 e9
        have hWf := HDR.out W hW
        have R9 := Lib.hid (R5.out.fr hWf (fun h => h))
        have F9 := Lib.hid (F5.out.trans hWf (fun _ _ h => h))
        have hbd := HBD.out
        rw [show ((g + 1 : Nat) : Int) = (g : Int) + 1 by omega] at hbd
        clear hf11 hmet hWf hW HDR F5 R5 P5 o5
        change wpAnyIn _ _ _ _ _ _ 3 _ _ _
        refine wpAnyIn_ready (rs := [10]) (by kernel_rfl) (by simp) ?_
        refine AllReadyIn.cons rfl (fun K hK => ?_) AllReadyIn.nil
        refine stepIn_build rfl 25 0 1 (.tmp 59) (.tmp 66) rfl _ _ rfl rfl (hbd W) ?_
        refine hK _ _ ?_
        clear hK K hbd
        have HSZ := Lib.hid (tRev_size (g := g + 1) (s := Q) HQL.out)
        have HTH : Hid (W.there b6 0 (rc (g + 1) Q).toArray.size) := by have h := R9.out.there; rw [List.size_toArray, rc_len HQL.out]; exact h
        have HST := Lib.hid (R9.out.setAll (ds := (rc (g + 1) Q).toArray) (by rw [List.size_toArray, List.size_toArray, rc_len HQL.out]; rfl))
        have FST := Lib.hid (Fr.setCells (fp := fun k => k = b6) (a := W) (g := b6) (fun _ => rfl) (rc (g + 1) Q) 0 W (Fr.refl _ _))
        have hsto := run_storeAt_mid (P := Tryz.prog) W b6 0 25 (rc (g + 1) Q).toArray HTH.out HSZ.out (rc_all (g + 1) Q)
        refine wpAnyIn_ready (rs := [11]) (by kernel_rfl) (by simp) ?_
        refine AllReadyIn.cons rfl (fun K hK => ?_) AllReadyIn.nil
        refine stepIn_store rfl 25 _ _ rfl _ _ rfl rfl hsto ?_
        refine hK _ _ ?_
        clear hK K hsto
        refine wpAnyIn_ready (rs := [12]) (by kernel_rfl) (by simp) ?_
        refine AllReadyIn.cons rfl (fun K hK => ?_) AllReadyIn.nil
        go_simp
        refine hK _ _ ?_
        refine wpAnyIn_done (by kernel_rfl) ?_ _
        clear hK K
        generalize W.setCells b6 0 (rc (g + 1) Q).toArray.toList = w9 at *
        go_wp2_with fail
        refine bodyPost_ret (v := .tuple #[.agg (rc (g + 1) Q).toArray, .int .i64 0]) (results_two Tryz.results6 _ _ b6 25 (rc (g + 1) Q).toArray (0, 0) _ rfl HST.out Tryz.underlying25 rfl HSZ.out) rfl ⟨by rw [HR.out, HNM.out], F9.out.trans FST.out (fun k hk e => by have := HB.out; omega)⟩
  case inr =>
    go_upto_region 6 with fail
    clear c0 hgx2
    go_wp2_with fail
    refine abs_world (fun W => Hid (W.ownsRow b3 5 1 (.slice (some ⟨W3.heap.size, 0, none⟩) 1 1) 1 (bv [1])) ∧ Hid (Blk W b3 25 (rc g s).toArray) ∧ Hid (Blk W b6 25 (rc 0 zN).toArray) ∧ Hid (Fr (fun _ => False) w W)) ⟨own_lits W3 b3 _ 1 rfl (by rw [← hb]; exact F3.out.size) (by unfold maxLen; omega), P3.out.alloc _, R3.out.alloc _, F3.out.alloc _⟩ ?_
    rintro W4 ⟨O4, P4, R4, F4⟩
    generalize W3.heap.size = q3 at *
    clear F3 P3 R3
    obtain ⟨i0, hi0, hz0', hz1', hz2'⟩ := info_parts u8_info
    have HI0 := Lib.hid hi0
    clear hi0
    go_loopw [10, 11] (fun hv sv wr => ∃ (k : Nat) (A : Option Addr) (c : Nat) (l : List UInt8) (n : Int), hv = .slice A (k + 1) c ∧ sv = .int .i64 n ∧ n = 56 - 8 * (k : Int) ∧ k ≤ 8 ∧ Hid (l = hd8 1 g k) ∧ Hid (wr.ownsRow b3 5 1 (.slice A (k + 1) c) (k + 1) (bv l)) ∧ Hid (Blk wr b3 25 (rc g s).toArray) ∧ Hid (Blk wr b6 25 (rc 0 zN).toArray) ∧ Hid (Fr (fun _ => False) w wr)) (fun _ sv _ => (intOf sv + 8).toNat)
    case atStart => exact ⟨0, _, _, [1], 56, rfl, rfl, by omega, by omega, rfl, O4.out, P4.out, R4.out, F4.out⟩
    case round =>
      obtain ⟨k, A, c, l, n, rfl, rfl, hn, hk, hld, o5, P5, R5, F5⟩ := hrel
      by_cases hlt : k < 8
      case pos =>
        have hn0 : 0 ≤ n := by omega
        have hn56 : n ≤ 56 := by omega
        have hdl : decide (0 ≤ n) = true := decide_eq_true hn0
        have c0 : wr.cell? ⟨b3, 0, none⟩ = some (.int .u64 (g : Nat)) := by rw [P5.out.cell]; exact HC0.out
        obtain ⟨x, hx, hx2⟩ : ∃ x : Nat, (g : Int) / 2 ^ (56 - 8 * k) % 256 = (x : Int) ∧ x < 256 := by
          have h1 := Int.emod_nonneg ((g : Int) / 2 ^ (56 - 8 * k)) (show (256 : Int) ≠ 0 by decide)
          have h2 := Int.emod_lt_of_pos ((g : Int) / 2 ^ (56 - 8 * k)) (show (0 : Int) < 256 by decide)
          exact ⟨((g : Int) / 2 ^ (56 - 8 * k) % 256).toNat, by omega, by omega⟩
        have HX := Lib.hid hx
        have hzb : b3 ≤ wr.heap.size := by rw [← hb]; exact F5.out.size
        go_wp2_with (
          (at_builtin
           refine wpList_app rfl (.tmp 49) (.tmp 55) _ _ rfl b3 5 i0 _ 1 1 Tryz.underlying43 HI0.out hz0' hz1' hz2' rfl _ (k + 1) _ rfl (own_fr o5.out ((Fr.refl (fun _ => False) wr).alloc _) (fun _ _ h => h)) _ 1 [.int .u8 (x : Nat)] rfl (Src.rd Tryz.underlying43 _ (Rd.of_blk (Blk.new wr 5 #[.int .u8 (x : Nat)]) (Nat.le_refl _)) (by simp [Value.oneCell'])) (by omega) (by unfold maxLen; omega) (by rw [World.size_alloc]; exact Nat.le_succ_of_le hzb) ?_
           intro v6 w6 o6 f6 n6
           have F6 := Lib.hid ((F5.out.alloc (.cells #[.int .u8 (x : Nat)] 5)).trans f6 (fun i hi hq => by have := (o5.out.lt i hq).1; omega))
           have P6 := Lib.hid ((P5.out.alloc (.cells #[.int .u8 (x : Nat)] 5)).fr f6 (fun hq => (own_blk_ne o5.out P5.out (by decide)) hq))
           have R6 := Lib.hid ((R5.out.alloc (.cells #[.int .u8 (x : Nat)] 5)).fr f6 (fun hq => (own_blk_ne o5.out R5.out (by decide)) hq))
           have O6 := Lib.hid o6
           obtain ⟨A6, c6, rfl, -, -⟩ := own_slice o6
           clear o6 f6 n6))
        have O7 : Hid (w6.ownsRow b3 5 1 (.slice A6 (k + 1 + 1) c6) (k + 1 + 1) (bv (l ++ [UInt8.ofNat x]))) := by
          have h := O6.out
          rw [show bv (l ++ [UInt8.ofNat x]) = bv l ++ [.int .u8 (x : Nat)] by simp [bv]; omega]
          exact h
        exact ⟨⟨k + 1, A6, c6, l ++ [UInt8.ofNat x], 56 - 8 * (k : Int) - 8, rfl, rfl, by omega, by omega, Lib.hid (by rw [hld.out, hd8_succ, HX.out]; simp), O7, P6.out, R6.out, F6.out⟩, by simp [intOf]; omega⟩
      case neg =>
        obtain rfl : k = 8 := by omega
        obtain rfl : n = -8 := by omega
        have hdl : decide ((0 : Int) ≤ -8) = false := by decide
        obtain ⟨L, rfl⟩ : ∃ L, L = l := ⟨_, rfl⟩
        have HLL : Hid (L.length = 9) := by
          have h := o5.out.1
          rw [bv_length] at h
          exact h
        have HCC : Hid (9 ≤ c ∧ c ≤ maxLen) := by
          obtain ⟨A9, c9, e9, h1, h2⟩ := own_slice o5.out
          injection e9 with e1 e2 e3
          subst e3
          exact ⟨h1, h2⟩
        have RDL := Lib.hid (fun (W : World) (hW : Fr (fun _ => False) wr W) => (Rd.of_own o5.out).far hW)
        have ROW := Lib.hid (fun (W : World) (hW : Fr (fun _ => False) wr W) => HROW.out W b3 (P5.out.fr hW (fun h => h)))
        have hsh := fun (W : World) (g8 : Nat) (hW : Fr (fun _ => False) wr W) (hr : RdB W (some ⟨g8, 0, none⟩) 3 [L, s, T]) => short_c W (some ⟨g8, 0, none⟩) 3 3 _ hr (by omega) (by have := HTL.out; simp [HLL.out, HS.out]; omega) ((HL.out.far (F5.out.trans hW (fun _ _ h => h))).tabs)
        have HLQ : Hid (L = hd8 1 g 8) := Lib.hid hld.out
        obtain ⟨Q, hQ⟩ : ∃ Q, sumL (begL 16) 0 [L, s, T].flatten 16 = Q := ⟨_, rfl⟩
        simp only [hQ] at hsh
        have hQl : Q.length = 16 := by rw [← hQ]; exact bytesL_len _ _
        have HSH := Lib.hid hsh
        have HQL := Lib.hid hQl
        have HBD := Lib.hid (build_rev (g + 1) Q hQl)
        have hgw : IntKind.u64.wrap ((g : Int) + 1) = (g : Int) + 1 := by rw [IntKind.wrap_u64]; omega
        have HNM : Hid (Q = nameQ 1 g s T) := Lib.hid (by rw [← hQ, HLQ.out]; rfl)
        clear hsh hQ hQl hn hk hlt
        go_upto_region 11 with fail
        clear hdl
        refine (wpIn_wide (n := 9)).1 ?_
        refine wpIn_region_factsG (ms := [0, 1, 3, 0, 0, 16, 0, 64, 248, 504, 1023, 2047, 4095]) (k := 10) (Fr (fun _ => False)) (mgX b3 g A c s L Q T) (fun i v W => True) (by kernel_rfl) (by kernel_rfl) (Fr.refl _ _) (fun a b c h1 h2 => h1.trans h2 (fun _ _ h => h)) (fun i v w w' hg hx => mgX_far hg hx) ?walk11
        case walk11 =>
        have hdr : ∀ W, Fr (fun _ => False) wr.drew W → Fr (fun _ => False) wr W := fun W h => ((Fr.refl (fun _ => False) wr).drew).trans h (fun _ _ h => h)
        have HDR := Lib.hid hdr
        clear hdr
        refine factWalkG_cons (fun W hW hf K hK => ?_) (fun x0 => ?_)
        · skip
          refine ⟨by kernel_rfl, ?_⟩
          gi_step
          exact hK _ _ (Fr.refl _ _) rfl trivial
        simp only [Act.put, List.setIfInBounds_toArray, List.set_cons_succ, List.set_cons_zero]
        refine factWalkG_cons (fun W hW hf K hK => ?_) (fun x1 => ?_)
        · skip
          have e0 : x0 = .pointer (some ⟨b3, 0, none⟩) := hf 0 (by omega) (by kernel_rfl)
          subst e0
          have c0 : W.cell? ⟨b3, 0, none⟩ = some (.int .u64 (g : Nat)) := by rw [(P5.out.fr (HDR.out W hW) (fun h => h)).cell]; exact HC0.out
          refine ⟨by kernel_rfl, ?_⟩
          gi_step
          exact hK _ _ (Fr.refl _ _) rfl trivial
        simp only [Act.put, List.setIfInBounds_toArray, List.set_cons_succ, List.set_cons_zero]
        refine factWalkG_cons (fun W hW hf K hK => ?_) (fun x2 => ?_)
        · skip
          have e1 : x1 = .int .u64 (g : Nat) := hf 1 (by omega) (by kernel_rfl)
          subst e1
          refine ⟨by kernel_rfl, ?_⟩
          gi_step
          exact hK _ _ (Fr.refl _ _) rfl trivial
        simp only [Act.put, List.setIfInBounds_toArray, List.set_cons_succ, List.set_cons_zero]
        refine factWalkG_cons (fun W hW hf K hK => ?_) (fun x3 => ?_)
        · skip
          refine ⟨by kernel_rfl, ?_⟩
          gi_step
          exact hK _ _ (Fr.refl _ _) rfl trivial
        simp only [Act.put, List.setIfInBounds_toArray, List.set_cons_succ, List.set_cons_zero]
        refine factWalkG_cons (fun W hW hf K hK => ?_) (fun x4 => ?_)
        · skip
          refine ⟨by kernel_rfl, ?_⟩
          gi_step
          exact hK _ _ (Fr.refl _ _) rfl trivial
        simp only [Act.put, List.setIfInBounds_toArray, List.set_cons_succ, List.set_cons_zero]
        refine factWalkG_cons (fun W hW hf K hK => ?_) (fun x5 => ?_)
        · skip
          have e4 : x4 = .pointer (some ⟨b3, 1, none⟩) := hf 4 (by omega) (by kernel_rfl)
          subst e4
          refine ⟨by kernel_rfl, ?_⟩
          gi_step
          exact hK _ _ (Fr.refl _ _) rfl trivial
        simp only [Act.put, List.setIfInBounds_toArray, List.set_cons_succ, List.set_cons_zero]
        refine factWalkG_cons (fun W hW hf K hK => ?_) (fun x6 => ?_)
        · skip
          refine ⟨by kernel_rfl, ?_⟩
          gi_step
          exact hK _ _ (Fr.refl _ _) rfl trivial
        simp only [Act.put, List.setIfInBounds_toArray, List.set_cons_succ, List.set_cons_zero]
        refine factWalkG_cons (fun W hW hf K hK => ?_) (fun x7 => ?_)
        · skip
          have e6 : x6 = .string (strOf T) := hf 6 (by omega) (by kernel_rfl)
          subst e6
          have hcv := Lib.run_convert_string_bytes (P := Tryz.prog) W 9 43 5 (strOf T) Tryz.underlying9 Tryz.underlying43 Tryz.underlying5
          rw [strOf_size] at hcv
          refine ⟨by kernel_rfl, ?_⟩
          gi_step
          exact hK _ _ (conv_fr W _) ⟨_, _, rfl, grownCap_ge _ _ _ _, grownCap_le_maxLen _ _ _ _ (by have := HTL.out; unfold maxLen; omega), conv_rd W _⟩ trivial
        simp only [Act.put, List.setIfInBounds_toArray, List.set_cons_succ, List.set_cons_zero]
        refine factWalkG_cons (fun W hW hf K hK => ?_) (fun x8 => ?_)
        · skip
          have e3 : x3 = .slice A 9 c := hf 3 (by omega) (by kernel_rfl)
          have e5 : x5 = .slice (some ⟨b3, 1, none⟩) 16 16 := hf 5 (by omega) (by kernel_rfl)
          obtain ⟨a7, c7, e7, l7, m7, r7⟩ : ∃ a7 c7, x7 = .slice a7 T.length c7 ∧ T.length ≤ c7 ∧ c7 ≤ maxLen ∧ Rd W a7 T.length (bv T) := hf 7 (by omega) (by kernel_rfl)
          subst e3 e5 e7
          refine ⟨by kernel_rfl, ?_⟩
          gi_step
          exact hK _ _ ((Fr.refl _ _).alloc _) ⟨_, rfl, rows3g W A c b3 a7 c7 L s T HLL.out HS.out HCC.out ⟨l7, m7⟩ (ROW.out W (HDR.out W hW)) (RDL.out W (HDR.out W hW)) r7⟩ trivial
        simp only [Act.put, List.setIfInBounds_toArray, List.set_cons_succ, List.set_cons_zero]
        refine factWalkG_cons (fun W hW hf K hK => ?_) (fun x9 => ?_)
        · skip
          obtain ⟨g8, e8, r8⟩ : ∃ g8, x8 = .slice (some ⟨g8, 0, none⟩) 3 3 ∧ RdB W (some ⟨g8, 0, none⟩) 3 [L, s, T] := hf 8 (by omega) (by kernel_rfl)
          subst e8
          refine ⟨by kernel_rfl, ?_⟩
          gi_step
          refine ⟨trivial, ?_⟩
          refine (callsIn_wide.2 (HSH.out W g8 (HDR.out W hW) r8)).mono ?_
          rintro e W' ⟨rfl, f2⟩
          dsimp only
          exact hK _ _ f2 rfl trivial
        simp only [Act.put, List.setIfInBounds_toArray, List.set_cons_succ, List.set_cons_zero]
        refine factWalkG_nil (fun W hW hf11 hmet => ?_)
        have e2 : x2 = .int .u64 ((g : Int) + 1) := hf11 2 (by omega)
        have e9 : x9 = .agg (b16 Q) := hf11 9 (by omega)
        subst e2 e9
        have hWf := HDR.out W hW
        have R9 := Lib.hid (R5.out.fr hWf (fun h => h))
        have F9 := Lib.hid (F5.out.trans hWf (fun _ _ h => h))
        have hbd := HBD.out
        rw [show ((g + 1 : Nat) : Int) = (g : Int) + 1 by omega] at hbd
        clear hf11 hmet hWf hW HDR F5 R5 P5 o5
        change wpAnyIn _ _ _ _ _ _ 3 _ _ _
        refine wpAnyIn_ready (rs := [10]) (by kernel_rfl) (by simp) ?_
        refine AllReadyIn.cons rfl (fun K hK => ?_) AllReadyIn.nil
        refine stepIn_build rfl 25 0 1 (.tmp 59) (.tmp 66) rfl _ _ rfl rfl (hbd W) ?_
        refine hK _ _ ?_
        clear hK K hbd
        have HSZ := Lib.hid (tRev_size (g := g + 1) (s := Q) HQL.out)
        have HTH : Hid (W.there b6 0 (rc (g + 1) Q).toArray.size) := by have h := R9.out.there; rw [List.size_toArray, rc_len HQL.out]; exact h
        have HST := Lib.hid (R9.out.setAll (ds := (rc (g + 1) Q).toArray) (by rw [List.size_toArray, List.size_toArray, rc_len HQL.out]; rfl))
        have FST := Lib.hid (Fr.setCells (fp := fun k => k = b6) (a := W) (g := b6) (fun _ => rfl) (rc (g + 1) Q) 0 W (Fr.refl _ _))
        have hsto := run_storeAt_mid (P := Tryz.prog) W b6 0 25 (rc (g + 1) Q).toArray HTH.out HSZ.out (rc_all (g + 1) Q)
        refine wpAnyIn_ready (rs := [11]) (by kernel_rfl) (by simp) ?_
        refine AllReadyIn.cons rfl (fun K hK => ?_) AllReadyIn.nil
        refine stepIn_store rfl 25 _ _ rfl _ _ rfl rfl hsto ?_
        refine hK _ _ ?_
        clear hK K hsto
        refine wpAnyIn_ready (rs := [12]) (by kernel_rfl) (by simp) ?_
        refine AllReadyIn.cons rfl (fun K hK => ?_) AllReadyIn.nil
        go_simp
        refine hK _ _ ?_
        refine wpAnyIn_done (by kernel_rfl) ?_ _
        clear hK K
        generalize W.setCells b6 0 (rc (g + 1) Q).toArray.toList = w9 at *
        go_wp2_with fail
        refine bodyPost_ret (v := .tuple #[.agg (rc (g + 1) Q).toArray, .int .i64 0]) (results_two Tryz.results6 _ _ b6 25 (rc (g + 1) Q).toArray (0, 0) _ rfl HST.out Tryz.underlying25 rfl HSZ.out) rfl ⟨by rw [HR.out, HNM.out], F9.out.trans FST.out (fun k hk e => by have := HB.out; omega)⟩
end Go.Proofs.YtjaocgmicdnghaaGreatDoor
