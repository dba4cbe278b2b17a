/-
  CONTRACTS of rev.Chain and its reference's.
-/
import Derived.Test.YtjaocgmicdnghaaGreatDoorMay
import Derived.Test.YtjaocgmicdnghaaGreatDoorWords
import Derived.Deep.RegionHeld3
namespace Go.Proofs.YtjaocgmicdnghaaGreatDoor
set_option linter.unusedSimpArgs false
set_option linter.unusedVariables false
open Go Go.RowKit
attribute [local go_sem] Oper.semAt_some

abbrev Nm := Nat × List UInt8
/-- The names' cells, one after the other. -/
def rcs (l : List Nm) : List Value := l.flatMap fun x => rc x.1 x.2
def NmOk (x : Nm) : Prop := x.2.length = 16 ∧ x.1 < 18446744073709551616
theorem flat_in {α : Type} (f : α → List Value) (c : Nat) : ∀ (l : List α) (_ : ∀ a ∈ l, (f a).length = c) (i : Nat) (h : i < l.length) (j : Nat), j < c → (l.flatMap f)[i * c + j]? = (f l[i])[j]?
  | a :: l, hf, 0, _, j, hj => by
    rw [List.flatMap_cons, Nat.zero_mul, Nat.zero_add, List.getElem?_append_left (by rw [hf a (List.mem_cons_self)]; exact hj)]
    rfl
  | a :: l, hf, i + 1, h, j, hj => by
    have h1 := hf a (List.mem_cons_self)
    rw [List.flatMap_cons, List.getElem?_append_right (by rw [h1, Nat.add_mul]; omega), h1, show (i + 1) * c + j - c = i * c + j by rw [Nat.add_mul]; omega]
    exact flat_in f c l (fun a h => hf a (List.mem_cons_of_mem _ h)) i (by simpa using h) j hj
theorem rcs_at {l : List Nm} (hl : ∀ x ∈ l, NmOk x) {i : Nat} (h : i < l.length) {j : Nat} (hj : j < 17) : (rcs l)[i * 17 + j]? = (rc l[i].1 l[i].2)[j]? :=
  flat_in _ 17 l (fun a ha => rc_len (hl a ha).1) i h j hj
theorem Blk.rng {w : World} {g : Nat} {t : TypeId} {cl : List Value} (h : Blk w g t cl.toArray) : w.rangeAt g 0 cl := fun j v hv => by
  have := h.cell j
  rw [Nat.zero_add, this]
  simpa using hv
theorem len16 {s : List UInt8} (h : s.length = 16) : ∃ a0 a1 a2 a3 a4 a5 a6 a7 a8 a9 a10 a11 a12 a13 a14 a15, s = [a0, a1, a2, a3, a4, a5, a6, a7, a8, a9, a10, a11, a12, a13, a14, a15] := by
  match s, h with
  | [a0, a1, a2, a3, a4, a5, a6, a7, a8, a9, a10, a11, a12, a13, a14, a15], _ => exact ⟨a0, a1, a2, a3, a4, a5, a6, a7, a8, a9, a10, a11, a12, a13, a14, a15, rfl⟩
theorem factWalkG_skip {F : Fence} {N : Nat} {P : Program} {ms : List Nat} {ops : Array Oper} {G : World → World → Prop} {w0 : World} {Xs Fp : Nat → Value → World → Prop} {i : Nat} {o : Oper} {rest : List Oper} {val : Nat → Value} {a : Act} {K : (Nat → Value) → Act → Prop}
    (h1 : ∀ w, G w0 w → (∀ j, j < i → Anc ms i j = true → Xs j (val j) w) → Region.wanted o (yielded ops a.tmps) = false ∧ (∀ f, o.about P w a.eval = some f → F.fn f) ∧ ∀ K' : Act → World → Prop, (∀ v w', G w w' → Xs i v w' → Fp i v w → K' (a.put o.dst v) w') → K' (a.put o.dst undef) w)
    (h3 : ∀ v, factWalkG F N P ms ops G w0 Xs Fp (i + 1) rest (fun q => if q = i then v else val q) (a.put o.dst v) K) : factWalkG F N P ms ops G w0 Xs Fp i (o :: rest) val a K :=
  ⟨fun w hw hf K' hK' => by rw [if_neg (by rw [(h1 w hw hf).1]; simp)]; exact ⟨(h1 w hw hf).2.1, (h1 w hw hf).2.2 K' hK'⟩, h3⟩
/-- Is the name at i as it must be? -/
def lk (l : List Nm) (i : Nat) : Bool := mayG (l.getD i (0, [])).1 && (decide (i = 0) || decide ((l.getD (i - 1) (0, [])).1 = (l.getD i (0, [])).1 + 1))
def chL (l : List Nm) : Bool := (List.range l.length).all (lk l) && (decide (1 ≤ l.length) && decide (l.length ≤ 16))
theorem chL_false {l : List Nm} {i : Nat} (h : i < l.length) (hk : lk l i = false) : chL l = false := by
  unfold chL
  rw [show (List.range l.length).all (lk l) = false from by
    rw [List.all_eq_false]
    exact ⟨i, List.mem_range.2 h, by simp [hk]⟩]
  rfl
theorem chL_true {l : List Nm} (h : ∀ i, i < l.length → lk l i = true) : chL l = (decide (1 ≤ l.length) && decide (l.length ≤ 16)) := by
  unfold chL
  rw [show (List.range l.length).all (lk l) = true from by
    rw [List.all_eq_true]
    exact fun i hi => h i (List.mem_range.1 hi)]
  rfl

def chA (B g : Nat) (a0 a1 a2 a3 a4 a5 a6 a7 a8 a9 a10 a11 a12 a13 a14 a15 : UInt8) (i : Nat) (v : Value) (W : World) : Prop := match i with
  | 0 => v = .agg #[.int .u64 (g : Nat), .int .u8 (a0.toNat : Nat), .int .u8 (a1.toNat : Nat), .int .u8 (a2.toNat : Nat), .int .u8 (a3.toNat : Nat), .int .u8 (a4.toNat : Nat), .int .u8 (a5.toNat : Nat), .int .u8 (a6.toNat : Nat), .int .u8 (a7.toNat : Nat), .int .u8 (a8.toNat : Nat), .int .u8 (a9.toNat : Nat), .int .u8 (a10.toNat : Nat), .int .u8 (a11.toNat : Nat), .int .u8 (a12.toNat : Nat), .int .u8 (a13.toNat : Nat), .int .u8 (a14.toNat : Nat), .int .u8 (a15.toNat : Nat)]
  | 1 => v = .bool false
  | 2 => v = .bool true
  | 3 => v = .bool true
  | 4 => v = undef
  | 5 => v = undef
  | 6 => v = undef
  | 7 => v = undef
  | 8 => v = undef
  | 9 => v = undef
  | 10 => v = undef
  | 11 => v = undef
  | 12 => v = undef
  | 13 => v = undef
  | 14 => v = undef
  | 15 => v = undef
  | 16 => v = undef
  | 17 => v = undef
  | 18 => v = .bool true
  | _ => True
theorem chA_far {B g : Nat} {a0 a1 a2 a3 a4 a5 a6 a7 a8 a9 a10 a11 a12 a13 a14 a15 : UInt8} {i : Nat} {v : Value} {W W' : World} (hg : Fr (fun _ => False) W W') (hx : chA B g a0 a1 a2 a3 a4 a5 a6 a7 a8 a9 a10 a11 a12 a13 a14 a15 i v W) : chA B g a0 a1 a2 a3 a4 a5 a6 a7 a8 a9 a10 a11 a12 a13 a14 a15 i v W' := by
  match i with
  | 0 => exact hx
  | 1 => exact hx
  | 2 => exact hx
  | 3 => exact hx
  | 4 => exact hx
  | 5 => exact hx
  | 6 => exact hx
  | 7 => exact hx
  | 8 => exact hx
  | 9 => exact hx
  | 10 => exact hx
  | 11 => exact hx
  | 12 => exact hx
  | 13 => exact hx
  | 14 => exact hx
  | 15 => exact hx
  | 16 => exact hx
  | 17 => exact hx
  | 18 => exact hx
  | (n + 19) => exact hx
def chB (B g : Nat) (a0 a1 a2 a3 a4 a5 a6 a7 a8 a9 a10 a11 a12 a13 a14 a15 : UInt8) (i : Nat) (v : Value) (W : World) : Prop := match i with
  | 0 => v = .agg #[.int .u64 (g : Nat), .int .u8 (a0.toNat : Nat), .int .u8 (a1.toNat : Nat), .int .u8 (a2.toNat : Nat), .int .u8 (a3.toNat : Nat), .int .u8 (a4.toNat : Nat), .int .u8 (a5.toNat : Nat), .int .u8 (a6.toNat : Nat), .int .u8 (a7.toNat : Nat), .int .u8 (a8.toNat : Nat), .int .u8 (a9.toNat : Nat), .int .u8 (a10.toNat : Nat), .int .u8 (a11.toNat : Nat), .int .u8 (a12.toNat : Nat), .int .u8 (a13.toNat : Nat), .int .u8 (a14.toNat : Nat), .int .u8 (a15.toNat : Nat)]
  | 1 => v = .bool true
  | 2 => v = .bool false
  | 3 => v = .bool false
  | 4 => v = .int .i64 0
  | 5 => v = .bool false
  | 6 => v = .bool false
  | 7 => v = undef
  | 8 => v = undef
  | 9 => v = undef
  | 10 => v = undef
  | 11 => v = undef
  | 12 => v = undef
  | 13 => v = undef
  | 14 => v = undef
  | 15 => v = undef
  | 16 => v = undef
  | 17 => v = .bool false
  | 18 => v = .bool false
  | _ => True
theorem chB_far {B g : Nat} {a0 a1 a2 a3 a4 a5 a6 a7 a8 a9 a10 a11 a12 a13 a14 a15 : UInt8} {i : Nat} {v : Value} {W W' : World} (hg : Fr (fun _ => False) W W') (hx : chB B g a0 a1 a2 a3 a4 a5 a6 a7 a8 a9 a10 a11 a12 a13 a14 a15 i v W) : chB B g a0 a1 a2 a3 a4 a5 a6 a7 a8 a9 a10 a11 a12 a13 a14 a15 i v W' := by
  match i with
  | 0 => exact hx
  | 1 => exact hx
  | 2 => exact hx
  | 3 => exact hx
  | 4 => exact hx
  | 5 => exact hx
  | 6 => exact hx
  | 7 => exact hx
  | 8 => exact hx
  | 9 => exact hx
  | 10 => exact hx
  | 11 => exact hx
  | 12 => exact hx
  | 13 => exact hx
  | 14 => exact hx
  | 15 => exact hx
  | 16 => exact hx
  | 17 => exact hx
  | 18 => exact hx
  | (n + 19) => exact hx
def chC (B b off n c k g gp : Nat) (d : Bool) (a0 a1 a2 a3 a4 a5 a6 a7 a8 a9 a10 a11 a12 a13 a14 a15 : UInt8) (i : Nat) (v : Value) (W : World) : Prop := match i with
  | 0 => v = .agg #[.int .u64 (g : Nat), .int .u8 (a0.toNat : Nat), .int .u8 (a1.toNat : Nat), .int .u8 (a2.toNat : Nat), .int .u8 (a3.toNat : Nat), .int .u8 (a4.toNat : Nat), .int .u8 (a5.toNat : Nat), .int .u8 (a6.toNat : Nat), .int .u8 (a7.toNat : Nat), .int .u8 (a8.toNat : Nat), .int .u8 (a9.toNat : Nat), .int .u8 (a10.toNat : Nat), .int .u8 (a11.toNat : Nat), .int .u8 (a12.toNat : Nat), .int .u8 (a13.toNat : Nat), .int .u8 (a14.toNat : Nat), .int .u8 (a15.toNat : Nat)]
  | 1 => v = .bool true
  | 2 => v = .bool false
  | 3 => v = .bool false
  | 4 => v = .int .i64 ((k + 1 : Nat) : Int)
  | 5 => v = .bool true
  | 6 => v = .bool true
  | 7 => v = .slice (some ⟨b, off, none⟩) n c
  | 8 => v = .int .i64 ((k + 1 : Nat) : Int)
  | 9 => v = .int .i64 (k : Nat)
  | 10 => v = .pointer (some ⟨b, off + k * 17, none⟩)
  | 11 => v = .pointer (some ⟨b, off + k * 17, none⟩)
  | 12 => v = .int .u64 (gp : Nat)
  | 13 => v = .pointer (some ⟨B, 0, none⟩)
  | 14 => v = .int .u64 (g : Nat)
  | 15 => v = .int .u64 ((g + 1 : Nat) : Int)
  | 16 => v = .bool (!d)
  | 17 => v = .bool (!d)
  | 18 => v = .bool (!d)
  | _ => True
theorem chC_far {B b off n c k g gp : Nat} {d : Bool} {a0 a1 a2 a3 a4 a5 a6 a7 a8 a9 a10 a11 a12 a13 a14 a15 : UInt8} {i : Nat} {v : Value} {W W' : World} (hg : Fr (fun _ => False) W W') (hx : chC B b off n c k g gp d a0 a1 a2 a3 a4 a5 a6 a7 a8 a9 a10 a11 a12 a13 a14 a15 i v W) : chC B b off n c k g gp d a0 a1 a2 a3 a4 a5 a6 a7 a8 a9 a10 a11 a12 a13 a14 a15 i v W' := by
  match i with
  | 0 => exact hx
  | 1 => exact hx
  | 2 => exact hx
  | 3 => exact hx
  | 4 => exact hx
  | 5 => exact hx
  | 6 => exact hx
  | 7 => exact hx
  | 8 => exact hx
  | 9 => exact hx
  | 10 => exact hx
  | 11 => exact hx
  | 12 => exact hx
  | 13 => exact hx
  | 14 => exact hx
  | 15 => exact hx
  | 16 => exact hx
  | 17 => exact hx
  | 18 => exact hx
  | (n + 19) => exact hx

set_option maxRecDepth 100000 in
set_option maxHeartbeats 1000000 in
theorem chain_c (w : World) (A : Option Addr) (c : Nat) (l : List Nm) (hl : ∀ x ∈ l, NmOk x) (hr : Rd w A (l.length * 17) (rcs l)) (hn : l.length ≤ 9223372036854775807) :
    Calls Tryz.prog 14 #[.slice A l.length c] w fun e w' => e = .returned (.bool (chL l)) ∧ Fr (fun _ => False) w w' := by
  obtain ⟨n, hnn⟩ : ∃ n, l.length = n := ⟨_, rfl⟩
  have HR := Lib.hid hr
  have HL := Lib.hid hl
  rw [hnn] at HR hn ⊢
  have HN := Lib.hid hnn
  clear hr hl hnn
  go_enter Tryz.func14, Tryz.ntmps14
  go_wp2_with fail
  go_loopw [7] (fun u wr => ∃ i : Nat, u = .int .i64 i ∧ i ≤ n ∧ Hid (∀ j, j < i → lk l j = true) ∧ Hid (Fr (fun _ => False) w wr)) (fun u _ => n - (intOf u).toNat)
  case atStart => exact ⟨0, rfl, Nat.zero_le _, (fun j hj => absurd hj (by omega)), Fr.refl _ _⟩
  case round =>
    obtain ⟨i, rfl, hi, hno, hf⟩ := hrel
    by_cases hlt : i < n
    · have hdl : decide ((i : Int) < (n : Int)) = true := decide_eq_true (by omega)
      have hI : (i : Int) < n := by omega
      have hil : i < l.length := by rw [HN.out]; exact hlt
      obtain ⟨b, off, rfl, hcl⟩ := (HR.out.far hf.out).lit (by omega)
      obtain ⟨⟨g, s⟩, hx⟩ : ∃ x : Nm, l[i] = x := ⟨_, rfl⟩
      have hok := HL.out _ (List.getElem_mem hil)
      rw [hx] at hok
      obtain ⟨cl, hcls⟩ : ∃ cl, rc g s = cl := ⟨_, rfl⟩
      have hlen : cl.length = 17 := by rw [← hcls]; exact rc_len hok.1
      have hran : wr.rangeAt b (off + i * 17) cl := fun j v hv => by
        have hj : j < 17 := by rw [← hlen]; exact (List.getElem?_eq_some_iff.1 hv).1
        rw [Nat.add_assoc, hcl _ (by omega), rcs_at HL.out hil hj, hx, hcls, hv]
      have hinf : (Tryz.prog.info? 25).map (·.size) = some cl.length := by rw [hlen]; kernel_rfl
      have HRAN := Lib.hid hran
      have HINF := Lib.hid hinf
      have HCL := Lib.hid hcl
      have HLEN := Lib.hid hlen
      have HCLS := Lib.hid hcls
      have HOK := Lib.hid hok
      have HX := Lib.hid hx
      have hb0 := Blk.new wr 25 #[.int .u64 0, .int .u8 0, .int .u8 0, .int .u8 0, .int .u8 0, .int .u8 0, .int .u8 0, .int .u8 0, .int .u8 0, .int .u8 0, .int .u8 0, .int .u8 0, .int .u8 0, .int .u8 0, .int .u8 0, .int .u8 0, .int .u8 0]
      have hf0 := (Fr.refl (fun _ => False) wr).alloc (.cells #[.int .u64 0, .int .u8 0, .int .u8 0, .int .u8 0, .int .u8 0, .int .u8 0, .int .u8 0, .int .u8 0, .int .u8 0, .int .u8 0, .int .u8 0, .int .u8 0, .int .u8 0, .int .u8 0, .int .u8 0, .int .u8 0, .int .u8 0] 25)
      obtain ⟨W1, hW1⟩ : ∃ W1, wr.alloc (.cells #[.int .u64 0, .int .u8 0, .int .u8 0, .int .u8 0, .int .u8 0, .int .u8 0, .int .u8 0, .int .u8 0, .int .u8 0, .int .u8 0, .int .u8 0, .int .u8 0, .int .u8 0, .int .u8 0, .int .u8 0, .int .u8 0, .int .u8 0] 25) = W1 := ⟨_, rfl⟩
      rw [hW1] at hb0 hf0
      have hsz : cl.toArray.size = 17 := by simpa using hlen
      have hth : W1.there wr.heap.size 0 cl.toArray.size := by rw [hsz]; exact hb0.there
      have hst := hb0.setAll (ds := cl.toArray) (by rw [hsz]; rfl)
      have hft := Fr.setCells (fp := fun _ => False) (a := wr) (g := wr.heap.size) (fun h => absurd h (by omega)) cl.toArray.toList 0 W1 hf0
      have hinf2 : (Tryz.prog.info? 25).map (·.size) = some cl.toArray.size := by rw [hsz]; kernel_rfl
      have hone : cl.toArray.all (·.oneCell') = true := all_oneCell_toArray (fun v hv => by
        rw [← hcls] at hv
        rcases List.mem_cons.1 hv with rfl | h
        · rfl
        · exact bv_one _ _ h)
      have HTH := Lib.hid hth
      have HST := Lib.hid hst
      have HFT := Lib.hid hft
      have HINF2 := Lib.hid hinf2
      have HONE := Lib.hid hone
      have HSZ := Lib.hid hsz
      have HW1 := Lib.hid hW1
      clear hran hinf hcl hlen hcls hok hx hb0 hf0 hth hst hft hinf2 hone hsz hW1
      go_wp2_with (first
        | refine wpList_load_mid rfl 25 _ rfl b (off + i * 17) rfl cl _ HRAN.out Tryz.underlying25 rfl HINF.out ?_
        | (rw [HW1.out]; refine wpList_store_mid rfl 25 _ _ rfl wr.heap.size 0 cl.toArray rfl rfl HTH.out HINF2.out HONE.out ?_))
      generalize W1.setCells wr.heap.size 0 cl = W2 at *
      obtain ⟨r, hrr⟩ : ∃ r, mayG g = r := ⟨_, rfl⟩
      have hmc := fun W => may_c W g s HOK.out.1 HOK.out.2
      rw [HCLS.out, hrr] at hmc
      have HMC := Lib.hid hmc
      have HRR := Lib.hid hrr
      clear hmc hrr
      clear HTH HINF2 HONE HSZ HW1
      obtain ⟨B, hB⟩ : ∃ B, wr.heap.size = B := ⟨_, rfl⟩
      rw [hB] at HST ⊢
      clear hB
      obtain ⟨a0, a1, a2, a3, a4, a5, a6, a7, a8, a9, a10, a11, a12, a13, a14, a15, rfl⟩ := len16 HOK.out.1
      have hmc := HMC.out
      have hst := HST.out
      have e := HCLS.out
      simp only [rc, bv, List.map_cons, List.map_nil] at e
      subst e
      have HMC := Lib.hid hmc
      have HST := Lib.hid hst
      clear hmc hst HINF HRAN
      cases r with
      | false => as_aux_lemma =>
          refine (wpIn_wide (n := 9)).1 ?_
          refine wpIn_region_factsG (ms := [0, 1, 3, 7, 15, 31, 63, 127, 127, 383, 1023, 2047, 4095, 127, 8319, 24703, 65535, 131071, 262143]) (k := 19) (Fr (fun _ => False)) (chA B g a0 a1 a2 a3 a4 a5 a6 a7 a8 a9 a10 a11 a12 a13 a14 a15) (fun i v W => True) (by kernel_rfl) (by kernel_rfl) (Fr.refl _ _) (fun a b c h1 h2 => h1.trans h2 (fun _ _ h => h)) (fun i v w w' hg hx => chA_far hg hx) ?walkchA
          case walkchA =>
          have hdr : ∀ W, Fr (fun _ => False) W2.drew W → Fr (fun _ => False) W2 W := fun W h => ((Fr.refl (fun _ => False) W2).drew).trans h (fun _ _ h => h)
          have HDR := Lib.hid hdr
          clear hdr
          refine factWalkG_cons (fun W hW hf K hK => ?_) (fun x0 => ?_)
          · skip
            have bw := HST.out.fr (HDR.out W hW) (fun h => h)
            have q0 : W.cell? ⟨B, 0, none⟩ = some (.int .u64 (g : Nat)) := bw.cell 0
            have q1 : W.cell? ⟨B, 1, none⟩ = some (.int .u8 (a0.toNat : Nat)) := bw.cell 1
            have q2 : W.cell? ⟨B, 2, none⟩ = some (.int .u8 (a1.toNat : Nat)) := bw.cell 2
            have q3 : W.cell? ⟨B, 3, none⟩ = some (.int .u8 (a2.toNat : Nat)) := bw.cell 3
            have q4 : W.cell? ⟨B, 4, none⟩ = some (.int .u8 (a3.toNat : Nat)) := bw.cell 4
            have q5 : W.cell? ⟨B, 5, none⟩ = some (.int .u8 (a4.toNat : Nat)) := bw.cell 5
            have q6 : W.cell? ⟨B, 6, none⟩ = some (.int .u8 (a5.toNat : Nat)) := bw.cell 6
            have q7 : W.cell? ⟨B, 7, none⟩ = some (.int .u8 (a6.toNat : Nat)) := bw.cell 7
            have q8 : W.cell? ⟨B, 8, none⟩ = some (.int .u8 (a7.toNat : Nat)) := bw.cell 8
            have q9 : W.cell? ⟨B, 9, none⟩ = some (.int .u8 (a8.toNat : Nat)) := bw.cell 9
            have q10 : W.cell? ⟨B, 10, none⟩ = some (.int .u8 (a9.toNat : Nat)) := bw.cell 10
            have q11 : W.cell? ⟨B, 11, none⟩ = some (.int .u8 (a10.toNat : Nat)) := bw.cell 11
            have q12 : W.cell? ⟨B, 12, none⟩ = some (.int .u8 (a11.toNat : Nat)) := bw.cell 12
            have q13 : W.cell? ⟨B, 13, none⟩ = some (.int .u8 (a12.toNat : Nat)) := bw.cell 13
            have q14 : W.cell? ⟨B, 14, none⟩ = some (.int .u8 (a13.toNat : Nat)) := bw.cell 14
            have q15 : W.cell? ⟨B, 15, none⟩ = some (.int .u8 (a14.toNat : Nat)) := bw.cell 15
            have q16 : W.cell? ⟨B, 16, none⟩ = some (.int .u8 (a15.toNat : Nat)) := bw.cell 16
            refine ⟨by kernel_rfl, ?_⟩
            gi_step
            exact hK _ _ (Fr.refl _ _) rfl trivial
          simp only [Act.put, List.setIfInBounds_toArray, List.set_cons_succ, List.set_cons_zero]
          refine factWalkG_cons (fun W hW hf K hK => ?_) (fun x1 => ?_)
          · skip
            have e0 : x0 = .agg #[.int .u64 (g : Nat), .int .u8 (a0.toNat : Nat), .int .u8 (a1.toNat : Nat), .int .u8 (a2.toNat : Nat), .int .u8 (a3.toNat : Nat), .int .u8 (a4.toNat : Nat), .int .u8 (a5.toNat : Nat), .int .u8 (a6.toNat : Nat), .int .u8 (a7.toNat : Nat), .int .u8 (a8.toNat : Nat), .int .u8 (a9.toNat : Nat), .int .u8 (a10.toNat : Nat), .int .u8 (a11.toNat : Nat), .int .u8 (a12.toNat : Nat), .int .u8 (a13.toNat : Nat), .int .u8 (a14.toNat : Nat), .int .u8 (a15.toNat : Nat)] := hf 0 (by omega) (by kernel_rfl)
            subst e0
            have hw := HMC.out W
            refine ⟨by kernel_rfl, ?_⟩
            gi_step
            refine ⟨trivial, ?_⟩
            refine (callsIn_wide.2 (hw)).mono ?_
            rintro e W' ⟨rfl, f2⟩
            dsimp only
            exact hK _ _ f2 rfl trivial
          simp only [Act.put, List.setIfInBounds_toArray, List.set_cons_succ, List.set_cons_zero]
          refine factWalkG_cons (fun W hW hf K hK => ?_) (fun x2 => ?_)
          · skip
            have e1 : x1 = .bool false := hf 1 (by omega) (by kernel_rfl)
            subst e1
            refine ⟨by kernel_rfl, ?_⟩
            gi_step
            exact hK _ _ (Fr.refl _ _) rfl trivial
          simp only [Act.put, List.setIfInBounds_toArray, List.set_cons_succ, List.set_cons_zero]
          refine factWalkG_cons (fun W hW hf K hK => ?_) (fun x3 => ?_)
          · skip
            have e2 : x2 = .bool true := hf 2 (by omega) (by kernel_rfl)
            subst e2
            refine ⟨by kernel_rfl, ?_⟩
            gi_step
            exact hK _ _ (Fr.refl _ _) rfl trivial
          simp only [Act.put, List.setIfInBounds_toArray, List.set_cons_succ, List.set_cons_zero]
          refine factWalkG_skip (fun W hW hf => ?_) (fun x4 => ?_)
          · skip
            have e3 : x3 = .bool true := hf 3 (by omega) (by kernel_rfl)
            subst e3
            exact ⟨by kernel_rfl, fun _ _ => trivial, fun K hK => hK _ _ (Fr.refl _ _) rfl trivial⟩
          simp only [Act.put, List.setIfInBounds_toArray, List.set_cons_succ, List.set_cons_zero]
          refine factWalkG_skip (fun W hW hf => ?_) (fun x5 => ?_)
          · skip
            have e3 : x3 = .bool true := hf 3 (by omega) (by kernel_rfl)
            subst e3
            exact ⟨by kernel_rfl, fun _ _ => trivial, fun K hK => hK _ _ (Fr.refl _ _) rfl trivial⟩
          simp only [Act.put, List.setIfInBounds_toArray, List.set_cons_succ, List.set_cons_zero]
          refine factWalkG_skip (fun W hW hf => ?_) (fun x6 => ?_)
          · skip
            have e3 : x3 = .bool true := hf 3 (by omega) (by kernel_rfl)
            subst e3
            exact ⟨by kernel_rfl, fun _ _ => trivial, fun K hK => hK _ _ (Fr.refl _ _) rfl trivial⟩
          simp only [Act.put, List.setIfInBounds_toArray, List.set_cons_succ, List.set_cons_zero]
          refine factWalkG_skip (fun W hW hf => ?_) (fun x7 => ?_)
          · skip
            have e6 : x6 = undef := hf 6 (by omega) (by kernel_rfl)
            subst e6
            exact ⟨by kernel_rfl, fun _ _ => trivial, fun K hK => hK _ _ (Fr.refl _ _) rfl trivial⟩
          simp only [Act.put, List.setIfInBounds_toArray, List.set_cons_succ, List.set_cons_zero]
          refine factWalkG_skip (fun W hW hf => ?_) (fun x8 => ?_)
          · skip
            have e6 : x6 = undef := hf 6 (by omega) (by kernel_rfl)
            subst e6
            exact ⟨by kernel_rfl, fun _ _ => trivial, fun K hK => hK _ _ (Fr.refl _ _) rfl trivial⟩
          simp only [Act.put, List.setIfInBounds_toArray, List.set_cons_succ, List.set_cons_zero]
          refine factWalkG_skip (fun W hW hf => ?_) (fun x9 => ?_)
          · skip
            have e6 : x6 = undef := hf 6 (by omega) (by kernel_rfl)
            subst e6
            exact ⟨by kernel_rfl, fun _ _ => trivial, fun K hK => hK _ _ (Fr.refl _ _) rfl trivial⟩
          simp only [Act.put, List.setIfInBounds_toArray, List.set_cons_succ, List.set_cons_zero]
          refine factWalkG_skip (fun W hW hf => ?_) (fun x10 => ?_)
          · skip
            have e6 : x6 = undef := hf 6 (by omega) (by kernel_rfl)
            subst e6
            exact ⟨by kernel_rfl, fun _ _ => trivial, fun K hK => hK _ _ (Fr.refl _ _) rfl trivial⟩
          simp only [Act.put, List.setIfInBounds_toArray, List.set_cons_succ, List.set_cons_zero]
          refine factWalkG_skip (fun W hW hf => ?_) (fun x11 => ?_)
          · skip
            have e6 : x6 = undef := hf 6 (by omega) (by kernel_rfl)
            subst e6
            exact ⟨by kernel_rfl, fun _ _ => trivial, fun K hK => hK _ _ (Fr.refl _ _) rfl trivial⟩
          simp only [Act.put, List.setIfInBounds_toArray, List.set_cons_succ, List.set_cons_zero]
          refine factWalkG_skip (fun W hW hf => ?_) (fun x12 => ?_)
          · skip
            have e6 : x6 = undef := hf 6 (by omega) (by kernel_rfl)
            subst e6
            exact ⟨by kernel_rfl, fun _ _ => trivial, fun K hK => hK _ _ (Fr.refl _ _) rfl trivial⟩
          simp only [Act.put, List.setIfInBounds_toArray, List.set_cons_succ, List.set_cons_zero]
          refine factWalkG_skip (fun W hW hf => ?_) (fun x13 => ?_)
          · skip
            have e6 : x6 = undef := hf 6 (by omega) (by kernel_rfl)
            subst e6
            exact ⟨by kernel_rfl, fun _ _ => trivial, fun K hK => hK _ _ (Fr.refl _ _) rfl trivial⟩
          simp only [Act.put, List.setIfInBounds_toArray, List.set_cons_succ, List.set_cons_zero]
          refine factWalkG_skip (fun W hW hf => ?_) (fun x14 => ?_)
          · skip
            have e6 : x6 = undef := hf 6 (by omega) (by kernel_rfl)
            subst e6
            exact ⟨by kernel_rfl, fun _ _ => trivial, fun K hK => hK _ _ (Fr.refl _ _) rfl trivial⟩
          simp only [Act.put, List.setIfInBounds_toArray, List.set_cons_succ, List.set_cons_zero]
          refine factWalkG_skip (fun W hW hf => ?_) (fun x15 => ?_)
          · skip
            have e6 : x6 = undef := hf 6 (by omega) (by kernel_rfl)
            subst e6
            exact ⟨by kernel_rfl, fun _ _ => trivial, fun K hK => hK _ _ (Fr.refl _ _) rfl trivial⟩
          simp only [Act.put, List.setIfInBounds_toArray, List.set_cons_succ, List.set_cons_zero]
          refine factWalkG_skip (fun W hW hf => ?_) (fun x16 => ?_)
          · skip
            have e6 : x6 = undef := hf 6 (by omega) (by kernel_rfl)
            subst e6
            exact ⟨by kernel_rfl, fun _ _ => trivial, fun K hK => hK _ _ (Fr.refl _ _) rfl trivial⟩
          simp only [Act.put, List.setIfInBounds_toArray, List.set_cons_succ, List.set_cons_zero]
          refine factWalkG_skip (fun W hW hf => ?_) (fun x17 => ?_)
          · skip
            have e3 : x3 = .bool true := hf 3 (by omega) (by kernel_rfl)
            subst e3
            exact ⟨by kernel_rfl, fun _ _ => trivial, fun K hK => hK _ _ (Fr.refl _ _) rfl trivial⟩
          simp only [Act.put, List.setIfInBounds_toArray, List.set_cons_succ, List.set_cons_zero]
          refine factWalkG_cons (fun W hW hf K hK => ?_) (fun x18 => ?_)
          · skip
            have e3 : x3 = .bool true := hf 3 (by omega) (by kernel_rfl)
            have e17 : x17 = undef := hf 17 (by omega) (by kernel_rfl)
            subst e3 e17
            refine ⟨by kernel_rfl, ?_⟩
            gi_step
            exact hK _ _ (Fr.refl _ _) rfl trivial
          simp only [Act.put, List.setIfInBounds_toArray, List.set_cons_succ, List.set_cons_zero]

          refine factWalkG_nil (fun W hW hf2 hmet => ?_)
          have f18 : x18 = .bool true := hf2 18 (by omega)
          subst f18
          have HFW := Lib.hid ((hf.out.trans HFT.out (fun _ _ h => h)).trans (HDR.out W hW) (fun _ _ h => h))
          clear hf2 hmet hW HDR
          change wpAnyIn _ _ _ _ _ _ 0 _ _ _
          refine wpAnyIn_done (by kernel_rfl) ?_ _
          have hch := chL_false hil (show lk l i = false by
            unfold lk
            rw [List.getD_eq_getElem?_getD, List.getElem?_eq_getElem hil, HX.out]
            simp [HRR.out])
          clear HMC
          go_wp2_with fail
          go_ret
          exact ⟨by rw [hch]; rfl, HFW.out⟩
      | true =>
        rcases Nat.eq_zero_or_pos i with hi0 | hi0
        · as_aux_lemma =>
          subst hi0
          refine (wpIn_wide (n := 9)).1 ?_
          refine wpIn_region_factsG (ms := [0, 1, 3, 7, 15, 31, 63, 127, 127, 383, 1023, 2047, 4095, 127, 8319, 24703, 65535, 131071, 262143]) (k := 19) (Fr (fun _ => False)) (chB B g a0 a1 a2 a3 a4 a5 a6 a7 a8 a9 a10 a11 a12 a13 a14 a15) (fun i v W => True) (by kernel_rfl) (by kernel_rfl) (Fr.refl _ _) (fun a b c h1 h2 => h1.trans h2 (fun _ _ h => h)) (fun i v w w' hg hx => chB_far hg hx) ?walkchB
          case walkchB =>
          have hdr : ∀ W, Fr (fun _ => False) W2.drew W → Fr (fun _ => False) W2 W := fun W h => ((Fr.refl (fun _ => False) W2).drew).trans h (fun _ _ h => h)
          have HDR := Lib.hid hdr
          clear hdr
          refine factWalkG_cons (fun W hW hf K hK => ?_) (fun x0 => ?_)
          · skip
            have bw := HST.out.fr (HDR.out W hW) (fun h => h)
            have q0 : W.cell? ⟨B, 0, none⟩ = some (.int .u64 (g : Nat)) := bw.cell 0
            have q1 : W.cell? ⟨B, 1, none⟩ = some (.int .u8 (a0.toNat : Nat)) := bw.cell 1
            have q2 : W.cell? ⟨B, 2, none⟩ = some (.int .u8 (a1.toNat : Nat)) := bw.cell 2
            have q3 : W.cell? ⟨B, 3, none⟩ = some (.int .u8 (a2.toNat : Nat)) := bw.cell 3
            have q4 : W.cell? ⟨B, 4, none⟩ = some (.int .u8 (a3.toNat : Nat)) := bw.cell 4
            have q5 : W.cell? ⟨B, 5, none⟩ = some (.int .u8 (a4.toNat : Nat)) := bw.cell 5
            have q6 : W.cell? ⟨B, 6, none⟩ = some (.int .u8 (a5.toNat : Nat)) := bw.cell 6
            have q7 : W.cell? ⟨B, 7, none⟩ = some (.int .u8 (a6.toNat : Nat)) := bw.cell 7
            have q8 : W.cell? ⟨B, 8, none⟩ = some (.int .u8 (a7.toNat : Nat)) := bw.cell 8
            have q9 : W.cell? ⟨B, 9, none⟩ = some (.int .u8 (a8.toNat : Nat)) := bw.cell 9
            have q10 : W.cell? ⟨B, 10, none⟩ = some (.int .u8 (a9.toNat : Nat)) := bw.cell 10
            have q11 : W.cell? ⟨B, 11, none⟩ = some (.int .u8 (a10.toNat : Nat)) := bw.cell 11
            have q12 : W.cell? ⟨B, 12, none⟩ = some (.int .u8 (a11.toNat : Nat)) := bw.cell 12
            have q13 : W.cell? ⟨B, 13, none⟩ = some (.int .u8 (a12.toNat : Nat)) := bw.cell 13
            have q14 : W.cell? ⟨B, 14, none⟩ = some (.int .u8 (a13.toNat : Nat)) := bw.cell 14
            have q15 : W.cell? ⟨B, 15, none⟩ = some (.int .u8 (a14.toNat : Nat)) := bw.cell 15
            have q16 : W.cell? ⟨B, 16, none⟩ = some (.int .u8 (a15.toNat : Nat)) := bw.cell 16
            refine ⟨by kernel_rfl, ?_⟩
            gi_step
            exact hK _ _ (Fr.refl _ _) rfl trivial
          simp only [Act.put, List.setIfInBounds_toArray, List.set_cons_succ, List.set_cons_zero]
          refine factWalkG_cons (fun W hW hf K hK => ?_) (fun x1 => ?_)
          · skip
            have e0 : x0 = .agg #[.int .u64 (g : Nat), .int .u8 (a0.toNat : Nat), .int .u8 (a1.toNat : Nat), .int .u8 (a2.toNat : Nat), .int .u8 (a3.toNat : Nat), .int .u8 (a4.toNat : Nat), .int .u8 (a5.toNat : Nat), .int .u8 (a6.toNat : Nat), .int .u8 (a7.toNat : Nat), .int .u8 (a8.toNat : Nat), .int .u8 (a9.toNat : Nat), .int .u8 (a10.toNat : Nat), .int .u8 (a11.toNat : Nat), .int .u8 (a12.toNat : Nat), .int .u8 (a13.toNat : Nat), .int .u8 (a14.toNat : Nat), .int .u8 (a15.toNat : Nat)] := hf 0 (by omega) (by kernel_rfl)
            subst e0
            have hw := HMC.out W
            refine ⟨by kernel_rfl, ?_⟩
            gi_step
            refine ⟨trivial, ?_⟩
            refine (callsIn_wide.2 (hw)).mono ?_
            rintro e W' ⟨rfl, f2⟩
            dsimp only
            exact hK _ _ f2 rfl trivial
          simp only [Act.put, List.setIfInBounds_toArray, List.set_cons_succ, List.set_cons_zero]
          refine factWalkG_cons (fun W hW hf K hK => ?_) (fun x2 => ?_)
          · skip
            have e1 : x1 = .bool true := hf 1 (by omega) (by kernel_rfl)
            subst e1
            refine ⟨by kernel_rfl, ?_⟩
            gi_step
            exact hK _ _ (Fr.refl _ _) rfl trivial
          simp only [Act.put, List.setIfInBounds_toArray, List.set_cons_succ, List.set_cons_zero]
          refine factWalkG_cons (fun W hW hf K hK => ?_) (fun x3 => ?_)
          · skip
            have e2 : x2 = .bool false := hf 2 (by omega) (by kernel_rfl)
            subst e2
            refine ⟨by kernel_rfl, ?_⟩
            gi_step
            exact hK _ _ (Fr.refl _ _) rfl trivial
          simp only [Act.put, List.setIfInBounds_toArray, List.set_cons_succ, List.set_cons_zero]
          refine factWalkG_cons (fun W hW hf K hK => ?_) (fun x4 => ?_)
          · skip
            have e3 : x3 = .bool false := hf 3 (by omega) (by kernel_rfl)
            subst e3
            refine ⟨by kernel_rfl, ?_⟩
            gi_step
            exact hK _ _ (Fr.refl _ _) rfl trivial
          simp only [Act.put, List.setIfInBounds_toArray, List.set_cons_succ, List.set_cons_zero]
          refine factWalkG_cons (fun W hW hf K hK => ?_) (fun x5 => ?_)
          · skip
            have e3 : x3 = .bool false := hf 3 (by omega) (by kernel_rfl)
            have e4 : x4 = .int .i64 0 := hf 4 (by omega) (by kernel_rfl)
            subst e3 e4
            refine ⟨by kernel_rfl, ?_⟩
            gi_step
            exact hK _ _ (Fr.refl _ _) rfl trivial
          simp only [Act.put, List.setIfInBounds_toArray, List.set_cons_succ, List.set_cons_zero]
          refine factWalkG_cons (fun W hW hf K hK => ?_) (fun x6 => ?_)
          · skip
            have e3 : x3 = .bool false := hf 3 (by omega) (by kernel_rfl)
            have e5 : x5 = .bool false := hf 5 (by omega) (by kernel_rfl)
            subst e3 e5
            refine ⟨by kernel_rfl, ?_⟩
            gi_step
            exact hK _ _ (Fr.refl _ _) rfl trivial
          simp only [Act.put, List.setIfInBounds_toArray, List.set_cons_succ, List.set_cons_zero]
          refine factWalkG_skip (fun W hW hf => ?_) (fun x7 => ?_)
          · skip
            have e6 : x6 = .bool false := hf 6 (by omega) (by kernel_rfl)
            subst e6
            exact ⟨by kernel_rfl, fun _ _ => trivial, fun K hK => hK _ _ (Fr.refl _ _) rfl trivial⟩
          simp only [Act.put, List.setIfInBounds_toArray, List.set_cons_succ, List.set_cons_zero]
          refine factWalkG_skip (fun W hW hf => ?_) (fun x8 => ?_)
          · skip
            have e6 : x6 = .bool false := hf 6 (by omega) (by kernel_rfl)
            subst e6
            exact ⟨by kernel_rfl, fun _ _ => trivial, fun K hK => hK _ _ (Fr.refl _ _) rfl trivial⟩
          simp only [Act.put, List.setIfInBounds_toArray, List.set_cons_succ, List.set_cons_zero]
          refine factWalkG_skip (fun W hW hf => ?_) (fun x9 => ?_)
          · skip
            have e6 : x6 = .bool false := hf 6 (by omega) (by kernel_rfl)
            subst e6
            exact ⟨by kernel_rfl, fun _ _ => trivial, fun K hK => hK _ _ (Fr.refl _ _) rfl trivial⟩
          simp only [Act.put, List.setIfInBounds_toArray, List.set_cons_succ, List.set_cons_zero]
          refine factWalkG_skip (fun W hW hf => ?_) (fun x10 => ?_)
          · skip
            have e6 : x6 = .bool false := hf 6 (by omega) (by kernel_rfl)
            subst e6
            exact ⟨by kernel_rfl, fun _ _ => trivial, fun K hK => hK _ _ (Fr.refl _ _) rfl trivial⟩
          simp only [Act.put, List.setIfInBounds_toArray, List.set_cons_succ, List.set_cons_zero]
          refine factWalkG_skip (fun W hW hf => ?_) (fun x11 => ?_)
          · skip
            have e6 : x6 = .bool false := hf 6 (by omega) (by kernel_rfl)
            subst e6
            exact ⟨by kernel_rfl, fun _ _ => trivial, fun K hK => hK _ _ (Fr.refl _ _) rfl trivial⟩
          simp only [Act.put, List.setIfInBounds_toArray, List.set_cons_succ, List.set_cons_zero]
          refine factWalkG_skip (fun W hW hf => ?_) (fun x12 => ?_)
          · skip
            have e6 : x6 = .bool false := hf 6 (by omega) (by kernel_rfl)
            subst e6
            exact ⟨by kernel_rfl, fun _ _ => trivial, fun K hK => hK _ _ (Fr.refl _ _) rfl trivial⟩
          simp only [Act.put, List.setIfInBounds_toArray, List.set_cons_succ, List.set_cons_zero]
          refine factWalkG_skip (fun W hW hf => ?_) (fun x13 => ?_)
          · skip
            have e6 : x6 = .bool false := hf 6 (by omega) (by kernel_rfl)
            subst e6
            exact ⟨by kernel_rfl, fun _ _ => trivial, fun K hK => hK _ _ (Fr.refl _ _) rfl trivial⟩
          simp only [Act.put, List.setIfInBounds_toArray, List.set_cons_succ, List.set_cons_zero]
          refine factWalkG_skip (fun W hW hf => ?_) (fun x14 => ?_)
          · skip
            have e6 : x6 = .bool false := hf 6 (by omega) (by kernel_rfl)
            subst e6
            exact ⟨by kernel_rfl, fun _ _ => trivial, fun K hK => hK _ _ (Fr.refl _ _) rfl trivial⟩
          simp only [Act.put, List.setIfInBounds_toArray, List.set_cons_succ, List.set_cons_zero]
          refine factWalkG_skip (fun W hW hf => ?_) (fun x15 => ?_)
          · skip
            have e6 : x6 = .bool false := hf 6 (by omega) (by kernel_rfl)
            subst e6
            exact ⟨by kernel_rfl, fun _ _ => trivial, fun K hK => hK _ _ (Fr.refl _ _) rfl trivial⟩
          simp only [Act.put, List.setIfInBounds_toArray, List.set_cons_succ, List.set_cons_zero]
          refine factWalkG_skip (fun W hW hf => ?_) (fun x16 => ?_)
          · skip
            have e6 : x6 = .bool false := hf 6 (by omega) (by kernel_rfl)
            subst e6
            exact ⟨by kernel_rfl, fun _ _ => trivial, fun K hK => hK _ _ (Fr.refl _ _) rfl trivial⟩
          simp only [Act.put, List.setIfInBounds_toArray, List.set_cons_succ, List.set_cons_zero]
          refine factWalkG_cons (fun W hW hf K hK => ?_) (fun x17 => ?_)
          · skip
            have e3 : x3 = .bool false := hf 3 (by omega) (by kernel_rfl)
            have e6 : x6 = .bool false := hf 6 (by omega) (by kernel_rfl)
            have e16 : x16 = undef := hf 16 (by omega) (by kernel_rfl)
            subst e3 e6 e16
            refine ⟨by kernel_rfl, ?_⟩
            gi_step
            exact hK _ _ (Fr.refl _ _) rfl trivial
          simp only [Act.put, List.setIfInBounds_toArray, List.set_cons_succ, List.set_cons_zero]
          refine factWalkG_cons (fun W hW hf K hK => ?_) (fun x18 => ?_)
          · skip
            have e3 : x3 = .bool false := hf 3 (by omega) (by kernel_rfl)
            have e17 : x17 = .bool false := hf 17 (by omega) (by kernel_rfl)
            subst e3 e17
            refine ⟨by kernel_rfl, ?_⟩
            gi_step
            exact hK _ _ (Fr.refl _ _) rfl trivial
          simp only [Act.put, List.setIfInBounds_toArray, List.set_cons_succ, List.set_cons_zero]

          refine factWalkG_nil (fun W hW hf2 hmet => ?_)
          have f18 : x18 = .bool false := hf2 18 (by omega)
          subst f18
          have HFW := Lib.hid ((hf.out.trans HFT.out (fun _ _ h => h)).trans (HDR.out W hW) (fun _ _ h => h))
          clear hf2 hmet hW HDR
          change wpAnyIn _ _ _ _ _ _ 0 _ _ _
          refine wpAnyIn_done (by kernel_rfl) ?_ _
          have hno2 : Hid (∀ j, j < 0 + 1 → lk l j = true) := fun j hj => by
            obtain rfl : j = 0 := by omega
            unfold lk
            rw [List.getD_eq_getElem?_getD, List.getElem?_eq_getElem hil, HX.out]
            simp [HRR.out]
          clear HMC
          go_wp2_with fail
          refine ⟨⟨0 + 1, rfl, by omega, hno2, HFW.out⟩, by simp only [intOf]; omega⟩
        · as_aux_lemma =>
          obtain ⟨k, rfl⟩ : ∃ k, i = k + 1 := ⟨i - 1, by omega⟩
          have hkl : k < l.length := by omega
          obtain ⟨⟨gp, sp⟩, hxp⟩ : ∃ x : Nm, l[k] = x := ⟨_, rfl⟩
          have hcp : ∀ W, Fr (fun _ => False) W2 W → W.cell? ⟨b, off + k * 17, none⟩ = some (.int .u64 (gp : Nat)) := fun W hW => by
            have h1 := (HR.out.far ((hf.out.trans HFT.out (fun _ _ h => h)).trans hW (fun _ _ h => h))).cell (k := k * 17) (by omega)
            have h2 := rcs_at HL.out hkl (j := 0) (by omega)
            rw [h1]
            rw [Nat.add_zero] at h2
            rw [h2, hxp]
            rfl
          have hgb : 1 ≤ g ∧ g ≤ 4611686018427387903 := by
            have := HRR.out
            unfold mayG at this
            exact of_decide_eq_true this
          have hwk : IntKind.i64.wrap (((k + 1 : Nat) : Int) - 1) = (k : Nat) := by rw [IntWalk.i64_in _ (by omega)]; omega
          have hkn : ((k : Nat) : Int) < (n : Nat) := by omega
          have hwg : IntKind.u64.wrap ((g : Nat) + 1) = ((g + 1 : Nat) : Int) := by rw [IntWalk.u64_in _ (by omega)]; omega
          obtain ⟨d, hd⟩ : ∃ d : Bool, (((gp : Nat) : Int) != ((g : Nat) : Int) + 1) = !d := ⟨!(((gp : Nat) : Int) != ((g : Nat) : Int) + 1), by simp⟩
          have HCP := Lib.hid hcp
          have HWK := Lib.hid hwk
          have HKN := Lib.hid hkn
          have HWG := Lib.hid hwg
          have HDD := Lib.hid hd
          have HXP := Lib.hid hxp
          clear hcp hwk hkn hwg hd hxp
          refine (wpIn_wide (n := 9)).1 ?_
          refine wpIn_region_factsG (ms := [0, 1, 3, 7, 15, 31, 63, 127, 127, 383, 1023, 2047, 4095, 127, 8319, 24703, 65535, 131071, 262143]) (k := 19) (Fr (fun _ => False)) (chC B b off n c k g gp d a0 a1 a2 a3 a4 a5 a6 a7 a8 a9 a10 a11 a12 a13 a14 a15) (fun i v W => True) (by kernel_rfl) (by kernel_rfl) (Fr.refl _ _) (fun a b c h1 h2 => h1.trans h2 (fun _ _ h => h)) (fun i v w w' hg hx => chC_far hg hx) ?walkchC
          case walkchC =>
          have hdr : ∀ W, Fr (fun _ => False) W2.drew W → Fr (fun _ => False) W2 W := fun W h => ((Fr.refl (fun _ => False) W2).drew).trans h (fun _ _ h => h)
          have HDR := Lib.hid hdr
          clear hdr
          refine factWalkG_cons (fun W hW hf K hK => ?_) (fun x0 => ?_)
          · skip
            have bw := HST.out.fr (HDR.out W hW) (fun h => h)
            have q0 : W.cell? ⟨B, 0, none⟩ = some (.int .u64 (g : Nat)) := bw.cell 0
            have q1 : W.cell? ⟨B, 1, none⟩ = some (.int .u8 (a0.toNat : Nat)) := bw.cell 1
            have q2 : W.cell? ⟨B, 2, none⟩ = some (.int .u8 (a1.toNat : Nat)) := bw.cell 2
            have q3 : W.cell? ⟨B, 3, none⟩ = some (.int .u8 (a2.toNat : Nat)) := bw.cell 3
            have q4 : W.cell? ⟨B, 4, none⟩ = some (.int .u8 (a3.toNat : Nat)) := bw.cell 4
            have q5 : W.cell? ⟨B, 5, none⟩ = some (.int .u8 (a4.toNat : Nat)) := bw.cell 5
            have q6 : W.cell? ⟨B, 6, none⟩ = some (.int .u8 (a5.toNat : Nat)) := bw.cell 6
            have q7 : W.cell? ⟨B, 7, none⟩ = some (.int .u8 (a6.toNat : Nat)) := bw.cell 7
            have q8 : W.cell? ⟨B, 8, none⟩ = some (.int .u8 (a7.toNat : Nat)) := bw.cell 8
            have q9 : W.cell? ⟨B, 9, none⟩ = some (.int .u8 (a8.toNat : Nat)) := bw.cell 9
            have q10 : W.cell? ⟨B, 10, none⟩ = some (.int .u8 (a9.toNat : Nat)) := bw.cell 10
            have q11 : W.cell? ⟨B, 11, none⟩ = some (.int .u8 (a10.toNat : Nat)) := bw.cell 11
            have q12 : W.cell? ⟨B, 12, none⟩ = some (.int .u8 (a11.toNat : Nat)) := bw.cell 12
            have q13 : W.cell? ⟨B, 13, none⟩ = some (.int .u8 (a12.toNat : Nat)) := bw.cell 13
            have q14 : W.cell? ⟨B, 14, none⟩ = some (.int .u8 (a13.toNat : Nat)) := bw.cell 14
            have q15 : W.cell? ⟨B, 15, none⟩ = some (.int .u8 (a14.toNat : Nat)) := bw.cell 15
            have q16 : W.cell? ⟨B, 16, none⟩ = some (.int .u8 (a15.toNat : Nat)) := bw.cell 16
            refine ⟨by kernel_rfl, ?_⟩
            gi_step
            exact hK _ _ (Fr.refl _ _) rfl trivial
          simp only [Act.put, List.setIfInBounds_toArray, List.set_cons_succ, List.set_cons_zero]
          refine factWalkG_cons (fun W hW hf K hK => ?_) (fun x1 => ?_)
          · skip
            have e0 : x0 = .agg #[.int .u64 (g : Nat), .int .u8 (a0.toNat : Nat), .int .u8 (a1.toNat : Nat), .int .u8 (a2.toNat : Nat), .int .u8 (a3.toNat : Nat), .int .u8 (a4.toNat : Nat), .int .u8 (a5.toNat : Nat), .int .u8 (a6.toNat : Nat), .int .u8 (a7.toNat : Nat), .int .u8 (a8.toNat : Nat), .int .u8 (a9.toNat : Nat), .int .u8 (a10.toNat : Nat), .int .u8 (a11.toNat : Nat), .int .u8 (a12.toNat : Nat), .int .u8 (a13.toNat : Nat), .int .u8 (a14.toNat : Nat), .int .u8 (a15.toNat : Nat)] := hf 0 (by omega) (by kernel_rfl)
            subst e0
            have hw := HMC.out W
            refine ⟨by kernel_rfl, ?_⟩
            gi_step
            refine ⟨trivial, ?_⟩
            refine (callsIn_wide.2 (hw)).mono ?_
            rintro e W' ⟨rfl, f2⟩
            dsimp only
            exact hK _ _ f2 rfl trivial
          simp only [Act.put, List.setIfInBounds_toArray, List.set_cons_succ, List.set_cons_zero]
          refine factWalkG_cons (fun W hW hf K hK => ?_) (fun x2 => ?_)
          · skip
            have e1 : x1 = .bool true := hf 1 (by omega) (by kernel_rfl)
            subst e1
            refine ⟨by kernel_rfl, ?_⟩
            gi_step
            exact hK _ _ (Fr.refl _ _) rfl trivial
          simp only [Act.put, List.setIfInBounds_toArray, List.set_cons_succ, List.set_cons_zero]
          refine factWalkG_cons (fun W hW hf K hK => ?_) (fun x3 => ?_)
          · skip
            have e2 : x2 = .bool false := hf 2 (by omega) (by kernel_rfl)
            subst e2
            refine ⟨by kernel_rfl, ?_⟩
            gi_step
            exact hK _ _ (Fr.refl _ _) rfl trivial
          simp only [Act.put, List.setIfInBounds_toArray, List.set_cons_succ, List.set_cons_zero]
          refine factWalkG_cons (fun W hW hf K hK => ?_) (fun x4 => ?_)
          · skip
            have e3 : x3 = .bool false := hf 3 (by omega) (by kernel_rfl)
            subst e3
            refine ⟨by kernel_rfl, ?_⟩
            gi_step
            exact hK _ _ (Fr.refl _ _) rfl trivial
          simp only [Act.put, List.setIfInBounds_toArray, List.set_cons_succ, List.set_cons_zero]
          refine factWalkG_cons (fun W hW hf K hK => ?_) (fun x5 => ?_)
          · skip
            have e3 : x3 = .bool false := hf 3 (by omega) (by kernel_rfl)
            have e4 : x4 = .int .i64 ((k + 1 : Nat) : Int) := hf 4 (by omega) (by kernel_rfl)
            subst e3 e4
            have hgt : decide ((0 : Int) < ((k + 1 : Nat) : Int)) = true := decide_eq_true (by omega)
            refine ⟨by kernel_rfl, ?_⟩
            gi_step
            exact hK _ _ (Fr.refl _ _) rfl trivial
          simp only [Act.put, List.setIfInBounds_toArray, List.set_cons_succ, List.set_cons_zero]
          refine factWalkG_cons (fun W hW hf K hK => ?_) (fun x6 => ?_)
          · skip
            have e3 : x3 = .bool false := hf 3 (by omega) (by kernel_rfl)
            have e5 : x5 = .bool true := hf 5 (by omega) (by kernel_rfl)
            subst e3 e5
            refine ⟨by kernel_rfl, ?_⟩
            gi_step
            exact hK _ _ (Fr.refl _ _) rfl trivial
          simp only [Act.put, List.setIfInBounds_toArray, List.set_cons_succ, List.set_cons_zero]
          refine factWalkG_cons (fun W hW hf K hK => ?_) (fun x7 => ?_)
          · skip
            have e6 : x6 = .bool true := hf 6 (by omega) (by kernel_rfl)
            subst e6
            refine ⟨by kernel_rfl, ?_⟩
            gi_step
            exact hK _ _ (Fr.refl _ _) rfl trivial
          simp only [Act.put, List.setIfInBounds_toArray, List.set_cons_succ, List.set_cons_zero]
          refine factWalkG_cons (fun W hW hf K hK => ?_) (fun x8 => ?_)
          · skip
            have e6 : x6 = .bool true := hf 6 (by omega) (by kernel_rfl)
            subst e6
            refine ⟨by kernel_rfl, ?_⟩
            gi_step
            exact hK _ _ (Fr.refl _ _) rfl trivial
          simp only [Act.put, List.setIfInBounds_toArray, List.set_cons_succ, List.set_cons_zero]
          refine factWalkG_cons (fun W hW hf K hK => ?_) (fun x9 => ?_)
          · skip
            have e6 : x6 = .bool true := hf 6 (by omega) (by kernel_rfl)
            have e8 : x8 = .int .i64 ((k + 1 : Nat) : Int) := hf 8 (by omega) (by kernel_rfl)
            subst e6 e8
            have hsb := HWK.out
            have hsb2 : ((k + 1 : Nat) : Int) - 1 = (k : Nat) := by omega
            refine ⟨by kernel_rfl, ?_⟩
            gi_step
            exact hK _ _ (Fr.refl _ _) rfl trivial
          simp only [Act.put, List.setIfInBounds_toArray, List.set_cons_succ, List.set_cons_zero]
          refine factWalkG_cons (fun W hW hf K hK => ?_) (fun x10 => ?_)
          · skip
            have e6 : x6 = .bool true := hf 6 (by omega) (by kernel_rfl)
            have e7 : x7 = .slice (some ⟨b, off, none⟩) n c := hf 7 (by omega) (by kernel_rfl)
            have e9 : x9 = .int .i64 (k : Nat) := hf 9 (by omega) (by kernel_rfl)
            subst e6 e7 e9
            have hk0 : (0 : Int) ≤ (k : Nat) := by omega
            have hk1 : ((k : Nat) : Int) < (n : Nat) := HKN.out
            refine ⟨by kernel_rfl, ?_⟩
            gi_step
            exact hK _ _ (Fr.refl _ _) rfl trivial
          simp only [Act.put, List.setIfInBounds_toArray, List.set_cons_succ, List.set_cons_zero]
          refine factWalkG_cons (fun W hW hf K hK => ?_) (fun x11 => ?_)
          · skip
            have e6 : x6 = .bool true := hf 6 (by omega) (by kernel_rfl)
            have e10 : x10 = .pointer (some ⟨b, off + k * 17, none⟩) := hf 10 (by omega) (by kernel_rfl)
            subst e6 e10
            refine ⟨by kernel_rfl, ?_⟩
            gi_step
            exact hK _ _ (Fr.refl _ _) rfl trivial
          simp only [Act.put, List.setIfInBounds_toArray, List.set_cons_succ, List.set_cons_zero]
          refine factWalkG_cons (fun W hW hf K hK => ?_) (fun x12 => ?_)
          · skip
            have e6 : x6 = .bool true := hf 6 (by omega) (by kernel_rfl)
            have e11 : x11 = .pointer (some ⟨b, off + k * 17, none⟩) := hf 11 (by omega) (by kernel_rfl)
            subst e6 e11
            have hc := HCP.out W (HDR.out W hW)
            refine ⟨by kernel_rfl, ?_⟩
            gi_step
            exact hK _ _ (Fr.refl _ _) rfl trivial
          simp only [Act.put, List.setIfInBounds_toArray, List.set_cons_succ, List.set_cons_zero]
          refine factWalkG_cons (fun W hW hf K hK => ?_) (fun x13 => ?_)
          · skip
            have e6 : x6 = .bool true := hf 6 (by omega) (by kernel_rfl)
            subst e6
            refine ⟨by kernel_rfl, ?_⟩
            gi_step
            exact hK _ _ (Fr.refl _ _) rfl trivial
          simp only [Act.put, List.setIfInBounds_toArray, List.set_cons_succ, List.set_cons_zero]
          refine factWalkG_cons (fun W hW hf K hK => ?_) (fun x14 => ?_)
          · skip
            have e6 : x6 = .bool true := hf 6 (by omega) (by kernel_rfl)
            have e13 : x13 = .pointer (some ⟨B, 0, none⟩) := hf 13 (by omega) (by kernel_rfl)
            subst e6 e13
            have bw := HST.out.fr (HDR.out W hW) (fun h => h)
            have q0 : W.cell? ⟨B, 0, none⟩ = some (.int .u64 (g : Nat)) := bw.cell 0
            refine ⟨by kernel_rfl, ?_⟩
            gi_step
            exact hK _ _ (Fr.refl _ _) rfl trivial
          simp only [Act.put, List.setIfInBounds_toArray, List.set_cons_succ, List.set_cons_zero]
          refine factWalkG_cons (fun W hW hf K hK => ?_) (fun x15 => ?_)
          · skip
            have e6 : x6 = .bool true := hf 6 (by omega) (by kernel_rfl)
            have e14 : x14 = .int .u64 (g : Nat) := hf 14 (by omega) (by kernel_rfl)
            subst e6 e14
            have hwg := HWG.out
            refine ⟨by kernel_rfl, ?_⟩
            gi_step
            exact hK _ _ (Fr.refl _ _) rfl trivial
          simp only [Act.put, List.setIfInBounds_toArray, List.set_cons_succ, List.set_cons_zero]
          refine factWalkG_cons (fun W hW hf K hK => ?_) (fun x16 => ?_)
          · skip
            have e6 : x6 = .bool true := hf 6 (by omega) (by kernel_rfl)
            have e12 : x12 = .int .u64 (gp : Nat) := hf 12 (by omega) (by kernel_rfl)
            have e15 : x15 = .int .u64 ((g + 1 : Nat) : Int) := hf 15 (by omega) (by kernel_rfl)
            subst e6 e12 e15
            refine ⟨by kernel_rfl, ?_⟩
            gi_step
            rw [HDD.out]
            exact hK _ _ (Fr.refl _ _) rfl trivial
          simp only [Act.put, List.setIfInBounds_toArray, List.set_cons_succ, List.set_cons_zero]
          refine factWalkG_cons (fun W hW hf K hK => ?_) (fun x17 => ?_)
          · skip
            have e3 : x3 = .bool false := hf 3 (by omega) (by kernel_rfl)
            have e6 : x6 = .bool true := hf 6 (by omega) (by kernel_rfl)
            have e16 : x16 = .bool (!d) := hf 16 (by omega) (by kernel_rfl)
            subst e3 e6 e16
            refine ⟨by kernel_rfl, ?_⟩
            gi_step
            exact hK _ _ (Fr.refl _ _) rfl trivial
          simp only [Act.put, List.setIfInBounds_toArray, List.set_cons_succ, List.set_cons_zero]
          refine factWalkG_cons (fun W hW hf K hK => ?_) (fun x18 => ?_)
          · skip
            have e3 : x3 = .bool false := hf 3 (by omega) (by kernel_rfl)
            have e17 : x17 = .bool (!d) := hf 17 (by omega) (by kernel_rfl)
            subst e3 e17
            refine ⟨by kernel_rfl, ?_⟩
            gi_step
            exact hK _ _ (Fr.refl _ _) rfl trivial
          simp only [Act.put, List.setIfInBounds_toArray, List.set_cons_succ, List.set_cons_zero]

          refine factWalkG_nil (fun W hW hf2 hmet => ?_)
          have f18 : x18 = .bool (!d) := hf2 18 (by omega)
          subst f18
          have HFW := Lib.hid ((hf.out.trans HFT.out (fun _ _ h => h)).trans (HDR.out W hW) (fun _ _ h => h))
          clear hf2 hmet hW HDR
          change wpAnyIn _ _ _ _ _ _ 0 _ _ _
          refine wpAnyIn_done (by kernel_rfl) ?_ _
          have hlk : lk l (k + 1) = d := by
            unfold lk
            rw [List.getD_eq_getElem?_getD, List.getElem?_eq_getElem hil, HX.out, List.getD_eq_getElem?_getD, show k + 1 - 1 = k by omega, List.getElem?_eq_getElem hkl, HXP.out]
            simp only [Option.getD_some, HRR.out, Bool.true_and]
            rw [show decide (k + 1 = 0) = false by simp, Bool.false_or]
            have h1 := HDD.out
            cases d with
            | true =>
              simp only [Bool.not_true, bne_eq_false_iff_eq] at h1
              exact decide_eq_true (by omega)
            | false =>
              simp only [Bool.not_false, bne_iff_ne, ne_eq] at h1
              exact decide_eq_false (by omega)
          clear HMC HCP HWG HWK
          cases d with
          | true =>
            have hno2 : Hid (∀ j, j < k + 1 + 1 → lk l j = true) := fun j hj => by
              rcases Nat.lt_or_ge j (k + 1) with h | h
              · exact hno.out j h
              · obtain rfl : j = k + 1 := by omega
                exact hlk
            clear hlk
            go_wp2_with fail
            refine ⟨⟨k + 1 + 1, rfl, by omega, hno2, HFW.out⟩, by simp only [intOf]; omega⟩
          | false =>
            have hch := chL_false hil hlk
            clear hlk
            go_wp2_with fail
            go_ret
            exact ⟨by rw [hch]; rfl, HFW.out⟩
    · obtain rfl : i = n := by omega
      have hdl : decide ((i : Int) < (i : Int)) = false := decide_eq_false (by omega)
      have hall := chL_true (l := l) (fun j hj => hno.out j (by rw [← HN.out]; exact hj))
      rw [HN.out] at hall
      have HALL := Lib.hid hall
      clear hall
      by_cases h1 : (1 : Int) ≤ (i : Int)
      · have hd1 : decide ((1 : Int) ≤ (i : Int)) = true := decide_eq_true h1
        go_wp2_with fail
        go_ret
        refine ⟨?_, hf.out⟩
        rw [HALL.out, decide_eq_true (show 1 ≤ i by omega), Bool.true_and]
        have e16 : decide ((i : Int) ≤ 16) = decide (i ≤ 16) := by congr 1; apply propext; omega
        show Ending.returned (.bool (decide ((i : Int) ≤ 16))) = _
        rw [e16]
      · have hd1 : decide ((1 : Int) ≤ (i : Int)) = false := decide_eq_false h1
        go_wp2_with fail
        go_ret
        refine ⟨?_, hf.out⟩
        rw [HALL.out, decide_eq_false (show ¬ 1 ≤ i by omega), Bool.false_and]
        rfl
end Go.Proofs.YtjaocgmicdnghaaGreatDoor
