/-
  CONTRACTS: bytes.Equal; frame's number, chained, after, Put.
-/
import Derived.Test.YtmaajihpkollcaaDoorFr3
import Derived.Laws.BytesString
import Derived.Laws.BytesArg
import Derived.Lib.QuoteBits
import Derived.Deep.RegionHeld3
namespace Go.Proofs.YtmaajihpkollcaaDoor
set_option linter.unusedSimpArgs false
set_option linter.unusedVariables false
open Go Go.RowKit

def strOf (l : List UInt8) : ByteArray := ⟨l.toArray⟩
theorem conv_str (w : World) (A : Option Addr) (n c : Nat) (l : List UInt8) (h : Rd w A n (bv l)) : (convert 25 9 (.slice A n c)).run Tryd.prog w = .ok (.string (strOf l)) w := by
  rw [run_convert_bytes_string w 25 9 5 A n c Tryd.underlying25 Tryd.underlying5 Tryd.underlying9]
  have hl : l.length = n := by rw [← h.1, bv_length]
  have hbv : bv l = (l.map fun b => (b.toNat : Int)).map (Value.int .u8) := by simp [bv]
  cases A with
  | none =>
    have hn : n = 0 := by
      rcases Nat.eq_zero_or_pos n with h0 | h0
      · exact h0
      · obtain ⟨ad, he, _⟩ := h.2 h0
        cases he
    subst hn
    obtain rfl : l = [] := List.eq_nil_of_length_eq_zero hl
    rfl
  | some ad =>
    have hload : (loadCells ad n).run Tryd.prog w = .ok ((l.map fun b => (b.toNat : Int)).map (Value.int .u8)).toArray w := by
      have := run_loadCells_list (P := Tryd.prog) w ad ((l.map fun b => (b.toNat : Int)).map (Value.int .u8)) (fun j u hj => by
        rw [← hbv] at hj
        have hjl : 0 < n := by
          rcases Nat.eq_zero_or_pos n with h0 | h0
          · subst h0
            obtain rfl : l = [] := List.eq_nil_of_length_eq_zero hl
            simp [bv] at hj
          · exact h0
        obtain ⟨ad', he, hc⟩ := h.2 hjl
        injection he with he
        subst he
        exact hc j u hj)
      simpa [hl] using this
    rw [run_bytesToString w ad n c _ hload, foldl_push_bytes]
    congr 1
    have e : l.map ((fun n : Int => UInt8.ofNat n.toNat) ∘ fun b : UInt8 => (b.toNat : Int)) = l := by
      conv => rhs; rw [← List.map_id l]
      apply List.map_congr_left
      intro b _
      simp
    simp [strOf, ByteArray.empty, ByteArray.emptyWithCapacity]
    exact e


theorem bbeq (Y : ByteArray) : (Y == Y) = true := by
  cases Y with | mk d => show ByteArray.beq _ _ = true; simp [ByteArray.beq]
theorem strOf_toList (l : List UInt8) : (strOf l).toList = l := by simp [strOf]
theorem beq_str (l m : List UInt8) : ((strOf l).toList == (strOf m).toList) = decide (l = m) := by
  rw [strOf_toList, strOf_toList]
  by_cases h : l = m
  · subst h; simp
  · simp [h]
theorem i64_join (a c : Nat) (ha : a < 4294967296) (hc : c < 256) : bits .or .i64 ((a : Int) * 256) (c : Int) = ((a * 256 + c : Nat) : Int) := by
  rw [show ((a : Int) * 256) = ((a * 256 : Nat) : Int) from by omega]
  show IntKind.i64.wrap ((BitVec.ofInt 64 ((a * 256 : Nat) : Int) ||| BitVec.ofInt 64 (c : Int)).toNat : Int) = _
  rw [BitVec.toNat_or, ofInt_u64 (a * 256) (by omega), ofInt_u64 c (by omega), nat_join 8 (a * 256) c (by omega) (by omega)]
  exact Lib.wrap_i64_small _ (by omega)
theorem num_four (l : List UInt8) (k : Nat) (h : l.length ≤ 4) (hk : k < l.length) : num (l.take k) < 16777216 := by
  have := num_lt (l.take k)
  rw [List.length_take, Nat.min_eq_left (by omega)] at this
  have h2 : 256 ^ k ≤ 256 ^ 3 := Nat.pow_le_pow_right (by omega) (by omega)
  omega

set_option maxHeartbeats 1000000 in
theorem equal_c (w : World) (A B : Option Addr) (n m c d : Nat) (l k : List UInt8) (ha : Rd w A n (bv l)) (hb : Rd w B m (bv k)) :
    Calls Tryd.prog 29 #[.slice A n c, .slice B m d] w fun e w' => e = .returned (.bool (decide (l = k))) ∧ w = w' := by
  have ca := conv_str w A n c l ha
  have cb := conv_str w B m d k hb
  have hq := beq_str l k
  have HQ := Lib.hid hq
  clear hq ha hb
  generalize strOf l = S at *
  generalize strOf k = T at *
  go_enter Tryd.func29, Tryd.ntmps29
  go_wp2_with fail
  go_ret
  exact ⟨by rw [← HQ.out]; rfl, rfl⟩

set_option maxHeartbeats 1000000 in
theorem number_c (w : World) (A : Option Addr) (n c : Nat) (l : List UInt8) (hr : Rd w A n (bv l)) (hn : n ≤ 4) :
    Calls Tryd.prog 28 #[.slice A n c] w fun e w' => e = .returned (.int .i64 (num l : Int)) ∧ w = w' := by
  have hl : l.length = n := by rw [← hr.1, bv_length]
  have HR := Lib.hid hr
  have HL := Lib.hid hl
  clear hr hl
  go_enter Tryd.func28, Tryd.ntmps28
  go_wp2_with fail
  go_loop [2, 7] (fun sv iv => ∃ (k s : Nat), k ≤ n ∧ iv = .int .i64 k ∧ sv = .int .i64 (s : Int) ∧ Hid (s = num (l.take k))) (fun _ iv => n - (intOf iv).toNat)
  case atStart => exact ⟨0, 0, Nat.zero_le _, rfl, rfl, rfl⟩
  case round =>
    obtain ⟨k, s, hk, rfl, rfl, hs⟩ := hrel
    by_cases hlt : k < n
    · obtain ⟨bb, off, rfl, -⟩ := HR.out.lit (by omega)
      have c0 := HR.out.cell (k := k) hlt
      rw [bv_get _ _ (by rw [HL.out]; exact hlt)] at c0
      have hx := (l[k]'(by rw [HL.out]; exact hlt)).toNat_lt
      have hsn : Hid (s * 256 + (l[k]'(by rw [HL.out]; exact hlt)).toNat = num (l.take (k + 1))) := by
        show _ = _
        rw [List.take_succ_eq_append_getElem (by rw [HL.out]; exact hlt), num_snoc, ← hs.out]
      have hs2 : s < 16777216 := by rw [hs.out]; exact num_four l k (by rw [HL.out]; exact hn) (by rw [HL.out]; exact hlt)
      generalize (l[k]'(by rw [HL.out]; exact hlt)).toNat = x at *
      have hj := i64_join s x (by omega) (by omega)
      go_wp2_with fail
      exact ⟨⟨k + 1, s * 256 + x, hlt, by go_num, rfl, hsn.out⟩, by simp [intOf]; omega⟩
    · obtain rfl : k = n := by omega
      have he : Hid (s = num l) := by show _ = _; rw [hs.out, List.take_of_length_le (by rw [HL.out]; exact Nat.le_refl _)]
      go_wp2_with fail
      go_ret
      exact ⟨by rw [← he.out]; rfl, rfl⟩

/-- A Tail, as a value. -/
def tailV (c z s : Int) : Value := .agg #[.int .i64 c, .int .i64 z, .int .u32 s]

theorem Nb.far {w w' : World} (h : Nb w) (hf : Fr (fun _ => False) w w') : Nb w' := fun i hi => by
  have h1 := h i hi
  rw [hf.cell (World.block_lt_of_cell? w _ h1) (fun h => h)]
  exact h1
theorem Nb.fr {w w' : World} {fp : Nat → Prop} (h : Nb w) (hf : Fr fp w w') (h0 : ¬ fp 0) : Nb w' := fun i hi => by
  have h1 := h i hi
  rw [hf.cell (World.block_lt_of_cell? w _ h1) h0]
  exact h1
theorem Nb.lt {w : World} (h : Nb w) : 0 < w.heap.size := World.block_lt_of_cell? w _ (h 0 (by omega))

/-- Three rows in a new row of rows. -/
theorem rdB3 (W : World) (t : TypeId) (A B C : Option Addr) (c d e : Nat) (l m k : List UInt8) (ha : Rd W A l.length (bv l)) (hb : Rd W B m.length (bv m)) (hc : Rd W C k.length (bv k)) (h1 : l.length ≤ c) (h2 : m.length ≤ d) (h3 : k.length ≤ e) (g1 : c ≤ maxLen) (g2 : d ≤ maxLen) (g3 : e ≤ maxLen) :
    RdB (W.alloc (.cells #[.slice A l.length c, .slice B m.length d, .slice C k.length e] t)) (some ⟨W.heap.size, 0, none⟩) 3 [l, m, k] := by
  have hn := Blk.new W t #[.slice A l.length c, .slice B m.length d, .slice C k.length e]
  refine ⟨rfl, fun _ => ⟨_, 0, rfl, fun i hi => ?_⟩⟩
  have : i = 0 ∨ i = 1 ∨ i = 2 := by simp at hi; omega
  rcases this with rfl | rfl | rfl
  · exact ⟨A, c, hn.cell 0, ha.alloc _, h1, g1⟩
  · exact ⟨B, d, hn.cell 1, hb.alloc _, h2, g2⟩
  · exact ⟨C, e, hn.cell 2, hc.alloc _, h3, g3⟩

set_option maxRecDepth 100000 in
set_option maxHeartbeats 2000000 in
theorem chained_c (w : World) (cn sz : Int) (s : Nat) (hs : s < 4294967296) (A B : Option Addr) (n m c d : Nat) (l p : List UInt8) (hA : Rd w A n (bv l)) (hB : Rd w B m (bv p)) (hc : n ≤ c) (hd : m ≤ d) (hc2 : c ≤ maxLen) (hd2 : d ≤ maxLen) (hN : Nb w) :
    Calls Tryd.prog 24 #[tailV cn sz s, .slice A n c, .slice B m d] w fun e w' => e = .returned (.int .u32 (check (le 4 s ++ l ++ p) : Int)) ∧ Fr (fun _ => False) w w' := by
  have hl : l.length = n := by rw [← hA.1, bv_length]
  have hp : p.length = m := by rw [← hB.1, bv_length]
  have HA := Lib.hid hA
  have HB := Lib.hid hB
  have HL := Lib.hid hl
  have HP := Lib.hid hp
  have HN := Lib.hid hN
  have HC2 := Lib.hid hc2
  have HD2 := Lib.hid hd2
  have h0 := hN.lt
  unfold tailV
  clear hA hB hl hp hN hc2 hd2
  go_enter Tryd.func24, Tryd.ntmps24
  go_wp2_with fail
  refine (first_c _ s _ rfl hs).mono ?_
  rintro e w1 ⟨rfl, rfl⟩
  go_wp2_with fail
  have hb4 := be4 s
  have HB4 : Hid (Blk (w.alloc (.cells #[.int .i64 cn, .int .i64 sz, .int .u32 (s : Int)] 30) |>.alloc (.cells (bv (be 4 s)).toArray 5)) (w.heap.size + 1) 5 #[.int .u8 ((s / 16777216 % 256 : Nat) : Int), .int .u8 ((s / 65536 % 256 : Nat) : Int), .int .u8 ((s / 256 % 256 : Nat) : Int), .int .u8 ((s % 256 : Nat) : Int)]) := by
    have := Blk.new (w.alloc (.cells #[.int .i64 cn, .int .i64 sz, .int .u32 (s : Int)] 30)) 5 (bv (be 4 s)).toArray
    rw [hb4] at this ⊢
    rw [World.size_alloc] at this
    exact this
  have F1 : Hid (Fr (fun _ => False) w (w.alloc (.cells #[.int .i64 cn, .int .i64 sz, .int .u32 (s : Int)] 30) |>.alloc (.cells (bv (be 4 s)).toArray 5))) := ((Fr.refl _ w).alloc _).alloc _
  generalize (w.alloc (.cells #[.int .i64 cn, .int .i64 sz, .int .u32 (s : Int)] 30) |>.alloc (.cells (bv (be 4 s)).toArray 5)) = w1 at *
  clear hb4
  go_wp2_with fail
  refine (reverse_c _ (w.heap.size + 1) _ _ _ _ HB4.out).mono ?_
  rintro e w2 ⟨rfl, h2, f2⟩
  have hb2 : Blk w2 (w.heap.size + 1) 5 (bv (le 4 s)).toArray := by rw [le4]; exact h2
  have H2 := Lib.hid hb2
  have F2 : Hid (Fr (fun _ => False) w w2) := F1.out.trans f2 (fun i hi e => by omega)
  clear h2 f2 hb2
  go_wp2_with fail
  have hrl : Rd w2 (some ⟨w.heap.size + 1, 0, none⟩) (le 4 s).length (bv (le 4 s)) := by
    have := Rd.of_blk (n := 4) H2.out (by simp [bv_length, le_length])
    rw [le_length]
    simpa [List.take_of_length_le, bv_length, le_length] using this
  have ra := HA.out.far F2.out
  have rb := HB.out.far F2.out
  obtain rfl := HL.out
  obtain rfl := HP.out
  have R3 := Lib.hid (rdB3 w2 25 _ _ _ 4 c d (le 4 s) l p hrl ra rb (by rw [le_length]; omega) hc hd (by unfold maxLen; omega) HC2.out HD2.out)
  have e4 : (le 4 s).length = 4 := le_length 4 s
  rw [e4] at R3
  have F3 := Lib.hid (F2.out.alloc (.cells #[.slice (some ⟨w.heap.size + 1, 0, none⟩) 4 4, .slice A l.length c, .slice B p.length d] 25))
  have N3 := Lib.hid (HN.out.far F3.out)
  clear hrl ra rb e4
  refine (check_c _ _ 3 3 _ R3.out N3.out (by omega)).mono ?_
  rintro e w3 ⟨rfl, rfl⟩
  have hfl : [le 4 s, l, p].flatten = le 4 s ++ l ++ p := by simp
  rw [hfl]
  go_wp2_with fail
  go_ret
  exact ⟨rfl, F3.out⟩
end Go.Proofs.YtmaajihpkollcaaDoor
