/-
  CONTRACT of digest's words.
-/
import Derived.Test.YtjaocgmicdnghaaGreatDoorStir
import Derived.Laws.Rows
import Derived.Deep.MidRow
import Derived.Test.YtjaocgmicdnghaaGreatDoorApp
namespace Go.Proofs.YtjaocgmicdnghaaGreatDoor
set_option linter.unusedSimpArgs false
set_option linter.unusedVariables false
open Go Go.RowKit

/-- A word's upper t bytes. -/
def hw (b : List UInt8) (i : Nat) : Nat → Nat
  | 0 => 0
  | t + 1 => hw b i t * 256 + (b[4 * i + (3 - t)]?.getD 0).toNat
theorem hw_lt (b : List UInt8) (i : Nat) : ∀ t, hw b i t < 256 ^ t
  | 0 => by simp [hw]
  | t + 1 => by
    have h1 := hw_lt b i t
    have h2 := (b[4 * i + (3 - t)]?.getD 0).toNat_lt
    rw [hw, Nat.pow_succ]
    omega
theorem hw_wd (b : List UInt8) (i : Nat) : hw b i 4 = wd b i := by
  simp only [hw, wd, Nat.sub_self, Nat.sub_zero, Nat.reduceSub, Nat.add_zero]
  omega
/-- The first i words, noughts behind. -/
def wp (b : List UInt8) (i : Nat) : List Nat := (List.range 16).map fun j => if j < i then wd b j else 0
theorem wp_len (b : List UInt8) (i : Nat) : (wp b i).length = 16 := by simp [wp]
theorem wp_zero (b : List UInt8) : wp b 0 = List.replicate 16 0 := rfl
theorem wp_all (b : List UInt8) : wp b 16 = wds b := by
  unfold wp wds
  apply List.map_congr_left
  intro j hj
  rw [if_pos (List.mem_range.1 hj)]
theorem wp_step (b : List UInt8) (i : Nat) (hi : i < 16) : (wp b i).set i (wd b i) = wp b (i + 1) := by
  apply List.ext_getElem
  · simp [wp]
  · intro j h1 h2
    rw [List.getElem_set]
    simp only [wp, List.getElem_map, List.getElem_range]
    by_cases h : i = j
    · subst h; rw [if_pos rfl, if_pos (by omega)]
    · rw [if_neg h]
      by_cases h3 : j < i
      · rw [if_pos h3, if_pos (by omega)]
      · rw [if_neg h3, if_neg (by omega)]
theorem wp_at (b : List UInt8) (i : Nat) (hi : i < 16) : (wp b i).set i 0 = wp b i := by
  apply List.ext_getElem
  · simp [wp]
  · intro j h1 h2
    rw [List.getElem_set]
    simp only [wp, List.getElem_map, List.getElem_range]
    by_cases h : i = j
    · subst h; rw [if_pos rfl, if_neg (by omega)]
    · rw [if_neg h]
theorem or_byte (x c : Nat) (hx : x < 16777216) (hc : c < 256) : bits .or .u32 ((x : Int) * 256 % 4294967296) (c : Int) = ((x * 256 + c : Nat) : Int) := by
  have h1 : (x : Int) * 256 % 4294967296 = ((x * 256 : Nat) : Int) := by omega
  rw [h1, u32_or_nat _ _ (by omega) (by omega)]
  congr 1
  have := Nat.two_pow_add_eq_or_of_lt (i := 8) hc x
  rw [show (2 : Nat) ^ 8 = 256 from rfl, Nat.mul_comm] at this
  exact this.symm
theorem at_set (V : List Nat) (i x : Nat) (h : i < V.length) : at_ (V.set i x) i = x := by
  simp [at_, h]
theorem set_set (V : List Nat) (i x y : Nat) : (V.set i x).set i y = V.set i y := by simp

theorem or_byte2 (x c : Nat) (hx : x < 16777216) (hc : c < 256) : bits .or .u32 ((x : Int) * 256) (c : Int) = ((x * 256 + c : Nat) : Int) := by
  rw [← or_byte x c hx hc]
  congr 1
  omega
theorem Fr.setCells {fp : Nat → Prop} {a : World} {g : Nat} (hg : g < a.heap.size → fp g) : ∀ (vs : List Value) (o : Nat) (w : World), Fr fp a w → Fr fp a (w.setCells g o vs)
  | [], _, _, h => h
  | v :: r, o, w, h => Fr.setCells hg r (o + 1) _ (h.setCell (p := ⟨g, o, none⟩) hg v)
theorem Blk.setAll {w : World} {g : Nat} {t : TypeId} {cs ds : Array Value} (h : Blk w g t cs) (hl : ds.size = cs.size) : Blk (w.setCells g 0 ds.toList) g t ds := by
  obtain ⟨c, h1, h2⟩ := heap_setCells g ds.toList 0 w cs t (0, 0) h (by simp; omega)
  have e : c = ds := by
    apply Array.toList_inj.1
    rw [h2]
    simp
    omega
  rw [e] at h1
  exact h1
theorem Blk.there {w : World} {g : Nat} {t : TypeId} {cs : Array Value} (h : Blk w g t cs) : w.there g 0 cs.size := fun j hj => by
  rw [Nat.zero_add]
  exact ⟨by rw [h.cell j, Array.getElem?_eq_getElem hj]; rfl, h.frozen j⟩
theorem uv_one (V : List Nat) : (uv V).all (·.oneCell') = true := by
  unfold uv
  exact all_oneCell_toArray (fun v hv => by obtain ⟨x, -, rfl⟩ := List.mem_map.1 hv; rfl)

set_option maxRecDepth 100000 in
set_option maxHeartbeats 2000000 in
theorem words_c (w : World) (A : Option Addr) (c : Nat) (b : List UInt8) (hA : Rd w A 64 (bv b)) :
    Calls Tryz.prog 91 #[.slice A 64 c] w fun e w' => e = .returned (.agg (uv (wds b))) ∧ Fr (fun _ => False) w w' := by
  have HA := Lib.hid hA
  have hbl : b.length = 64 := by rw [← bv_length]; exact hA.1
  have HBL := Lib.hid hbl
  clear hA hbl
  go_enter Tryz.func91, Tryz.ntmps91
  go_wp2_with fail
  have B0 : Hid (Blk (w.alloc (.cells #[.int .u32 0, .int .u32 0, .int .u32 0, .int .u32 0, .int .u32 0, .int .u32 0, .int .u32 0, .int .u32 0, .int .u32 0, .int .u32 0, .int .u32 0, .int .u32 0, .int .u32 0, .int .u32 0, .int .u32 0, .int .u32 0] 111)) w.heap.size 111 (uv (wp b 0))) := Blk.new w _ _
  have F0 := Lib.hid ((Fr.refl (fun _ => False) w).alloc (.cells #[.int .u32 0, .int .u32 0, .int .u32 0, .int .u32 0, .int .u32 0, .int .u32 0, .int .u32 0, .int .u32 0, .int .u32 0, .int .u32 0, .int .u32 0, .int .u32 0, .int .u32 0, .int .u32 0, .int .u32 0, .int .u32 0] 111))
  go_loopw [5] (fun iv wr => ∃ i : Nat, i ≤ 16 ∧ iv = .int .i64 i ∧ Hid (Blk wr w.heap.size 111 (uv (wp b i))) ∧ Hid (Fr (fun _ => False) w wr)) (fun iv _ => 16 - (intOf iv).toNat)
  case atStart => exact ⟨0, Nat.zero_le _, rfl, B0.out, F0.out⟩
  case round =>
    obtain ⟨i, hi, rfl, hb, hf⟩ := hrel
    obtain ⟨wo, rfl⟩ : ∃ wo : World, wo = wr := ⟨_, rfl⟩
    by_cases hlt : i < 16
    · have hdl : decide ((i : Int) < 16) = true := decide_eq_true (by omega)
      go_wp2_with fail
      clear hdl
      go_loopw [4] (fun kv wq => ∃ t : Nat, t ≤ 4 ∧ kv = .int .i64 (3 - (t : Int)) ∧ Hid (Blk wq w.heap.size 111 (uv ((wp b i).set i (hw b i t)))) ∧ Hid (Fr (fun _ => False) w wq)) (fun kv _ => (intOf kv + 1).toNat)
      case atStart => exact ⟨0, by omega, rfl, by rw [show hw b i 0 = 0 from rfl, wp_at b i hlt]; exact hb.out, hf.out⟩
      case round =>
        obtain ⟨t, ht, rfl, hb2, hf2⟩ := hrel
        by_cases ht4 : t < 4
        · obtain ⟨k, hk⟩ : ∃ k, k = 3 - t := ⟨_, rfl⟩
          have hkt : (3 : Int) - (t : Int) = (k : Int) := by omega
          rw [hkt]
          have hk3 : k ≤ 3 := by omega
          have hk0 : (0 : Int) ≤ (k : Int) := by omega
          have r := HA.out.far hf2.out
          obtain ⟨g, o, rfl, -⟩ := r.lit (by omega)
          have x2 := r.cell (k := 4 * i + k) (by omega)
          rw [bv_get _ _ (by rw [HBL.out]; omega)] at x2
          have hby := (b[4 * i + k]'(by rw [HBL.out]; omega)).toNat_lt
          have hnx : hw b i (t + 1) = hw b i t * 256 + (b[4 * i + k]'(by rw [HBL.out]; omega)).toNat := by
            rw [hw, ← hk, List.getElem?_eq_getElem (by rw [HBL.out]; omega)]
            rfl
          generalize (b[4 * i + k]'(by rw [HBL.out]; omega)).toNat = y at *
          have hX := hw_lt b i t
          have hX2 : hw b i t < 16777216 := by
            have : 256 ^ t ≤ 256 ^ 3 := Nat.pow_le_pow_right (by omega) (by omega)
            omega
          obtain ⟨X, hXX⟩ : ∃ X, hw b i t = X := ⟨_, rfl⟩
          rw [hXX] at hX2 hnx
          have x1 : wr.cell? ⟨w.heap.size, i, none⟩ = some (.int .u32 (X : Int)) := by
            rw [hb2.out.cell, uv_get _ _ (by rw [List.length_set, wp_len]; exact hlt), at_set _ _ _ (by rw [wp_len]; exact hlt), hXX]
          have fr : wr.frozen? ⟨w.heap.size, i, none⟩ = false := hb2.out.frozen i
          have hor := or_byte2 X y hX2 hby
          have HOR := Lib.hid hor
          clear hor
          have HNX := Lib.hid hnx
          have HKT := Lib.hid hkt
          have w1 : IntKind.i64.wrap (4 * (i : Int)) = 4 * (i : Int) := by rw [IntWalk.i64_in _ (by omega)]
          have w2 : IntKind.i64.wrap (4 * (i : Int) + (k : Int)) = 4 * (i : Int) + (k : Int) := by rw [IntWalk.i64_in _ (by omega)]
          have w3 : (4 * (i : Int) + (k : Int)).toNat = 4 * i + k := by omega
          have hi16 : (i : Int) < 16 := by omega
          have w4 : (0 : Int) ≤ 4 * (i : Int) + (k : Int) := by omega
          have w5 : 4 * (i : Int) + (k : Int) < 64 := by omega
          clear hnx hX hXX hkt hk r ht
          go_wp2_with fail
          go_still_tail 15, (by kernel_rfl)
          change wpList _ _ _ _ _ wr.drew
          have y1 : wr.drew.cell? ⟨w.heap.size, i, none⟩ = some (.int .u32 (X : Int)) := x1
          have yf : wr.drew.frozen? ⟨w.heap.size, i, none⟩ = false := fr
          have HBd := Lib.hid hb2.out.drew
          have FPd := Lib.hid hf2.out.drew
          clear x1 x2 fr hb2 hf2
          generalize wr.drew = wd at *
          go_wp2_with fail
          rw [HOR.out]
          have hset := HBd.out.set_ i (.int .u32 ((X * 256 + y : Nat) : Int))
          rw [uv_set, set_set] at hset
          have FS := FPd.out.setCell (p := ⟨w.heap.size, i, none⟩) (fun h => absurd h (Nat.lt_irrefl _)) (.int .u32 ((X * 256 + y : Nat) : Int))
          refine ⟨?_, by have := HKT.out; simp [intOf]; try omega⟩
          refine ⟨t + 1, ht4, ?_, by rw [HNX.out]; exact hset, FS⟩
          have := HKT.out
          show Value.int _ _ = Value.int _ _
          congr 1
          omega
        · obtain rfl : t = 4 := by omega
          have hb3 := hb2.out
          rw [hw_wd, wp_step b i hlt] at hb3
          have HB3 := Lib.hid hb3
          clear hb2 hb3
          go_wp2_with fail
          exact ⟨⟨i + 1, hlt, by go_num, HB3.out, hf2.out⟩, by simp [intOf]; omega⟩
    · obtain rfl : i = 16 := by omega
      have hb3 := hb.out
      rw [wp_all] at hb3
      have HB3 := Lib.hid hb3
      have hsz : (Tryz.prog.info? 111).map (·.size) = some (uv (wds b)).size := by rw [uv_size, (ws_wds b).1]; kernel_rfl
      have HSZ := Lib.hid hsz
      clear hb hb3 hsz
      have hst := HB3.out.setAll (ds := uv (wds b)) rfl
      have HST := Lib.hid hst
      have FST := Lib.hid (Fr.setCells (g := w.heap.size) (fun h => absurd h (Nat.lt_irrefl _)) (uv (wds b)).toList 0 wo hf.out)
      have HONE := Lib.hid (uv_one (wds b))
      have HTH := Lib.hid HB3.out.there
      clear hst
      go_wp2_with (first
        | refine wpList_load_row rfl 111 _ rfl w.heap.size rfl 111 (uv (wds b)) (0, 0) _ HB3.out Tryz.underlying111 rfl HSZ.out ?_
        | refine wpList_store_mid rfl 111 _ _ rfl w.heap.size 0 (uv (wds b)) rfl rfl HTH.out HSZ.out HONE.out ?_)
      generalize wo.setCells w.heap.size 0 (uv (wds b)).toList = w9 at *
      exact bodyPost_ret (v := .agg (uv (wds b))) (results_cell_row Tryz.results91 _ _ w.heap.size 111 _ (0, 0) _ rfl HST.out Tryz.underlying111 rfl HSZ.out) rfl ⟨rfl, FST.out⟩
end Go.Proofs.YtjaocgmicdnghaaGreatDoor
