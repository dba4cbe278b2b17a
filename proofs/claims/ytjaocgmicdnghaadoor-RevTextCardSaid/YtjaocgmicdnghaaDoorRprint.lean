/-
  CONTRACT of the reference's Print.
-/
import Derived.Test.YtjaocgmicdnghaaDoorParse
import Derived.Deep.QuietTactic
import Derived.BigQuiet
namespace Go.Proofs.YtjaocgmicdnghaaDoor
set_option linter.unusedSimpArgs false
set_option linter.unusedVariables false
open Go Go.RowKit Go.Shelf
attribute [local go_sem] Oper.semAt_some

theorem run_slice_hexs (W : World) (k : Nat) (kn : IntKind) (h : k < 16) : (Instr.slice 9 (.string ⟨#[48, 49, 50, 51, 52, 53, 54, 55, 56, 57, 97, 98, 99, 100, 101, 102]⟩) (some (.int kn (k : Nat))) (some (.int kn ((k : Int) + 1))) none).run Tryd.prog W = .ok (.string (strOf [hxd k])) W := by
  rw [run_slice_string W _ _ _ _ _ _ Tryd.underlying9 (by omega) (by omega) (by show (k : Int) + 1 ≤ 16; omega)]
  have : ∀ k : Fin 16, ((⟨#[48, 49, 50, 51, 52, 53, 54, 55, 56, 57, 97, 98, 99, 100, 101, 102]⟩ : ByteArray).extract k.val (k.val + 1)).data = (strOf [hxd k.val]).data := by decide +kernel
  have h2 := this ⟨k, h⟩
  congr 2
  apply ByteArray.ext
  rw [show ((k : Nat) : Int).toNat = k by omega, show ((k : Int) + 1).toNat = k + 1 by omega]
  exact h2
theorem run_cat (W : World) (a b : List UInt8) (h : a.length + b.length ≤ 100000) : (Op.stringOp .add (strOf a) (strOf b)).run Tryd.prog W = .ok (.string (strOf (a ++ b))) W := by
  have h1 : ¬ (((strOf a).size + (strOf b).size : Nat) : Int) > IntKind.i64.max := by
    rw [strOf_size, strOf_size]
    have : IntKind.i64.max = 9223372036854775807 := rfl
    omega
  have h2 : strOf a ++ strOf b = strOf (a ++ b) := by
    apply ByteArray.ext
    simp [strOf]
  unfold Op.stringOp
  simp only [if_neg h1, h2]
  rfl

theorem and_15 (x : Nat) (h : x < 256) : bits .and .u8 (x : Int) 15 = (x : Int) % 16 := by
  have : ∀ k : Fin 256, bits .and .u8 (k.val : Int) 15 = (k.val : Int) % 16 := by decide +kernel
  exact this ⟨x, h⟩
set_option maxRecDepth 100000 in
set_option maxHeartbeats 2000000 in
theorem rprint_c (w : World) (g : Nat) (s : List UInt8) (hs : s.length = 16) (hg : g < 18446744073709551616) :
    Calls Tryd.prog 10 #[.agg (rc g s).toArray] w fun e w' => e = .returned (.string (strOf (txt g s))) ∧ Fr (fun _ => False) w w' := by
  have hlen : (Lib.decDigits g).length ≤ 20 := by
    rw [Lib.decDigits_length]
    exact Lib.nDigits_le20 g hg
  have hc0 : (rc g s).toArray[0]? = some (.int .u64 (g : Nat)) := rfl
  have hcr : ∀ k (h : k < s.length), (rc g s).toArray[1 + k]? = some (.int .u8 ((s[k]'h).toNat : Nat)) := fun k h => by
    rw [List.getElem?_toArray, Nat.add_comm]
    exact bv_get _ _ h
  obtain ⟨C, hC⟩ : ∃ C, (rc g s).toArray = C := ⟨_, rfl⟩
  rw [hC] at hc0 hcr ⊢
  have HCR := Lib.hid hcr
  have HC0 := Lib.hid hc0
  have HS := Lib.hid hs
  clear hC hcr hc0 hs
  go_enter Tryd.func10, Tryd.ntmps10
  go_upto_region 2 with fail
  refine abs_world (fun W => Hid (Blk W w.heap.size 25 C) ∧ Hid (Fr (fun _ => False) w W)) ⟨Blk.new w _ _, (Fr.refl _ w).alloc _⟩ ?_
  rintro W1 ⟨B0, F1⟩
  have c0 : W1.cell? ⟨w.heap.size, 0, none⟩ = some (.int .u64 (g : Nat)) := by rw [B0.out.cell]; exact HC0.out
  obtain ⟨b, hb⟩ : ∃ b, w.heap.size = b := ⟨_, rfl⟩
  rw [hb] at B0 c0 ⊢
  clear hb HC0
  go_wp2_with fail
  clear c0
  go_loop [3, 4] (fun sv nv => ∃ (n : Nat) (cur : List UInt8), sv = .string (strOf cur) ∧ nv = .int .u64 (n : Int) ∧ n < 18446744073709551616 ∧ cur.length ≤ 20 ∧ Hid (Lib.decDigits g = Lib.decDigits n ++ cur)) (fun _ nv => (intOf nv).toNat)
  case atStart => exact ⟨g, [], rfl, rfl, hg, by simp, (List.append_nil _).symm⟩
  case round =>
    obtain ⟨n, cur, rfl, rfl, hn, hcu, hd⟩ := hrel
    have hsl := fun W => run_slice_hexs W (n % 10) .u64 (by omega)
    rw [show ((n % 10 : Nat) : Int) = (n : Int) % 10 by omega] at hsl
    have hct := fun W => run_cat W [hxd (n % 10)] cur (by simp; omega)
    rw [show [hxd (n % 10)] ++ cur = hxd (n % 10) :: cur from rfl] at hct
    have hxe : hxd (n % 10) = UInt8.ofNat (48 + n % 10) := by unfold hxd; rw [if_pos (by omega)]
    by_cases h10 : n < 10
    case neg =>
      have hdl : decide ((n : Int) < 10) = false := decide_eq_false (by omega)
      have hdd : Lib.decDigits n = Lib.decDigits (n / 10) ++ [UInt8.ofNat (48 + n % 10)] := by rw [Lib.decDigits.eq_1, dif_neg h10]
      have hnew : Hid (Lib.decDigits g = Lib.decDigits (n / 10) ++ (hxd (n % 10) :: cur)) := by
        show _ = _
        rw [hd.out, hdd, hxe, List.append_assoc]
        rfl
      have hl2 : (hxd (n % 10) :: cur).length ≤ 20 := by
        have h1 := congrArg List.length hnew.out
        rw [List.length_append] at h1
        omega
      obtain ⟨c2, hc2⟩ : ∃ c, hxd (n % 10) :: cur = c := ⟨_, rfl⟩
      rw [hc2] at hct hnew hl2
      clear hdd hxe hd hc2
      go_wp2_with fail
      exact ⟨⟨n / 10, c2, rfl, by go_num, by omega, hl2, hnew⟩, by simp [intOf]; omega⟩
    case pos =>
      have hdl : decide ((n : Int) < 10) = true := decide_eq_true (by omega)
      have hdd : Lib.decDigits n = [UInt8.ofNat (48 + n)] := by rw [Lib.decDigits.eq_1, dif_pos h10]
      have hnew : hxd (n % 10) :: cur = Lib.decDigits g := by
        rw [hd.out, hdd, hxe, Nat.mod_eq_of_lt h10]
        rfl
      rw [hnew] at hct
      obtain ⟨D, hD⟩ : ∃ D, Lib.decDigits g = D := ⟨_, rfl⟩
      rw [hD] at hct hlen
      have HD := Lib.hid hD
      have hct2 : ∀ W, (Op.stringOp .add (strOf D) ⟨#[45]⟩).run Tryd.prog W = .ok (.string (strOf (D ++ [45]))) W := fun W => run_cat W D [45] (by simp; omega)
      clear hdd hxe hd hnew hD
      go_wp2_with fail
      clear hct hct2 hsl hdl
      have hs16 := HS.out
      go_loopw [3, 5] (fun sv iv wr => ∃ k : Nat, sv = .string (strOf (D ++ 45 :: hexL (s.take k))) ∧ iv = .int .i64 (k : Int) ∧ k ≤ 16 ∧ Hid (Blk wr b 25 C) ∧ Hid (Fr (fun _ => False) w wr)) (fun _ iv _ => 16 - (intOf iv).toNat)
      case atStart => exact ⟨0, rfl, rfl, by omega, B0.out, F1.out⟩
      case round =>
        obtain ⟨k, rfl, rfl, hk, B2, F2⟩ := hrel
        by_cases hlt : k < 16
        case pos =>
          have hdl : decide ((k : Int) < 16) = true := decide_eq_true (by omega)
          have hk0 : (0 : Int) ≤ (k : Int) := by omega
          have hk16 : (k : Int) < 16 := by omega
          have hks : k < s.length := by omega
          have ck : wr.cell? ⟨b, 1 + k, none⟩ = some (.int .u8 ((s[k]'hks).toNat : Nat)) := by rw [B2.out.cell]; exact HCR.out k hks
          have htk : s.take (k + 1) = s.take k ++ [s[k]'hks] := by rw [List.take_succ_eq_append_getElem hks]
          have hx256 := (s[k]'hks).toNat_lt
          have hsn : hexL (s.take (k + 1)) = hexL (s.take k) ++ [hxd ((s[k]'hks).toNat / 16), hxd ((s[k]'hks).toNat % 16)] := by rw [htk, hexL_snoc]
          have hhl : (hexL (s.take k)).length ≤ 32 := by rw [hexL_length, List.length_take]; omega
          obtain ⟨x, hx⟩ : ∃ x, (s[k]'hks).toNat = x := ⟨_, rfl⟩
          rw [hx] at hx256 hsn ck
          obtain ⟨H, hH⟩ : ∃ H, hexL (s.take k) = H := ⟨_, rfl⟩
          rw [hH] at hsn hhl
          rw [hH]
          have HSN := Lib.hid hsn
          have hs1 := fun W => run_slice_hexs W (x / 16) .u8 (by omega)
          have hs2 := fun W => run_slice_hexs W (x % 16) .u8 (by omega)
          rw [show ((x / 16 : Nat) : Int) = (x : Int) / 16 by omega] at hs1
          rw [show ((x % 16 : Nat) : Int) = (x : Int) % 16 by omega] at hs2
          have hc1 := fun W => run_cat W (D ++ 45 :: H) [hxd (x / 16)] (by simp; omega)
          have hc2 := fun W => run_cat W (D ++ 45 :: (H ++ [hxd (x / 16)])) [hxd (x % 16)] (by simp; omega)
          have hand := and_15 x hx256
          have hw1 : IntKind.u8.wrap ((x : Int) / 16 + 1) = (x : Int) / 16 + 1 := by rw [IntKind.wrap_u8]; omega
          have hw2 : IntKind.u8.wrap ((x : Int) % 16 + 1) = (x : Int) % 16 + 1 := by rw [IntKind.wrap_u8]; omega
          clear htk hx hsn hH
          go_upto_region 10 with fail
          go_quiet (fail)
          go_wp2_with fail
          have e2 : D ++ 45 :: (H ++ [hxd (x / 16), hxd (x % 16)]) = D ++ 45 :: hexL (s.take (k + 1)) := by rw [HSN.out]
          rw [e2]
          exact ⟨⟨k + 1, rfl, by go_num, by omega, B2.out.drewN _, F2.out.drewN _⟩, by simp [intOf]; omega⟩
        case neg =>
          obtain rfl : k = 16 := by omega
          have hdl : decide (((16 : Nat) : Int) < 16) = false := by decide
          have e16 : D ++ 45 :: hexL (s.take 16) = txt g s := by rw [List.take_of_length_le (by omega), ← HD.out]; rfl
          rw [e16]
          clear e16
          go_wp2_with fail
          go_ret
          exact ⟨rfl, F2.out⟩
end Go.Proofs.YtjaocgmicdnghaaDoor
