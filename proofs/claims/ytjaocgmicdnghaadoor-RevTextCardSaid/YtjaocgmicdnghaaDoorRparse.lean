/-
  CONTRACT of the reference's Parse.
-/
import Derived.Test.YtjaocgmicdnghaaDoorRpp
import Derived.Test.YtjaocgmicdnghaaDoorRprint
import Derived.Test.YtjaocgmicdnghaaDoorChain
import Derived.StillTailTactics
import Derived.Deep.RegionWith
namespace Go.Proofs.YtjaocgmicdnghaaDoor
set_option linter.unusedSimpArgs false
set_option linter.unusedVariables false
open Go Go.RowKit Go.Shelf
attribute [local go_sem] Oper.semAt_some

def rparseV : Option (Nat × List UInt8) → Value
  | some x => .tuple #[.agg (rc x.1 x.2).toArray, .bool true]
  | none => .tuple #[.agg (rc 0 zN).toArray, .bool false]
set_option maxRecDepth 100000 in
set_option maxHeartbeats 2000000 in
theorem rparse_c (w : World) (s : List UInt8) (hs : s.length ≤ 1000) :
    Calls Tryd.prog 12 #[.string (strOf s)] w fun e w' => e = .returned (rparseV (parse s)) ∧ Fr (fun _ => False) w w' := by
  go_enter Tryd.func12, Tryd.ntmps12
  go_upto_region 2 with fail
  refine abs_world (fun W => Hid (Blk W w.heap.size 25 (rc 0 zN).toArray) ∧ Hid (Blk W (w.heap.size + 1) 25 (rc 0 zN).toArray) ∧ Hid (Fr (fun _ => False) w W)) ⟨(Blk.new w _ _).alloc _, by have h := Blk.new (w.alloc (.cells (rc 0 zN).toArray 25)) 25 (rc 0 zN).toArray; rw [World.size_alloc] at h; exact h, ((Fr.refl _ w).alloc _).alloc _⟩ ?_
  rintro W1 ⟨B0, R0, F0⟩
  obtain ⟨b7, hb7⟩ : ∃ b, w.heap.size + 1 = b := ⟨_, rfl⟩
  rw [hb7] at R0 ⊢
  obtain ⟨b2, hb2⟩ : ∃ b, w.heap.size = b := ⟨_, rfl⟩
  rw [hb2] at B0 hb7 ⊢
  have HB := Lib.hid (And.intro hb2 (show b2 < b7 by omega))
  clear hb2 hb7
  go_wp2_with fail
  go_loopw [5] (fun iv wr => ∃ (k : Nat) (hk : k ≤ s.length), iv = .int .i64 (k : Int) ∧ k ≤ 20 ∧ Hid (∀ (j : Nat) (hj : j < k), isDig (s[j]'(Nat.lt_of_lt_of_le hj hk))) ∧ Hid (Blk wr b7 25 (rc ((s.take k).foldl gstep 0) zN).toArray) ∧ Hid (Blk wr b2 25 (rc 0 zN).toArray) ∧ Hid (Fr (fun _ => False) w wr)) (fun iv _ => 20 - (intOf iv).toNat)
  case atStart => exact ⟨0, Nat.zero_le _, rfl, by omega, fun j hj => absurd hj (by omega), R0.out, B0.out, F0.out⟩
  case round =>
    obtain ⟨k, hk, rfl, hk20, hdig, R1, B1, F1⟩ := hrel
    obtain ⟨G, hG⟩ : ∃ G, (s.take k).foldl gstep 0 = G := ⟨_, rfl⟩
    rw [hG] at R1
    have hsz : ((strOf s).size : Int) = (s.length : Int) := by rw [strOf_size]
    by_cases hgo : k < s.length ∧ k < 20 ∧ ∃ hl : k < s.length, isDig (s[k]'hl)
    case pos =>
      obtain ⟨hkl, hkt, hl, hdg⟩ := hgo
      have hix := fun W => run_index_strOf W s k hkl
      have hg64 : (G * 10 + ((s[k]'hkl).toNat - 48)) % 18446744073709551616 < 18446744073709551616 := by omega
      have hst : (s.take (k + 1)).foldl gstep 0 = (G * 10 + ((s[k]'hkl).toNat - 48)) % 18446744073709551616 := by rw [List.take_succ_eq_append_getElem hkl, List.foldl_append, hG]; rfl
      have hdig2 : Hid (∀ (j : Nat) (hj : j < k + 1), isDig (s[j]'(Nat.lt_of_lt_of_le hj hkl))) := fun j hj => by
        rcases Nat.lt_or_ge j k with h | h
        · exact hdig.out j h
        · obtain rfl : j = k := by omega
          exact hdg
      unfold isDig at hdg
      obtain ⟨x, hx⟩ : ∃ x, (s[k]'hkl).toNat = x := ⟨_, rfl⟩
      simp only [hx] at hix hst hdg hg64
      have d1 : decide ((k : Int) < ((strOf s).size : Int)) = true := by rw [hsz]; exact decide_eq_true (by omega)
      have d1' : decide (k < (strOf s).size) = true := by rw [strOf_size]; exact decide_eq_true (by omega)
      have d2 : decide ((k : Int) < 20) = true := decide_eq_true (by omega)
      have d3 : decide ((48 : Int) ≤ (x : Int)) = true := decide_eq_true (by omega)
      have d4 : decide ((x : Int) ≤ 57) = true := decide_eq_true (by omega)
      have hv : IntKind.u64.wrap (IntKind.u64.wrap ((G : Int) * 10) + IntKind.u64.wrap (IntKind.u8.wrap ((x : Int) - 48))) = (((G * 10 + (x - 48)) % 18446744073709551616 : Nat) : Int) := by
        rw [IntKind.wrap_u64, IntKind.wrap_u64, IntKind.wrap_u64, IntKind.wrap_u8]
        omega
      obtain ⟨G2, hG2⟩ : ∃ g, (G * 10 + (x - 48)) % 18446744073709551616 = g := ⟨_, rfl⟩
      rw [hG2] at hv hst hg64
      have HV := Lib.hid hv
      have HST := Lib.hid hst
      have HDG := Lib.hid hdg
      have c0 : wr.cell? ⟨b7, 0, none⟩ = some (.int .u64 (G : Nat)) := R1.out.cell 0
      clear hl hst hdg hG hsz hx hv hG2
      go_upto_region 4 with fail
      go_still_tail 10, (by kernel_rfl)
      rw [HV.out]
      change wpList _ _ _ _ _ wr.drew
      have Rd1 := Lib.hid R1.out.drew
      have Bd1 := Lib.hid B1.out.drew
      have Fd1 := Lib.hid F1.out.drew
      have y0 : wr.drew.cell? ⟨b7, 0, none⟩ = some (.int .u64 (G : Nat)) := c0
      have yf : wr.drew.frozen? ⟨b7, 0, none⟩ = false := R1.out.frozen 0
      clear c0 R1 B1 F1 hix d1 d1' d2 d3 d4
      generalize wr.drew = wd at *
      go_wp2_with fail
      have R2 := Rd1.out.set_ 0 (.int .u64 (G2 : Nat))
      have hbb := HB.out
      exact ⟨⟨k + 1, hkl, by go_num, by omega, hdig2, by rw [HST.out]; exact R2, Bd1.out.far (by show b2 ≠ b7; omega) _, Fd1.out.setCell (fun h => by have : b7 < w.heap.size := h; omega) _⟩, by simp [intOf]; omega⟩
    case neg =>
      have hend : Hid (k = s.length ∨ k = 20 ∨ ∃ hl : k < s.length, ¬ isDig (s[k]'hl)) := by
        by_cases h1 : k < s.length
        · by_cases h2 : k < 20
          · exact .inr (.inr ⟨h1, fun h => hgo ⟨h1, h2, h1, h⟩⟩)
          · exact .inr (.inl (by omega))
        · exact .inl (by omega)
      by_cases hmain : s.length = k + 33 ∧ s[k]? = some 45
      case neg =>
        have hpn : parse s = none := by
          cases hp : parse s with
          | none => rfl
          | some x =>
            obtain ⟨-, -, h3, h4⟩ := scan_end (parse_some hp) hk hdig.out hend.out
            exact absurd ⟨h3, h4⟩ hmain
        have HPN := Lib.hid hpn
        have HSZ := Lib.hid (tRev_size (g := 0) (s := zN) rfl)
        have HTH : Hid (wr.there b2 0 (rc 0 zN).toArray.size) := B1.out.there
        have HST := Lib.hid (B1.out.setAll (ds := (rc 0 zN).toArray) rfl)
        have HONE := Lib.hid (rc_all 0 zN)
        have FST := Lib.hid (Fr.setCells (fp := fun k => k = b2) (a := wr) (g := b2) (fun _ => rfl) (rc 0 zN) 0 wr (Fr.refl _ _))
        clear hpn hgo hG R1 hdig
        by_cases hkl : k < s.length
        case neg =>
          have d1 : decide ((k : Int) < ((strOf s).size : Int)) = false := by rw [hsz]; exact decide_eq_false (by omega)
          have d1' : decide (k < (strOf s).size) = false := by rw [strOf_size]; exact decide_eq_false hkl
          have d33 : (((strOf s).size : Int) != (k : Int) + 33) = true := by rw [hsz]; simp; omega
          have d34 : ((strOf s).size != k + 33) = true := by rw [strOf_size]; simp; omega
          have d35 : ((strOf s).size == k + 33) = false := by rw [strOf_size]; simp; omega
          clear hkl hk hsz hmain hend
          go_upto_region 7 with fail
          go_wp2_with (refine wpList_store_mid rfl 25 _ _ rfl b2 0 (rc 0 zN).toArray rfl rfl HTH.out HSZ.out HONE.out ?_)
          generalize wr.setCells b2 0 (rc 0 zN).toArray.toList = w9 at *
          refine bodyPost_ret (v := rparseV none) (results_two Tryd.results12 _ _ b2 25 (rc 0 zN).toArray (0, 0) _ rfl HST.out Tryd.underlying25 rfl HSZ.out) rfl ⟨by rw [HPN.out], F1.out.trans FST.out (fun k hk e => by have := HB.out.1; omega)⟩
        case pos =>
          have hix := fun W => run_index_strOf W s k hkl
          have hen : k = 20 ∨ k < 20 ∧ ((s[k]'hkl).toNat < 48 ∨ 57 < (s[k]'hkl).toNat) := by
            rcases hend.out with h | h | ⟨_, h⟩
            · omega
            · exact .inl h
            · unfold isDig at h
              omega
          have hmn : s.length ≠ k + 33 ∨ (s.length = k + 33 ∧ (s[k]'hkl).toNat ≠ 45) := by
            by_cases h : s.length = k + 33
            · refine .inr ⟨h, fun h2 => hmain ⟨h, ?_⟩⟩
              have h45 : s[k]'hkl = 45 := UInt8.toNat_inj.1 (by rw [h2]; rfl)
              rw [List.getElem?_eq_getElem hkl, h45]
            · exact .inl h
          obtain ⟨x, hx⟩ : ∃ x, (s[k]'hkl).toNat = x := ⟨_, rfl⟩
          simp only [hx] at hix hen hmn
          have d1 : decide ((k : Int) < ((strOf s).size : Int)) = true := by rw [hsz]; exact decide_eq_true (by omega)
          have d1' : decide (k < (strOf s).size) = true := by rw [strOf_size]; exact decide_eq_true hkl
          have hways : (decide ((k : Int) < 20) = false) ∨ (decide ((k : Int) < 20) = true ∧ decide ((48 : Int) ≤ (x : Int)) = false) ∨ (decide ((k : Int) < 20) = true ∧ decide ((48 : Int) ≤ (x : Int)) = true ∧ decide ((x : Int) ≤ 57) = false) := by
            rcases hen with h | ⟨h, h2 | h2⟩
            · exact .inl (decide_eq_false (by omega))
            · exact .inr (.inl ⟨decide_eq_true (by omega), decide_eq_false (by omega)⟩)
            · exact .inr (.inr ⟨decide_eq_true (by omega), decide_eq_true (by omega), decide_eq_false (by omega)⟩)
          have hmw : ((((strOf s).size : Int) != (k : Int) + 33) = true ∧ ((strOf s).size != k + 33) = true ∧ ((strOf s).size == k + 33) = false) ∨ ((((strOf s).size : Int) != (k : Int) + 33) = false ∧ ((strOf s).size != k + 33) = false ∧ ((strOf s).size == k + 33) = true ∧ (((x : Int)) != 45) = true ∧ (x != 45) = true ∧ (x == 45) = false) := by
            rw [hsz, strOf_size]
            rcases hmn with h | ⟨h, h2⟩
            · exact .inl ⟨by simp; omega, by simp; omega, by simp; omega⟩
            · exact .inr ⟨by simp; omega, by simp; omega, by simp; omega, by simp; omega, by simp; omega, by simp; omega⟩
          clear hen hmn hmain hend hk hsz hx hkl
          rcases hways with e1 | ⟨e1, e2⟩ | ⟨e1, e2, e3⟩
          all_goals
            rcases hmw with ⟨m1, m2, m3⟩ | ⟨m1, m2, m3, m4, m5, m6⟩
            all_goals
              go_upto_region 7 with fail
              go_wp2_with (refine wpList_store_mid rfl 25 _ _ rfl b2 0 (rc 0 zN).toArray rfl rfl HTH.out HSZ.out HONE.out ?_)
              generalize wr.setCells b2 0 (rc 0 zN).toArray.toList = w9 at *
              refine bodyPost_ret (v := rparseV none) (results_two Tryd.results12 _ _ b2 25 (rc 0 zN).toArray (0, 0) _ rfl HST.out Tryd.underlying25 rfl HSZ.out) rfl ⟨by rw [HPN.out], F1.out.trans FST.out (fun k hk e => by have := HB.out.1; omega)⟩
      case pos =>
        obtain ⟨hlen, h45⟩ := hmain
        have hkl : k < s.length := by omega
        have hix := fun W => run_index_strOf W s k hkl
        have hx45 : (s[k]'hkl).toNat = 45 := by
          rw [List.getElem?_eq_getElem hkl] at h45
          rw [Option.some.inj h45]
          rfl
        simp only [hx45] at hix
        have d1 : decide ((k : Int) < ((strOf s).size : Int)) = true := by rw [hsz]; exact decide_eq_true (by omega)
        have d1' : decide (k < (strOf s).size) = true := by rw [strOf_size]; exact decide_eq_true hkl
        have m1 : (((strOf s).size : Int) != (k : Int) + 33) = false := by rw [hsz]; simp; omega
        have m2 : ((strOf s).size != k + 33) = false := by rw [strOf_size]; simp; omega
        have m3 : ((strOf s).size == k + 33) = true := by rw [strOf_size]; simp; omega
        have hl32 : (s.drop (k + 1)).length = 32 := by rw [List.length_drop]; omega
        have hLat : ∀ i (hi : i < 32) (h : k + 1 + i < s.length), (s.drop (k + 1)).getD i 0 = s[k + 1 + i]'h := fun i hi h => by
          rw [List.getD_eq_getElem?_getD, List.getElem?_drop, List.getElem?_eq_getElem h]
          rfl
        have hsc : ∀ g sum, isName g sum s → G = g ∧ s.drop (k + 1) = hexL sum := fun g sum h => by
          obtain ⟨h1, h2, -, -⟩ := scan_end h hk hdig.out hend.out
          exact ⟨hG.symm.trans h1, h2⟩
        have HG64 : Hid (G < 18446744073709551616) := by show G < _; rw [← hG]; exact fold_lt _ _ (by omega)
        obtain ⟨L, hL⟩ : ∃ L, s.drop (k + 1) = L := ⟨_, rfl⟩
        rw [hL] at hl32
        simp only [hL] at hLat hsc
        have HSC := Lib.hid hsc
        have HLAT := Lib.hid hLat
        have hways : (decide ((k : Int) < 20) = false) ∨ (decide ((k : Int) < 20) = true) := by
          by_cases h : k < 20
          · exact .inr (decide_eq_true (by omega))
          · exact .inl (decide_eq_false (by omega))
        have hlen2 := Lib.hid hlen
        have hk1000 : (k : Int) ≤ 1000 := by omega
        clear hsc hLat hL hgo hdig hend hG hx45 h45 hkl hlen hsz
        rcases hways with e1 | e1
        all_goals
          go_upto_region 8 with fail
          clear hix d1 d1' m1 m2 m3 e1
          go_wp2_with fail
          obtain ⟨wT, rfl⟩ : ∃ wT, wT = wr := ⟨_, rfl⟩
          go_loopw [6] (fun iv wr => ∃ i : Nat, iv = .int .i64 (i : Int) ∧ i ≤ 32 ∧ Hid (Blk wr b7 25 (rc G (midI L i)).toArray) ∧ Hid (Blk wr b2 25 (rc 0 zN).toArray) ∧ Hid (Fr (fun _ => False) w wr)) (fun iv _ => 32 - (intOf iv).toNat)
          case atStart => exact ⟨0, rfl, by omega, R1.out, B1.out, F1.out⟩
          case round =>
            obtain ⟨i, rfl, hi, R2, B2, F2⟩ := hrel
            by_cases hlt : i < 32
            case pos =>
              have hdl : decide ((i : Int) < 32) = true := decide_eq_true (by omega)
              have hkl : k + 1 + i < s.length := by have := hlen2.out; omega
              have hix := fun W => run_index_strOf W s (k + 1 + i) hkl
              simp only [show ((k + 1 + i : Nat) : Int) = (k : Int) + 1 + (i : Int) by omega] at hix
              obtain ⟨a, ha, hat, hnx⟩ := nib_step hl32 hlt
              have hla := HLAT.out i hlt hkl
              rw [hla] at hnx
              obtain ⟨c, hc⟩ : ∃ c, s[k + 1 + i]'hkl = c := ⟨_, rfl⟩
              rw [hc] at hnx
              simp only [hc] at hix
              have hml := midI_len hl32 hi
              obtain ⟨q, hq⟩ : ∃ q, i / 2 = q := ⟨_, rfl⟩
              have hq16 : q < 16 := by omega
              have hq1 : (i : Int) / 2 = (q : Int) := by omega
              have hq2 : (i : Int).tdiv 2 = (q : Int) := by rw [Int.tdiv_eq_ediv_of_nonneg (by omega)]; exact hq1
              rw [hq] at hat hnx
              have cq : wr.cell? ⟨b7, 1 + q, none⟩ = some (.int .u8 (a : Nat)) := by
                rw [R2.out.cell, List.getElem?_toArray, Nat.add_comm]
                have h := bv_get (midI L i) q (by omega)
                have h2 : (midI L i)[q]'(by omega) = UInt8.ofNat a := by
                  rw [List.getElem?_eq_getElem (by omega)] at hat
                  exact Option.some.inj hat
                rw [h2, UInt8.toNat_ofNat', Nat.mod_eq_of_lt (by omega)] at h
                exact h
              have mq := R2.out.frozen (1 + q)
              have hqi0 : (0 : Int) ≤ (q : Int) := by omega
              have hqi1 : (q : Int) < 16 := by omega
              have hcl : isHex c ∨ ¬ isHex c := Classical.em _
              have hnum := @dgt_num c
              have hlet := @dgt_let c
              have hdgl := dgt_lt c
              have hx256 := c.toNat_lt
              obtain ⟨x, hx⟩ : ∃ x, c.toNat = x := ⟨_, rfl⟩
              obtain ⟨v, hv⟩ : ∃ v, dgt c = v := ⟨_, rfl⟩
              simp only [hx, hv] at hnum hlet hix hdgl hnx hx256
              have hnh : ¬ isHex c → parse s = none := fun hn => by
                cases hp : parse s with
                | none => rfl
                | some y =>
                  obtain ⟨-, h2⟩ := HSC.out y.1 y.2 (parse_some hp)
                  refine absurd (hexL_hex y.2 c ?_) hn
                  rw [← h2, ← hc, ← hla, List.getD_eq_getElem?_getD, List.getElem?_eq_getElem (by omega)]
                  exact List.getElem_mem _
              unfold isHex at hcl hnh
              simp only [hx] at hcl hnh
              have HNX := Lib.hid hnx
              have HNH := Lib.hid hnh
              have hnum' := Lib.hid hnum
              have hlet' := Lib.hid hlet
              clear hnum hlet hnx hnh hat hml hq hla hc hx hv hkl
              by_cases h1 : 48 ≤ x ∧ x ≤ 57
              case pos =>
                have e1 : decide ((48 : Int) ≤ (x : Int)) = true := decide_eq_true (by omega)
                have e2 : decide ((x : Int) ≤ 57) = true := decide_eq_true (by omega)
                have hv := hnum'.out h1
                have hs1 : IntKind.u8.wrap ((x : Int) - 48) = (v : Int) := by rw [IntKind.wrap_u8]; omega
                have hs2 : (x : Int) - 48 = (v : Int) := by omega
                clear hcl h1 hv
                go_wp2_with fail
                have hor := or_nib ⟨a, ha⟩ ⟨v, by omega⟩
                dsimp only at hor
                rw [hor]
                have hcv : ((a * 16 + v : Nat) : Int) = ((UInt8.ofNat (a * 16 + v)).toNat : Nat) := by rw [UInt8.toNat_ofNat', Nat.mod_eq_of_lt (by omega)]
                rw [hcv]
                have R5 := R2.out.set_ (1 + q) (.int .u8 ((UInt8.ofNat (a * 16 + v)).toNat : Nat))
                rw [rc_set, HNX.out] at R5
                have hbb := HB.out
                exact ⟨⟨i + 1, by go_num, by omega, R5, B2.out.far (by show b2 ≠ b7; omega) _, F2.out.setCell (fun h => by have : b7 < w.heap.size := h; omega) _⟩, by simp [intOf]; omega⟩
              case neg =>
                by_cases h2 : 97 ≤ x ∧ x ≤ 102
                case pos =>
                  have e1 : decide ((48 : Int) ≤ (x : Int)) = true := decide_eq_true (by omega)
                  have e2 : decide ((x : Int) ≤ 57) = false := decide_eq_false (by omega)
                  have e3 : decide ((97 : Int) ≤ (x : Int)) = true := decide_eq_true (by omega)
                  have e4 : decide ((x : Int) ≤ 102) = true := decide_eq_true (by omega)
                  have hv := hlet'.out h2
                  obtain ⟨u, hu⟩ : ∃ u : Nat, x = u + 97 := ⟨x - 97, by omega⟩
                  have hs1 : IntKind.u8.wrap ((x : Int) - 97) = (u : Int) := by rw [IntKind.wrap_u8]; omega
                  have hs2 : (x : Int) - 97 = (u : Int) := by omega
                  have hs3 : IntKind.u8.wrap ((u : Int) + 10) = (v : Int) := by rw [IntKind.wrap_u8]; omega
                  have hs4 : (u : Int) + 10 = (v : Int) := by omega
                  clear hcl h1 h2 hv hu
                  go_wp2_with fail
                  have hor := or_nib ⟨a, ha⟩ ⟨v, by omega⟩
                  dsimp only at hor
                  rw [hor]
                  have hcv : ((a * 16 + v : Nat) : Int) = ((UInt8.ofNat (a * 16 + v)).toNat : Nat) := by rw [UInt8.toNat_ofNat', Nat.mod_eq_of_lt (by omega)]
                  rw [hcv]
                  have R5 := R2.out.set_ (1 + q) (.int .u8 ((UInt8.ofNat (a * 16 + v)).toNat : Nat))
                  rw [rc_set, HNX.out] at R5
                  have hbb := HB.out
                  exact ⟨⟨i + 1, by go_num, by omega, R5, B2.out.far (by show b2 ≠ b7; omega) _, F2.out.setCell (fun h => by have : b7 < w.heap.size := h; omega) _⟩, by simp [intOf]; omega⟩
                case neg =>
                  have hpn := HNH.out (by omega)
                  have HPN := Lib.hid hpn
                  have hw : decide ((48 : Int) ≤ (x : Int)) = false ∧ decide ((97 : Int) ≤ (x : Int)) = false ∨ (decide ((48 : Int) ≤ (x : Int)) = true ∧ decide ((x : Int) ≤ 57) = false ∧ decide ((97 : Int) ≤ (x : Int)) = false) ∨ (decide ((48 : Int) ≤ (x : Int)) = true ∧ decide ((x : Int) ≤ 57) = false ∧ decide ((97 : Int) ≤ (x : Int)) = true ∧ decide ((x : Int) ≤ 102) = false) := by
                    rcases (show x < 48 ∨ (57 < x ∧ x < 97) ∨ 102 < x by omega) with h | h | h
                    · exact .inl ⟨decide_eq_false (by omega), decide_eq_false (by omega)⟩
                    · exact .inr (.inl ⟨decide_eq_true (by omega), decide_eq_false (by omega), decide_eq_false (by omega)⟩)
                    · exact .inr (.inr ⟨decide_eq_true (by omega), decide_eq_false (by omega), decide_eq_true (by omega), decide_eq_false (by omega)⟩)
                  have HSZ := Lib.hid (tRev_size (g := 0) (s := zN) rfl)
                  have HTH : Hid (wr.there b2 0 (rc 0 zN).toArray.size) := B2.out.there
                  have HST := Lib.hid (B2.out.setAll (ds := (rc 0 zN).toArray) rfl)
                  have HONE := Lib.hid (rc_all 0 zN)
                  have FST := Lib.hid (Fr.setCells (fp := fun k => k = b2) (a := wr) (g := b2) (fun _ => rfl) (rc 0 zN) 0 wr (Fr.refl _ _))
                  clear hcl h1 h2 hpn cq mq hq1 hq2
                  rcases hw with ⟨e1, e2⟩ | ⟨e1, e2, e3⟩ | ⟨e1, e2, e3, e4⟩
                  all_goals
                    go_upto_region 13 with fail
                    go_wp2_with (refine wpList_store_mid rfl 25 _ _ rfl b2 0 (rc 0 zN).toArray rfl rfl HTH.out HSZ.out HONE.out ?_)
                    generalize wr.setCells b2 0 (rc 0 zN).toArray.toList = w9 at *
                    refine bodyPost_ret (v := rparseV none) (results_two Tryd.results12 _ _ b2 25 (rc 0 zN).toArray (0, 0) _ rfl HST.out Tryd.underlying25 rfl HSZ.out) rfl ⟨by rw [HPN.out], F2.out.trans FST.out (fun k hk e => by have := HB.out.1; omega)⟩
            case neg =>
              obtain rfl : i = 32 := by omega
              have hdl : decide (((32 : Nat) : Int) < 32) = false := by decide
              have hme := midI_end hl32
              have hul : (unhex L).length = 16 := by rw [unhex_length]; omega
              rw [hme] at R2
              have hun : ∀ sum, L = hexL sum → unhex L = sum := fun sum h => by rw [h, unhex_hexL]
              obtain ⟨U, hU⟩ : ∃ U, unhex L = U := ⟨_, rfl⟩
              rw [hU] at R2 hul
              simp only [hU] at hun
              have hsc : ∀ g sum, isName g sum s → isName G U s := fun g sum h => by
                obtain ⟨h1, h2⟩ := HSC.out g sum h
                rw [h1, hun sum h2]
                exact h
              have hgn : ¬ isName G U s → parse s = none := fun hn => by
                cases hp : parse s with
                | none => rfl
                | some y => exact absurd (hsc y.1 y.2 (parse_some hp)) hn
              have HGN := Lib.hid hgn
              have HUL := Lib.hid hul
              have hG64 : G < 18446744073709551616 := HG64.out
              have HSR := Lib.hid (tRev_size (g := G) (s := U) hul)
              have hmay := rMay_c wr G U hul hG64
              clear hme hun hU hgn hsc hul hlt hi HSC HLAT hl32
              cases hg : mayG G
              case false =>
                rw [hg] at hmay
                have hpn := HGN.out (by rintro ⟨h, -, -⟩; unfold mayG at hg; simp at hg; omega)
                have HPN := Lib.hid hpn
                have HM := Lib.hid hmay
                clear hmay hpn hg HGN
                go_wp2_with (refine wpList_load_row rfl 25 _ rfl b7 rfl 25 (rc G U).toArray (0, 0) _ R2.out Tryd.underlying25 rfl HSR.out ?_)
                refine HM.out.mono ?_
                rintro e w8 ⟨rfl, f8⟩
                have F8 := Lib.hid (F2.out.trans f8 (fun _ _ h => h))
                have B8 := Lib.hid (B2.out.fr f8 (fun h => h))
                clear f8 F2 B2 R2 HM
                have HSZ := Lib.hid (tRev_size (g := 0) (s := zN) rfl)
                have HTH : Hid (w8.there b2 0 (rc 0 zN).toArray.size) := B8.out.there
                have HST := Lib.hid (B8.out.setAll (ds := (rc 0 zN).toArray) rfl)
                have HONE := Lib.hid (rc_all 0 zN)
                have FST := Lib.hid (Fr.setCells (fp := fun k => k = b2) (a := w8) (g := b2) (fun _ => rfl) (rc 0 zN) 0 w8 (Fr.refl _ _))
                go_upto_region 20 with fail
                go_wp2_with (refine wpList_store_mid rfl 25 _ _ rfl b2 0 (rc 0 zN).toArray rfl rfl HTH.out HSZ.out HONE.out ?_)
                generalize w8.setCells b2 0 (rc 0 zN).toArray.toList = w9 at *
                refine bodyPost_ret (v := rparseV none) (results_two Tryd.results12 _ _ b2 25 (rc 0 zN).toArray (0, 0) _ rfl HST.out Tryd.underlying25 rfl HSZ.out) rfl ⟨by rw [HPN.out], F8.out.trans FST.out (fun k hk e => by have := HB.out.1; omega)⟩
              case true =>
                rw [hg] at hmay
                have hg2 : 1 ≤ G ∧ G ≤ 4611686018427387903 := by unfold mayG at hg; simpa using hg
                have HG2 := Lib.hid hg2
                have HM := Lib.hid hmay
                have hpr := fun W => rprint_c W G U HUL.out hG64
                have HPR := Lib.hid hpr
                clear hmay hg hpr hg2
                go_wp2_with (refine wpList_load_row rfl 25 _ rfl b7 rfl 25 (rc G U).toArray (0, 0) _ R2.out Tryd.underlying25 rfl HSR.out ?_)
                refine HM.out.mono ?_
                rintro e w7 ⟨rfl, f7⟩
                have F7 := Lib.hid (F2.out.trans f7 (fun _ _ h => h))
                have B7 := Lib.hid (B2.out.fr f7 (fun h => h))
                have R7 := Lib.hid (R2.out.fr f7 (fun h => h))
                clear f7 F2 B2 R2 HM
                have HRG := Lib.hid R7.out.rng
                have HSL : Hid ((Tryd.prog.info? 25).map (·.size) = some (rc G U).length) := by have h := HSR.out; rw [List.size_toArray] at h; exact h
                go_wp2_with (refine wpList_load_g rfl 25 _ rfl b7 0 rfl (rc G U) _ HRG.out Tryd.underlying25 rfl HSL.out ?_)
                refine (HPR.out w7).mono ?_
                rintro e w8 ⟨rfl, f8⟩
                have F8 := Lib.hid (F7.out.trans f8 (fun _ _ h => h))
                have B8 := Lib.hid (B7.out.fr f8 (fun h => h))
                have R8 := Lib.hid (R7.out.fr f8 (fun h => h))
                clear f8 F7 B7 R7 HPR
                by_cases ht : txt G U = s
                case neg =>
                  have hpn := HGN.out (by rintro ⟨-, -, h⟩; exact ht h)
                  have HPN := Lib.hid hpn
                  have hne : ((strOf (txt G U)).toList != (strOf s).toList) = true := by rw [strOf_toList, strOf_toList]; simpa using ht
                  have hne2 : ((strOf (txt G U)).toList == (strOf s).toList) = false := by rw [strOf_toList, strOf_toList]; simpa using ht
                  obtain ⟨T, hT⟩ : ∃ T, txt G U = T := ⟨_, rfl⟩
                  rw [hT] at hne hne2 ⊢
                  clear hT ht hpn
                  have HSZ := Lib.hid (tRev_size (g := 0) (s := zN) rfl)
                  have HTH : Hid (w8.there b2 0 (rc 0 zN).toArray.size) := B8.out.there
                  have HST := Lib.hid (B8.out.setAll (ds := (rc 0 zN).toArray) rfl)
                  have HONE := Lib.hid (rc_all 0 zN)
                  have FST := Lib.hid (Fr.setCells (fp := fun k => k = b2) (a := w8) (g := b2) (fun _ => rfl) (rc 0 zN) 0 w8 (Fr.refl _ _))
                  go_upto_region 20 with fail
                  go_wp2_with (refine wpList_store_mid rfl 25 _ _ rfl b2 0 (rc 0 zN).toArray rfl rfl HTH.out HSZ.out HONE.out ?_)
                  generalize w8.setCells b2 0 (rc 0 zN).toArray.toList = w9 at *
                  refine bodyPost_ret (v := rparseV none) (results_two Tryd.results12 _ _ b2 25 (rc 0 zN).toArray (0, 0) _ rfl HST.out Tryd.underlying25 rfl HSZ.out) rfl ⟨by rw [HPN.out], F8.out.trans FST.out (fun k hk e => by have := HB.out.1; omega)⟩
                case pos =>
                  have hpn : parse s = some (G, U) := parse_txt ⟨HG2.out, HUL.out, ht⟩
                  have HPN := Lib.hid hpn
                  rw [ht]
                  have heq : ((strOf s).toList != (strOf s).toList) = false := by simp
                  have heq2 : ((strOf s).toList == (strOf s).toList) = true := by simp
                  have HTH : Hid (w8.there b2 0 (rc G U).toArray.size) := by have h := B8.out.there; rw [List.size_toArray, rc_len HUL.out]; exact h
                  have HST := Lib.hid (B8.out.setAll (ds := (rc G U).toArray) (by rw [List.size_toArray, List.size_toArray, rc_len HUL.out]; rfl))
                  have HONE := Lib.hid (rc_all G U)
                  have FST := Lib.hid (Fr.setCells (fp := fun k => k = b2) (a := w8) (g := b2) (fun _ => rfl) (rc G U) 0 w8 (Fr.refl _ _))
                  obtain ⟨C, hC⟩ : ∃ C, (rc G U).toArray = C := ⟨_, rfl⟩
                  have hCl : C.toList = rc G U := by rw [← hC]
                  rw [hC] at R8 HTH HST HONE HSR
                  rw [← hCl] at FST
                  have HC := Lib.hid hC
                  clear hpn hC hCl ht
                  go_upto_region 21 with fail
                  go_wp2_with (first
                    | refine wpList_load_row rfl 25 _ rfl b7 rfl 25 C (0, 0) _ R8.out Tryd.underlying25 rfl HSR.out ?_
                    | refine wpList_store_mid rfl 25 _ _ rfl b2 0 C rfl rfl HTH.out HSR.out HONE.out ?_)
                  generalize w8.setCells b2 0 C.toList = w9 at *
                  refine bodyPost_ret (v := .tuple #[.agg C, .bool true]) (results_two Tryd.results12 _ _ b2 25 C (0, 0) _ rfl HST.out Tryd.underlying25 rfl HSR.out) rfl ⟨by rw [HPN.out, ← HC.out]; rfl, F8.out.trans FST.out (fun k hk e => by have := HB.out.1; omega)⟩
end Go.Proofs.YtjaocgmicdnghaaDoor
