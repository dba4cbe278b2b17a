/-
  NAMES: CONTRACTS of batch.MayName and of the reference's.
-/
import Derived.Test.YtaenibbhpidjcaaGreatDoorMem
import Derived.Test.YtaenibbhpidjcaaGreatDoorProg
import Derived.Deep.OwnRows
import Derived.Deep.QuietTactic
import Derived.BigQuiet
import Derived.IntWalk
import Derived.Lib.ConvBytes
namespace Go.Proofs.YtaenibbhpidjcaaGreatDoor
set_option linter.unusedSimpArgs false
set_option linter.unusedVariables false
open Go Go.RowKit

def strOf (l : List UInt8) : ByteArray := ⟨l.toArray⟩
theorem strOf_toList (l : List UInt8) : (strOf l).toList = l := by simp [strOf]
theorem strOf_of (s : ByteArray) : strOf s.data.toList = s := by
  cases s
  simp [strOf]
theorem strOf_inj {l m : List UInt8} (h : strOf l = strOf m) : l = m := by rw [← strOf_toList l, h, strOf_toList]
theorem strOf_size (l : List UInt8) : (strOf l).size = l.length := by simp [strOf, ByteArray.size]
def intOf : Value → Int
  | .int _ n => n
  | _ => 0
/-- A byte that a name may have. -/
def okB (c : UInt8) : Bool := !(decide (c.toNat < 33) || decide (126 < c.toNat))
/-- A name that may be. -/
def okN (l : List UInt8) : Bool := l.all okB && (decide (0 < l.length) && decide (l.length ≤ 24))
theorem all_take_next {l : List UInt8} {i : Nat} (h : i < l.length) : (l.take (i + 1)).all okB = ((l.take i).all okB && okB l[i]) := by
  rw [List.take_add_one, List.getElem?_eq_getElem h, List.all_append]
  simp only [Option.toList_some, List.all_cons, List.all_nil, Bool.and_true]
theorem all_bad {l : List UInt8} {i : Nat} (h : i < l.length) (hb : okB l[i] = false) : l.all okB = false := by
  cases ha : l.all okB with
  | false => rfl
  | true =>
    have := List.all_eq_true.1 ha l[i] (List.getElem_mem h)
    rw [hb] at this
    cases this

theorem str_get {l : List UInt8} {i : Nat} (h : i < (strOf l).size) (h' : i < l.length) : (strOf l)[i]'h = l[i]'h' := rfl
theorem okB_str {l : List UInt8} {i : Nat} (h : i < (strOf l).size) (h' : i < l.length) : okB (l[i]'h') = !(decide (((strOf l)[i]'h).toNat < 33) || decide (126 < ((strOf l)[i]'h).toNat)) := rfl
theorem conv_rd (w : World) (l : List UInt8) : Rd (Lib.bytesWorld w 5 (strOf l)) (some ⟨w.heap.size, 0, none⟩) l.length (bv l) := by
  refine ⟨by rw [bv_length], fun _ => ⟨_, rfl, fun j u hu => ?_⟩⟩
  have hj : j < l.length := by
    rcases Nat.lt_or_ge j l.length with h | h
    · exact h
    · rw [List.getElem?_eq_none (by rw [bv_length]; exact h)] at hu; cases hu
  rw [Addr.add_lit, Nat.zero_add, Lib.bytesWorld_cell w 5 (strOf l) j (by simpa [strOf, ByteArray.size] using hj)]
  rw [bv_get _ _ hj] at hu
  rw [← hu]
  simp [strOf, List.getD_eq_getElem?_getD, List.getElem?_eq_getElem hj]
theorem conv_fr (w : World) (s : ByteArray) : Fr (fun _ => False) w (Lib.bytesWorld w 5 s) :=
  ⟨rfl, rfl, rfl, by rw [Lib.bytesWorld_size]; omega, fun k hk _ => Lib.bytesWorld_at_old w _ s k hk⟩
theorem conv_run (W : World) (l : List UInt8) : ∃ cap, l.length ≤ cap ∧ (l.length ≤ maxLen → cap ≤ maxLen) ∧ (convert 9 84 (.string (strOf l))).run Tryz.prog W = .ok (.slice (some ⟨W.heap.size, 0, none⟩) l.length cap) (Lib.bytesWorld W 5 (strOf l)) := by
  have h := Lib.run_convert_string_bytes (P := Tryz.prog) W 9 84 5 (strOf l) Tryz.underlying9 Tryz.underlying84 Tryz.underlying5
  have e : (strOf l).size = l.length := by simp [strOf, ByteArray.size]
  rw [e] at h
  exact ⟨_, grownCap_ge _ _ _ _, grownCap_le_maxLen _ _ _ _, h⟩

set_option maxRecDepth 100000 in
set_option maxHeartbeats 1000000 in
theorem mayName_c (w : World) (l : List UInt8) (hl : l.length ≤ 140737488355328) :
    Calls Tryz.prog 15 #[.string (strOf l)] w fun e w' => e = .returned (.bool (okN l)) ∧ Fr (fun _ => False) w w' := by
  obtain ⟨cap, hc1, hc2, hcv⟩ := conv_run w l
  have hc3 := hc2 (by unfold maxLen; omega)
  have hrd := conv_rd w l
  have hfr := conv_fr w (strOf l)
  have hsz := strOf_size l
  obtain ⟨n, hn⟩ : ∃ n, l.length = n := ⟨_, rfl⟩
  have hokn : okN l = (l.all okB && (decide (0 < n) && decide (n ≤ 24))) := by unfold okN; rw [hn]
  rw [hn] at hc1 hcv hrd hsz hl
  clear hc2
  have HR := Lib.hid hrd
  have HF := Lib.hid hfr
  have HN := Lib.hid hn
  have HO := Lib.hid hokn
  clear hrd hfr hn hokn
  go_enter Tryz.func15, Tryz.ntmps15
  go_wp2_with fail
  generalize Lib.bytesWorld w 5 (strOf l) = w1 at *
  go_loopw [8] (fun u wr => ∃ i : Nat, u = .int .i64 i ∧ i ≤ n ∧ Hid ((l.take i).all okB = true) ∧ Hid (Fr (fun _ => False) w1 wr)) (fun u _ => n - (intOf u).toNat)
  case atStart => exact ⟨0, rfl, Nat.zero_le _, rfl, Fr.refl _ _⟩
  case round =>
    obtain ⟨i, rfl, hi, hno, hf⟩ := hrel
    by_cases hlt : i < n
    · have hdl : decide ((i : Int) < (n : Int)) = true := decide_eq_true (by omega)
      have hdn : decide (i < n) = true := decide_eq_true hlt
      have hI : (i : Int) < n := by omega
      have hil : i < l.length := by rw [HN.out]; exact hlt
      have hcell : wr.cell? ⟨w.heap.size, i, none⟩ = some (.int .u8 (l[i]).toNat) := by
        have := (HR.out.far hf.out).cell (k := i) hlt
        rw [Nat.zero_add] at this
        rw [this, bv_get _ _ hil]
      have hnext := all_take_next hil
      rw [hno.out, Bool.true_and] at hnext
      have hbad := all_bad (l := l) hil
      obtain ⟨c, hc⟩ : ∃ c, (l[i]).toNat = c := ⟨_, rfl⟩
      have hok : okB l[i] = !(decide (c < 33) || decide (126 < c)) := by unfold okB; rw [hc]
      rw [hc] at hcell
      rw [hok] at hnext hbad
      have HB := Lib.hid hbad
      have HX := Lib.hid hnext
      clear hbad hnext hok hc
      by_cases hb : c < 33
      · have d1 : decide ((c : Int) < 33) = true := decide_eq_true (by omega)
        have d2 : decide (c < 33) = true := decide_eq_true hb
        go_wp2_with fail
        go_ret
        refine ⟨?_, HF.out.trans hf.out (fun _ _ h => h)⟩
        rw [HO.out, HB.out (by rw [d2]; rfl)]
        rfl
      · have d1 : decide ((c : Int) < 33) = false := decide_eq_false (by omega)
        have d2 : decide (c < 33) = false := decide_eq_false hb
        by_cases hb2 : 126 < c
        · have d3 : decide (126 < (c : Int)) = true := decide_eq_true (by omega)
          have d4 : decide (126 < c) = true := decide_eq_true hb2
          go_wp2_with fail
          go_ret
          refine ⟨?_, HF.out.trans hf.out (fun _ _ h => h)⟩
          rw [HO.out, HB.out (by rw [d2, d4]; rfl)]
          rfl
        · have d3 : decide (126 < (c : Int)) = false := decide_eq_false (by omega)
          have d4 : decide (126 < c) = false := decide_eq_false hb2
          have H2 : Hid ((l.take (i + 1)).all okB = true) := by
            show _ = _
            rw [HX.out, d2, d4]
            rfl
          go_wp2_with fail
          exact ⟨⟨i + 1, by push_cast; rfl, by omega, H2.out, hf.out⟩, by simp only [intOf]; omega⟩
    · have hdl : decide ((i : Int) < (n : Int)) = false := decide_eq_false (by omega)
      have hdn : decide (i < n) = false := decide_eq_false hlt
      have hin : i = n := by omega
      have hall : Hid (l.all okB = true) := by
        have h1 := hno.out
        rw [hin] at h1
        conv at h1 => lhs; rw [← HN.out, List.take_length]
        exact h1
      by_cases h0 : 0 < n
      · have d1 : decide ((0 : Int) < (n : Int)) = true := decide_eq_true (by omega)
        have d2 : decide (0 < n) = true := decide_eq_true h0
        go_wp2_with fail
        go_ret
        refine ⟨?_, HF.out.trans hf.out (fun _ _ h => h)⟩
        rw [HO.out, hall.out, d2]
        simp
        omega
      · have d1 : decide ((0 : Int) < (n : Int)) = false := decide_eq_false (by omega)
        have d2 : decide (0 < n) = false := decide_eq_false h0
        go_wp2_with fail
        go_ret
        refine ⟨?_, HF.out.trans hf.out (fun _ _ h => h)⟩
        rw [HO.out, hall.out, d2]
        rfl

set_option maxRecDepth 100000 in
set_option maxHeartbeats 1000000 in
theorem rMayName_c (w : World) (l : List UInt8) (hl : l.length ≤ 140737488355328) :
    Calls Tryz.prog 16 #[.string (strOf l)] w fun e w' => e = .returned (.bool (okN l)) ∧ Fr (fun _ => False) w w' := by
  have hsz := strOf_size l
  obtain ⟨n, hn⟩ : ∃ n, l.length = n := ⟨_, rfl⟩
  have hokn : okN l = (l.all okB && (decide (0 < n) && decide (n ≤ 24))) := by unfold okN; rw [hn]
  rw [hn] at hsz hl
  have HN := Lib.hid hn
  have HO := Lib.hid hokn
  clear hn hokn
  go_enter Tryz.func16, Tryz.ntmps16
  go_wp2_with fail
  go_loopw [3] (fun u wr => ∃ i : Nat, u = .int .i64 i ∧ i ≤ n ∧ Hid ((l.take i).all okB = true) ∧ Hid (Fr (fun _ => False) w wr)) (fun u _ => n - (intOf u).toNat)
  case atStart => exact ⟨0, rfl, Nat.zero_le _, rfl, Fr.refl _ _⟩
  case round =>
    obtain ⟨i, rfl, hi, hno, hf⟩ := hrel
    by_cases hlt : i < n
    · have hdl : decide ((i : Int) < (n : Int)) = true := decide_eq_true (by omega)
      have hdn : decide (i < n) = true := decide_eq_true hlt
      have hI : (i : Int) < n := by omega
      have hil : i < l.length := by rw [HN.out]; exact hlt
      have hnext := all_take_next hil
      rw [hno.out, Bool.true_and] at hnext
      have hbad := all_bad (l := l) hil
      have hsi : i < (strOf l).size := by omega
      rw [okB_str hsi hil] at hnext
      rw [okB_str hsi hil] at hbad
      have HB := Lib.hid hbad
      have HX := Lib.hid hnext
      clear hbad hnext
      by_cases hb : ((strOf l)[i]'hsi).toNat < 33
      · have d1 : decide ((((strOf l)[i]'hsi).toNat : Int) < 33) = true := decide_eq_true (by omega)
        have d2 : decide (((strOf l)[i]'hsi).toNat < 33) = true := decide_eq_true hb
        clear hb
        go_wp2_with fail
        go_ret
        refine ⟨?_, hf.out⟩
        rw [HO.out, HB.out (by rw [d2]; rfl)]
        rfl
      · have d1 : decide ((((strOf l)[i]'hsi).toNat : Int) < 33) = false := decide_eq_false (by omega)
        have d2 : decide (((strOf l)[i]'hsi).toNat < 33) = false := decide_eq_false hb
        by_cases hb2 : 126 < ((strOf l)[i]'hsi).toNat
        · have d3 : decide (126 < (((strOf l)[i]'hsi).toNat : Int)) = true := decide_eq_true (by omega)
          have d4 : decide (126 < ((strOf l)[i]'hsi).toNat) = true := decide_eq_true hb2
          clear hb hb2
          go_wp2_with fail
          go_ret
          refine ⟨?_, hf.out⟩
          rw [HO.out, HB.out (by rw [d2, d4]; rfl)]
          rfl
        · have d3 : decide (126 < (((strOf l)[i]'hsi).toNat : Int)) = false := decide_eq_false (by omega)
          have d4 : decide (126 < ((strOf l)[i]'hsi).toNat) = false := decide_eq_false hb2
          have H2 : Hid ((l.take (i + 1)).all okB = true) := by
            show _ = _
            rw [HX.out, d2, d4]
            rfl
          clear hb hb2
          go_wp2_with fail
          exact ⟨⟨i + 1, by push_cast; rfl, by omega, H2.out, hf.out⟩, by simp only [intOf]; omega⟩
    · have hdl : decide ((i : Int) < (n : Int)) = false := decide_eq_false (by omega)
      have hdn : decide (i < n) = false := decide_eq_false hlt
      have hin : i = n := by omega
      have hall : Hid (l.all okB = true) := by
        have h1 := hno.out
        rw [hin] at h1
        conv at h1 => lhs; rw [← HN.out, List.take_length]
        exact h1
      by_cases h0 : 0 < n
      · have d1 : decide ((0 : Int) < (n : Int)) = true := decide_eq_true (by omega)
        have d2 : decide (0 < n) = true := decide_eq_true h0
        go_wp2_with fail
        go_ret
        refine ⟨?_, hf.out⟩
        rw [HO.out, hall.out, d2]
        simp
        omega
      · have d1 : decide ((0 : Int) < (n : Int)) = false := decide_eq_false (by omega)
        have d2 : decide (0 < n) = false := decide_eq_false h0
        go_wp2_with fail
        go_ret
        refine ⟨?_, hf.out⟩
        rw [HO.out, hall.out, d2]
        rfl
end Go.Proofs.YtaenibbhpidjcaaGreatDoor
