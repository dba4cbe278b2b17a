/-
  CONTRACT of keys' Number; the library's Itoa and Repeat off the shelf.
-/
import Derived.Test.YtillifkilkjpdaaDoorKeys
import Derived.Shelf.Lay
import Derived.Shelf.Strings.Builder1
import Derived.Shelf.Strings.Builder2
import Derived.Shelf.Strings.BuilderF
import Derived.Shelf.Strings.BuilderK
import Derived.Shelf.Strings.Builder2Cap
import Derived.Shelf.Strconv.Itoa0
import Derived.Shelf.Strconv.Itoa1
import Derived.Shelf.LaysM
import Derived.Shelf.Strconv.Itoa2
import Derived.Shelf.Strconv.Itoa3
import Derived.Shelf.Strings.Repeat
namespace Go.Proofs
set_option linter.unusedSimpArgs false
set_option linter.unusedVariables false
open Go.Shelf
shelf_lay LaysM.n171 Nm 171 at Tryd as Tryd.laysM171
shelf_lay Lays.n105 Nm 105 at Tryd as Tryd.lays105
end Go.Proofs
namespace Go.Proofs.YtillifkilkjpdaaDoor
open Go Go.RowKit Go.Shelf

theorem bx : Builder.Extra Tryd.prog Tryd.lays105_ren where
  sizeBuilder := by kernel_rfl
  liesBuilder := by kernel_rfl
  t5 := Tryd.underlying5
  a5 := Tryd.isAgg5
  z5 := Tryd.sizeOf5
  v5 := Tryd.zeroValue5
  infoByte := by kernel_rfl
  cellsByte := by kernel_rfl
  sizeByte := by kernel_rfl
  neB5 := by decide

theorem fr_grow (w : World) (k : Nat) (os : Array Obj) : Fr (fun _ => False) w (Go.Sort.grow (w.drewN k) os) :=
  ⟨rfl, rfl, rfl, by simp [Go.Sort.grow], fun i hi _ => by
    show ((w.drewN k).heap ++ os)[i]? = _
    rw [Array.getElem?_append_left (by show i < w.heap.size; omega)]
    rfl⟩

theorem itoa_c (n : Int) (h0 : -9223372036854775808 ≤ n) (h1 : n ≤ 9223372036854775807) (w : World) (htab : Lib.TabIs Tryd.prog w "internal/strconv.uint64pow10" .u64 Lib.pow10Tab) :
    Calls Tryd.prog 42 #[.int .i64 n] w fun e w' => e = .returned (.string (strOf (Lib.itoa n))) ∧ Fr (fun _ => False) w w' := by
  refine (Any.strconv_Itoa Tryd.laysM171 n h0 h1 w htab).mono ?_
  rintro e w' ⟨rfl, k, os, rfl⟩
  exact ⟨rfl, fr_grow _ _ _⟩

theorem repeat_c (s : List UInt8) (c : Nat) (w : World) (hc : c ≤ 100) (hl : s.length ≤ 100) :
    Calls Tryd.prog 43 #[.string (strOf s), .int .i64 c] w fun e w' => e = .returned (.string (strOf (Lib.repeatL s c))) ∧ Fr (fun _ => False) w w' := by
  have hsz : (strOf s).size = s.length := by simp [strOf, ByteArray.size]
  have hm : (strOf s).size * c ≤ 100 * 100 := by rw [hsz]; exact Nat.mul_le_mul hl hc
  refine (Any.strings_Repeat Tryd.lays105 bx (strOf s) c w (by omega) (by omega)).mono ?_
  rintro e w' ⟨rfl, h⟩
  refine ⟨by simp [strOf], (Fr.of_below h).mono (fun i hi h => by omega)⟩

theorem strOf_app (a b : List UInt8) : strOf a ++ strOf b = strOf (a ++ b) := by
  apply ByteArray.ext
  simp [strOf]

/-- A number as a key: the text in bytes, of ten digits. -/
def keyNum (n : Nat) : List UInt8 := Lib.repeatL [48] (10 - Lib.nDigits n) ++ Lib.decDigits n
theorem nDigits_le : ∀ (k n : Nat), n < 10 ^ (k + 1) → Lib.nDigits n ≤ k + 1
  | 0, n, h => by rw [Lib.nDigits_small (by simpa using h)]; exact Nat.le_refl _
  | k + 1, n, h => by
    rw [Lib.nDigits]
    split
    · omega
    · have := nDigits_le k (n / 10) (by rw [Nat.div_lt_iff_lt_mul (by decide)]; rw [Nat.pow_succ] at h; exact h)
      omega
/-- What a number counts as. -/
def clampN (n : Int) : Nat := (min (max n 0) 9999999999).toNat

set_option maxRecDepth 100000 in
theorem number_c (w : World) (n : Int) (h0 : -9223372036854775808 ≤ n) (h1 : n ≤ 9223372036854775807) (htab : Lib.TabIs Tryd.prog w "internal/strconv.uint64pow10" .u64 Lib.pow10Tab) :
    Calls Tryd.prog 22 #[.int .i64 n] w fun e w' => e = .returned (.string (strOf (keyNum (clampN n)))) ∧ Fr (fun _ => False) w w' := by
  have HT := Lib.hid htab
  obtain ⟨x, hx⟩ : ∃ x, clampN n = x := ⟨_, rfl⟩
  have hxl : x ≤ 9999999999 := by rw [← hx]; unfold clampN; omega
  have hd : Lib.nDigits x ≤ 10 := nDigits_le 9 x (by omega)
  have hdl : (Lib.decDigits x).length = Lib.nDigits x := Lib.decDigits_length x
  have hit : Lib.itoa (x : Int) = Lib.decDigits x := by
    unfold Lib.itoa
    rw [if_neg (by omega)]
    rfl
  have hx2 : ((min (max n 0) 9999999999 : Int)) = (x : Int) := by rw [← hx]; unfold clampN; omega
  rw [hx]
  clear hx htab
  go_enter Tryd.func22, Tryd.ntmps22
  have hsz : (strOf (Lib.decDigits x)).size = Lib.nDigits x := by rw [← hdl]; simp [strOf, ByteArray.size]
  have HD := Lib.hid hd
  have HSZ := Lib.hid hsz
  have hsub : (10 : Int) - (Lib.nDigits x : Int) = ((10 - Lib.nDigits x : Nat) : Int) := by omega
  obtain ⟨q, hq⟩ : ∃ q, 10 - Lib.nDigits x = q := ⟨_, rfl⟩
  have hq10 : q ≤ 10 := by omega
  rw [hq] at hsub
  have HQ := Lib.hid hq
  obtain ⟨dd, hdd⟩ : ∃ dd, Lib.nDigits x = dd := ⟨_, rfl⟩
  rw [hdd] at hsub hsz hd
  have HIT := Lib.hid hit
  have HDD := Lib.hid hdd
  have hsz2 : (strOf (Lib.repeatL [48] q)).size = q := by
    have := Lib.repeatL_length [48] q
    simp only [List.length_singleton, Nat.mul_one] at this
    simp only [strOf, ByteArray.size, List.size_toArray, this]
  have e48 : (⟨#[48]⟩ : ByteArray) = strOf [48] := rfl
  clear hq hdd hdl hit
  go_wp2_with (first
    | (go_at_call 42; refine (itoa_c (x : Int) (by omega) (by omega) _ HT.out).mono ?_; rintro e w1 ⟨rfl, f1⟩; rw [HIT.out]; have F1 := Lib.hid f1; clear f1)
    | (go_at_call 43; refine (repeat_c [48] q _ (by omega) (by decide)).mono ?_; rintro e w2 ⟨rfl, f2⟩; have F2 := Lib.hid f2; clear f2))
  all_goals try (exfalso; omega)
  go_ret
  refine ⟨?_, F1.out.trans F2.out (fun _ _ h => h)⟩
  rw [strOf_app]
  unfold keyNum
  rw [HQ.out]
  rfl
end Go.Proofs.YtillifkilkjpdaaDoor
