/-
  ITEMS: what reads and writes one, what a row of them holds; 'kind', 'long', 'read', 'write' of the laws of layer 2.
-/
import Derived.Test.YtokhebplmldfkaaNew
import Derived.Test.YtokhebplmldfkaaAwake
import Derived.Test.YtokhebplmldfkaaSince
namespace Go.Proofs.Ytokhebplmldfkaa
set_option linter.unusedSimpArgs false
set_option linter.unusedVariables false
open Go Go.RowKit

/-- An Item. -/
structure It where
  kind : Int
  most : Int
  x : Nat
  s : ByteArray
/-- It fits its types. -/
structure It.Ok (t : It) : Prop where
  k0 : -9223372036854775808 ≤ t.kind
  k1 : t.kind ≤ 9223372036854775807
  m0 : -9223372036854775808 ≤ t.most
  m1 : t.most ≤ 9223372036854775807
  x1 : t.x ≤ 18446744073709551615
  s1 : t.s.size ≤ maxLen
def It.val (t : It) : Value := .agg #[.int .i64 t.kind, .int .i64 t.most, .int .u64 (t.x : Int), .string t.s]

set_option maxHeartbeats 400000 in
theorem kind_c (w : World) (t : It) (h : t.Ok) : Calls Try.prog 25 #[t.val] w fun e w' => e = .returned (.int .i64 (t.kind % 5)) ∧ Fr (fun _ => False) w w' := by
  obtain ⟨k, m, x, s⟩ := t
  have k0 := h.k0
  have k1 := h.k1
  simp only at k0 k1
  clear h
  unfold It.val
  simp only
  have ht : k.tmod 5 = k % 5 ∨ k.tmod 5 = k % 5 - 5 := by
    rw [Int.tmod_eq_emod]
    split <;> omega
  have h5 : (wrap64 (k.tmod 5 + 5)).tmod 5 = k % 5 := by
    rw [IntWalk.wrap64_in _ ⟨by omega, by omega⟩, Int.tmod_eq_emod_of_nonneg (by omega)]
    omega
  clear ht
  have H5 := Lib.hid h5
  clear h5
  go_enter Try.func25, Try.ntmps25
  go_wp2_with fail
  go_ret
  refine ⟨?_, (Fr.refl _ _).alloc _⟩
  show Ending.returned (.int .i64 ((wrap64 (k.tmod 5 + 5)).tmod 5)) = _
  rw [H5.out]

/-- A slice of Items. -/
def RdI (w : World) (A : Option Addr) (n : Nat) (ts : List It) : Prop :=
  ts.length = n ∧ (0 < n → ∃ b off, A = some ⟨b, off, none⟩ ∧ ∀ i (h : i < ts.length), w.cell? ⟨b, off + i * 4, none⟩ = some (.int .i64 ts[i].kind) ∧ w.cell? ⟨b, off + i * 4 + 1, none⟩ = some (.int .i64 ts[i].most) ∧
    w.cell? ⟨b, off + i * 4 + 2, none⟩ = some (.int .u64 (ts[i].x : Int)) ∧ w.cell? ⟨b, off + i * 4 + 3, none⟩ = some (.string ts[i].s))
theorem RdI.far {w w' : World} {A : Option Addr} {n : Nat} {ts : List It} (h : RdI w A n ts) (hf : Fr (fun _ => False) w w') : RdI w' A n ts := by
  refine ⟨h.1, fun hn => ?_⟩
  obtain ⟨b, off, rfl, hc⟩ := h.2 hn
  have keep : ∀ (p : Addr) (v : Value), w.cell? p = some v → w'.cell? p = some v := fun p v hp => by rw [hf.cell (World.block_lt_of_cell? w p hp) (fun h => h)]; exact hp
  exact ⟨b, off, rfl, fun i hi => ⟨keep _ _ (hc i hi).1, keep _ _ (hc i hi).2.1, keep _ _ (hc i hi).2.2.1, keep _ _ (hc i hi).2.2.2⟩⟩

/-- Are items more than is gone through? -/
def longAt : List It → Nat → Bool
  | [], _ => false
  | t :: r, n => if 2000 < n + (1 + t.s.size / 16) then true else longAt r (n + (1 + t.s.size / 16))
def long (ts : List It) : Bool := longAt ts 0
theorem longAt_false : ∀ (ts : List It) (n : Nat), longAt ts n = false → n ≤ 2000 → n + (ts.map fun t => 1 + t.s.size / 16).sum ≤ 2000
  | [], n, _, h => by simpa using h
  | t :: r, n, h, hn => by
    unfold longAt at h
    split at h
    · cases h
    · have := longAt_false r _ h (by omega)
      simp only [List.map_cons, List.sum_cons]
      omega

set_option maxHeartbeats 1000000 in
theorem long_c (w : World) (A : Option Addr) (n c : Nat) (ts : List It) (hr : RdI w A n ts) (hok : ∀ t ∈ ts, t.Ok) (hn : n ≤ 9223372036854775807) :
    Calls Try.prog 9 #[.slice A n c] w fun e w' => e = .returned (.bool (long ts)) ∧ w = w' := by
  have hl := hr.1
  rcases Nat.eq_zero_or_pos n with h0 | hpos
  · subst h0
    obtain rfl : ts = [] := List.eq_nil_of_length_eq_zero hl
    clear hl hr hok
    go_enter Try.func9, Try.ntmps9
    go_wp2_with fail
    go_loop [4] (fun i => i = .int .i64 0) (fun _ => 0)
    case atStart => rfl
    case round =>
      subst hrel
      go_wp2
      go_ret
      exact ⟨rfl, rfl⟩
  · obtain ⟨b, off, rfl, hc⟩ := hr.2 hpos
    have HC := Lib.hid hc
    have HL := Lib.hid hl
    have HOK := Lib.hid hok
    clear hc hl hok hr
    go_enter Try.func9, Try.ntmps9
    go_wp2_with fail
    go_loop [3, 4] (fun s i => ∃ k q : Nat, k ≤ n ∧ i = .int .i64 k ∧ s = .int .i64 q ∧ q ≤ 2000 ∧ Hid (longAt ts 0 = longAt (ts.drop k) q)) (fun _ i => n - (intOf i).toNat)
    case atStart => exact ⟨0, 0, Nat.zero_le _, rfl, rfl, by omega, rfl⟩
    case round =>
      obtain ⟨k, q, hk, rfl, rfl, hq, hrest⟩ := hrel
      by_cases hlt : k < n
      · have hkl : k < ts.length := by rw [HL.out]; exact hlt
        have c3 := (HC.out k hkl).2.2.2
        have hs := (HOK.out ts[k] (List.getElem_mem _)).s1
        unfold maxLen at hs
        have hd := List.drop_eq_getElem_cons hkl
        have HD := Lib.hid hd
        clear hd
        generalize ts[k] = t at *
        by_cases hb : 2000 < q + (1 + t.s.size / 16)
        · go_wp2_with fail
          go_ret
          refine ⟨?_, rfl⟩
          unfold long
          rw [hrest.out, HD.out, longAt, if_pos hb]
          rfl
        · go_wp2_with fail
          refine ⟨⟨k + 1, q + (1 + t.s.size / 16), hlt, by go_num, by go_num, by omega, ?_⟩, by simp [intOf]; omega⟩
          show longAt ts 0 = _
          rw [hrest.out, HD.out, longAt, if_neg hb]
      · obtain rfl : k = n := by omega
        have hfin : longAt ts 0 = false := by rw [hrest.out, List.drop_of_length_le (by rw [HL.out]; exact Nat.le_refl _)]; rfl
        have HF := Lib.hid hfin
        clear hfin hrest
        go_wp2
        go_ret
        exact ⟨by unfold long; rw [HF.out]; rfl, rfl⟩
end Go.Proofs.Ytokhebplmldfkaa
