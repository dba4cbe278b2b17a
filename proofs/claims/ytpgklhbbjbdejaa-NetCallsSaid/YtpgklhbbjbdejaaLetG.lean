/-
  CONTRACT of Letters, of a net by what was sent: the live ones, by their numbers.
-/
import Derived.Test.YtpgklhbbjbdejaaUPdq
import Derived.Test.YtpgklhbbjbdejaaGh2
namespace Go.Proofs.Ytpgklhbbjbdejaa
set_option linter.unusedSimpArgs false
set_option linter.unusedVariables false
open Go Go.RowKit Go.Maps

/-- The numbers of the live ones. -/
def lids (T : List Ms) : List Nat := (List.range' 1 T.length).filter fun id => (lookT T id).isSome
theorem lookT_lt {T : List Ms} {id : Nat} (h : (lookT T id).isSome = true) : 1 ≤ id ∧ id ≤ T.length := by
  obtain ⟨x, hx⟩ := Option.isSome_iff_exists.1 h
  obtain ⟨k, rfl, hk, _⟩ := lookT_some hx
  have := (List.getElem?_eq_some_iff.1 hk).1
  omega
theorem mem_lids {T : List Ms} {id : Nat} : id ∈ lids T ↔ (lookT T id).isSome = true := by
  unfold lids
  rw [List.mem_filter]
  constructor
  · exact fun h => h.2
  · intro h
    have := lookT_lt h
    refine ⟨?_, h⟩
    rw [List.mem_range'_1]
    omega
theorem lids_lt (T : List Ms) : (lids T).Pairwise (· < ·) := (List.pairwise_lt_range' (s := 1) (n := T.length)).filter _
theorem lids_nodup (T : List Ms) : (lids T).Nodup := (lids_lt T).imp (fun h => Nat.ne_of_lt h)
theorem lids_len (T : List Ms) : (lids T).length ≤ T.length := by
  unfold lids
  refine Nat.le_trans (List.length_filter_le _ _) ?_
  rw [List.length_range']
  exact Nat.le_refl _
def lcell (T : List Ms) (id : Nat) : List Value := match lookT T id with
  | some x => [.int .u64 (id : Nat), .int .i64 (x.f : Nat), .int .i64 (x.t : Nat), .int .i64 (x.bs.length : Nat)]
  | none => [.int .u64 (id : Nat), .int .i64 0, .int .i64 0, .int .i64 0]
def lcells (T : List Ms) (l : List Nat) : List Value := l.flatMap (lcell T)
theorem lcell_len (T : List Ms) (id : Nat) : (lcell T id).length = 4 := by unfold lcell; split <;> rfl
theorem lcells_add (T : List Ms) (l : List Nat) (id : Nat) : lcells T (l ++ [id]) = lcells T l ++ lcell T id := by simp [lcells]
/-- A sorted row of just these numbers is these numbers. -/
theorem sorted_is {d d' : Array Nat} {n : Nat} {l : List Nat} (hn : d.size = n) (hp : Sort.PermIn 0 n d d') (hs : Sort.SortedIn lt6 0 n d') (hl : l.Pairwise (· < ·)) (hm : d.toList.Perm l) : d'.toList = l := by
  subst hn
  have h0 : d'.toList.Perm d.toList := by
    have := hp.2.2
    rw [show d.size = d'.size from hp.1.symm] at this
    simp only [Array.extract_size] at this
    rw [hp.1, Array.extract_size] at this
    exact this
  refine List.Perm.eq_of_pairwise (le := fun a b : Nat => a ≤ b) (fun a b _ _ h1 h2 => by omega) ?_ (hl.imp (fun h => Nat.le_of_lt h)) (h0.trans hm)
  rw [List.pairwise_iff_getElem]
  intro i j hi hj hij
  have hi' : i < d'.size := by simpa using hi
  have hj' : j < d'.size := by simpa using hj
  have h := hs i j (Nat.zero_le _) hij (by rw [← hp.1]; exact hj')
  unfold lt6 at h
  have h := of_decide_eq_false h
  rw [getElem!_pos d' j hj', getElem!_pos d' i hi'] at h
  simp only [Array.getElem_toList]
  omega
theorem zero_ins (w : World) (A : Option Addr) (c : Nat) : Calls Try.prog 41 #[.slice A 0 c, .int .i64 0, .int .i64 0] w fun e w' => e = .returned (.tuple #[]) ∧ w' = w := by
  go_enter Try.func41, Try.ntmps41
  go_wp2_with fail
  go_loopw [6] (fun a wr => a = .int .i64 1 ∧ wr = w) (fun _ _ => 0)
  case atStart => exact ⟨rfl, rfl⟩
  case round =>
    obtain ⟨rfl, rfl⟩ := hrel
    go_wp2_with fail
    go_end0
    exact ⟨rfl, rfl⟩
set_option maxRecDepth 100000 in
set_option maxHeartbeats 1000000 in
theorem zero_pdq (w : World) (A : Option Addr) (c : Nat) (n : Int) : Calls Try.prog 38 #[.slice A 0 c, .int .i64 0, .int .i64 0, .int .i64 n] w fun e w' => e = .returned (.tuple #[]) ∧ w' = w := by
  go_enter Try.func38, Try.ntmps38
  go_wp2_with fail
  go_loopw [1, 2, 8, 9] (fun a b c d wr => a = .int .i64 0 ∧ b = .int .i64 0 ∧ c = .bool true ∧ d = .bool true ∧ wr = w) (fun _ _ _ _ _ => 0)
  case atStart => exact ⟨rfl, rfl, rfl, rfl, rfl⟩
  case round =>
    obtain ⟨rfl, rfl, rfl, rfl, rfl⟩ := hrel
    go_wp2_with fail
    refine (zero_ins _ _ _).mono ?_
    rintro e w1 ⟨rfl, rfl⟩
    go_wp2_with fail
    refine bodyPost_ret (v := .tuple #[]) ?_ rfl ?_
    · simp [results, Try.results38]
    · exact ⟨rfl, rfl⟩
theorem zero_sort (w : World) (A : Option Addr) (c : Nat) : Calls Try.prog 35 #[.slice A 0 c] w fun e w' => e = .returned (.tuple #[]) ∧ w' = w := by
  have hL := len64_c 0 w (by omega) (by omega)
  have hLEN : Calls Try.prog 39 #[.int .u64 0] w fun e w' => e = .returned (.int .i64 (Lib.bitLen (Int.toNat 0))) ∧ w' = w := by
    have HL := Lib.hid hL
    clear hL
    go_enter Try.func39, Try.ntmps39
    go_wp2_with fail
    refine HL.out.mono ?_
    rintro e w1 ⟨rfl, hw1⟩
    rw [hw1]
    go_wp2_with fail
    go_ret
    exact ⟨rfl, rfl⟩
  clear hL
  go_enter Try.func35, Try.ntmps35
  go_wp2_with fail
  refine hLEN.mono ?_
  rintro e w1 ⟨rfl, hw1⟩
  rw [hw1]
  go_wp2_with fail
  refine (zero_pdq _ _ _ _).mono ?_
  rintro e w2 ⟨rfl, rfl⟩
  go_wp2_with fail
  go_end0
  exact ⟨rfl, rfl⟩
end Go.Proofs.Ytpgklhbbjbdejaa
