/-
  CONTRACT of Print.
-/
import Derived.Test.YtimopkmlcjdgfaaDoorLpr
namespace Go.Proofs.YtimopkmlcjdgfaaDoor
set_option linter.unusedSimpArgs false
set_option linter.unusedVariables false
open Go Go.RowKit Go.Shelf

def mayK (x : Tk) : Bool := mayT x.k x.t x.n x.a
/-- The tokens as they are written, or that one may not be. -/
def prt (l : List Tk) : Option (List UInt8) := if l.all mayK then some (Lib.join (l.map wrt) [32]) else none
def PrtQ (l : List Tk) (w : World) (e : Ending) (w' : World) : Prop := e = .returned (match prt l with
    | some s => .tuple #[.string (strOf s), .int .i64 0]
    | none => .tuple #[.string ⟨#[]⟩, .int .i64 1]) ∧ Fr (fun _ => False) w w'
theorem itoa_short (n : Int) (h0 : -9223372036854775808 ≤ n) (h1 : n ≤ 9223372036854775807) : (Lib.itoa n).length ≤ 10000000 := by
  have := Lib.itoa_length_le n h0 h1
  omega
theorem esc_le : ∀ s : List UInt8, (esc s).length ≤ 2 * s.length
  | [] => Nat.le_refl _
  | b :: s => by
    have ih := esc_le s
    show ((if b == 34 || b == 92 then [92, b] else [b]) ++ esc s).length ≤ _
    rw [List.length_append, List.length_cons]
    split
    · simp only [List.length_cons, List.length_nil]; omega
    · simp only [List.length_cons, List.length_nil]; omega
theorem wrt_le (x : Tk) (h : TkOk x) : (wrt x).length ≤ 10000000 := by
  have h1 := esc_le x.t
  have h2 := h.t
  unfold wrt
  split
  · simp only [List.length_cons, List.length_append, List.length_nil]; omega
  · split
    · exact itoa_short _ h.n0 h.n1
    · omega
/-- Where Print stands. -/
structure PrS (l : List Tk) (w W : World) (A : Option Addr) (c i : Nat) : Prop where
  row : W.ownsRow 0 9 1 (.slice A i c) i (strs ((l.take i).map wrt))
  own : ∀ q, (Value.slice A i c).ownBlock = some q → w.heap.size ≤ q
  fr : Fr (fun _ => False) w W
  may : ∀ (j : Nat) (h : j < l.length), j < i → mayK l[j] = true
section
variable {l : List Tk} {w W W1 W2 : World} {A A' : Option Addr} {c c' i : Nat}
theorem PrS.far (h : PrS l w W A c i) (hf : Fr (fun _ => False) W W1) : PrS l w W1 A c i := ⟨own_fr h.row hf (fun _ _ h => h), h.own, h.fr.trans hf (fun _ _ h => h), h.may⟩
theorem PrS.add (h : PrS l w W A c i) (hi : i < l.length) (hf : Fr (fun _ => False) W W1) (hm : mayK l[i] = true)
    (o : W2.ownsRow 0 9 1 (.slice A' (i + 1) c') (i + 1) (strs ((l.take i).map wrt) ++ [.string (strOf (wrt l[i]))])) (f : Fr (fun q => (Value.slice A i c).ownBlock = some q) W1 W2)
    (hn : (Value.slice A' (i + 1) c').ownBlock = (Value.slice A i c).ownBlock ∨ (Value.slice A' (i + 1) c').ownBlock = some W1.heap.size) : PrS l w W2 A' c' (i + 1) := by
  have h1 := h.fr.size
  have h2 := hf.size
  refine ⟨?_, ?_, (h.fr.trans hf (fun _ _ h => h)).trans f (fun q hq e => by have := h.own q e; omega), ?_⟩
  · have e : (l.take (i + 1)).map wrt = (l.take i).map wrt ++ [wrt l[i]] := by
      rw [List.take_add_one, List.getElem?_eq_getElem hi, List.map_append]
      rfl
    rw [e, strs_append]
    exact o
  · intro q hq
    rcases hn with e | e
    · exact h.own q (e ▸ hq)
    · rw [e] at hq
      injection hq with hq
      omega
  · intro j hj hji
    rcases Nat.lt_or_ge j i with hj2 | hj2
    · exact h.may j hj hj2
    · obtain rfl : j = i := by omega
      exact hm
end
theorem prt_yes {l : List Tk} (h : ∀ (j : Nat) (h : j < l.length), mayK l[j] = true) : prt l = some (Lib.join (l.map wrt) [32]) := by
  unfold prt
  rw [if_pos]
  rw [List.all_eq_true]
  intro x hx
  obtain ⟨j, hj, rfl⟩ := List.getElem_of_mem hx
  exact h j hj
theorem prt_no {l : List Tk} {j : Nat} (hj : j < l.length) (h : mayK l[j] = false) : prt l = none := by
  unfold prt
  rw [if_neg]
  rw [List.all_eq_true]
  intro e
  have := e _ (List.getElem_mem hj)
  rw [h] at this
  cases this
set_option maxRecDepth 100000 in
set_option maxHeartbeats 8000000 in
theorem print_c (w : World) {A : Option Addr} {c : Nat} {l : List Tk} (hp : RdT w A l) (hl : l.length ≤ 1000000) (hok : ∀ x ∈ l, TkOk x) (hL : LaidOk w) :
    Calls Tryd.prog 15 #[.slice A l.length c] w (PrtQ l w) := by
  have HP := Lib.hid hp
  have HL := Lib.hid hL
  have HOK := Lib.hid hok
  obtain ⟨j0, hj0, jz0', jz1', jz2'⟩ := info_parts s_info
  have HJ0 := Lib.hid hj0
  clear hp hL hok hj0
  go_enter Tryd.func15, Tryd.ntmps15
  go_wp2_with fail
  go_loopw [4, 9] (fun ov iv W => ∃ (B : Option Addr) (d i : Nat), i ≤ l.length ∧ ov = .slice B i d ∧ iv = .int .i64 (i : Int) ∧ Hid (PrS l w W B d i)) (fun _ iv _ => l.length - (intOf iv).toNat)
  case atStart => exact ⟨none, 0, 0, Nat.zero_le _, rfl, rfl, World.ownsRow_nil _ _ _ _, fun q hq => by simp [Value.ownBlock] at hq, Fr.refl _ _, fun j _ h => absurd h (Nat.not_lt_zero _)⟩
  case round =>
    obtain ⟨B, d, i, hi, rfl, rfl, S⟩ := hrel
    by_cases hlt : i < l.length
    case neg =>
      obtain rfl : i = l.length := by omega
      have hdl : decide ((l.length : Int) < (l.length : Int)) = false := decide_eq_false (by omega)
      have hdl' : decide (l.length < l.length) = false := decide_eq_false (by omega)
      have HY := Lib.hid (prt_yes (l := l) (fun j hj => S.out.may j hj hj))
      have ho := S.out.row
      rw [List.take_length] at ho
      have hlen : (l.map wrt).length = l.length := List.length_map ..
      have JN := Lib.hid (join_c wr (A := B) (c := d) (xs := l.map wrt) (by rw [hlen]; exact ho) (by rw [hlen]; exact hl) (fun x hx => by
        obtain ⟨y, hy, rfl⟩ := List.mem_map.1 hx
        exact wrt_le y (HOK.out y hy)))
      rw [hlen] at JN
      clear ho
      go_wp2_with (
        go_at_call 32
        refine JN.out.mono ?_
        rintro e W2 ⟨rfl, f2⟩
        have F2 := Lib.hid f2
        clear f2)
      go_ret2
      unfold PrtQ
      rw [HY.out]
      exact ⟨rfl, S.out.fr.trans F2.out (fun _ _ h => h)⟩
    case pos =>
    have hdl : decide ((i : Int) < (l.length : Int)) = true := decide_eq_true (by omega)
    have hdl' : decide (i < l.length) = true := decide_eq_true hlt
    obtain ⟨b, off, hA, hrg⟩ := (HP.out.far S.out.fr).at_ hlt
    subst hA
    have hm0 : l[i] ∈ l := List.getElem_mem hlt
    obtain ⟨x, hx⟩ : ∃ x, l[i] = x := ⟨_, rfl⟩
    have HX := Lib.hid hx
    have hxok := HOK.out _ hm0
    rw [hx] at hrg hxok
    have HG := Lib.hid hrg
    clear hrg hx hm0
    have MY := Lib.hid (fun W hW => may_c W x.k x.t x.n x.a hxok.t hW)
    have WR := Lib.hid (fun W hW => written_c W x hxok hW)
    have hwl := wrt_le x hxok
    obtain ⟨C, hC⟩ : ∃ C, tk4 x = C := ⟨_, rfl⟩
    obtain ⟨z, hz⟩ : ∃ z, mayK x = z := ⟨_, rfl⟩
    have HZ : Hid (mayK l[i] = z) := Lib.hid (by rw [HX.out, hz])
    obtain ⟨u, hu⟩ : ∃ u, wrt x = u := ⟨_, rfl⟩
    have HU : Hid (wrt l[i] = u) := Lib.hid (by rw [HX.out, hu])
    have HS : Hid ((Tryd.prog.info? 32).map (·.size) = some C.size) := Lib.hid (by rw [← hC]; exact tsize)
    have HO := Lib.hid (oneT x)
    have H4 : Hid (C.size = 4) := Lib.hid (by rw [← hC]; rfl)
    change Hid (∀ W, LaidOk W → Calls Tryd.prog 13 #[.agg (tk4 x)] W fun e w' => e = .returned (.bool (mayK x)) ∧ Fr (fun _ => False) W w') at MY
    rw [hC] at HG HO MY WR
    rw [hz] at MY
    rw [hu] at WR hwl
    clear hC hz hu HX
    have HLr := Lib.hid (HL.out.far S.out.fr)
    go_upto_region 5 with (first
      | (refine wpList_load_val rfl 32 _ rfl b _ rfl C HG.out _ Tryd.underlying32 rfl HS.out ?_)
      | (refine wpList_store_blk rfl 32 _ _ rfl wr.heap.size C rfl rfl (Blk.new wr 32 _) H4.out HS.out HO.out ?_
         intro W1 q1 f1
         have F1 := Lib.hid (((Fr.refl (fun _ => False) wr).alloc _).trans f1 (fun i hi h => by have : i = wr.heap.size := h; omega))
         have Q1 := Lib.hid q1
         clear q1 f1))
    generalize wr.heap.size = bx at *
    have RG1 := Lib.hid (blk_all Q1.out)
    cases z with
    | false =>
      have HN := Lib.hid (prt_no hlt HZ.out)
      go_wp2_with (first
        | (refine wpList_load_val rfl 32 _ rfl bx _ rfl C RG1.out _ Tryd.underlying32 rfl HS.out ?_)
        | (go_at_call 13
           refine (MY.out W1 (HLr.out.far F1.out)).mono ?_
           rintro e W2 ⟨rfl, f2⟩
           have F2 := Lib.hid f2
           clear f2))
      go_ret2
      unfold PrtQ
      rw [HN.out]
      exact ⟨rfl, (S.out.fr.trans F1.out (fun _ _ h => h)).trans F2.out (fun _ _ h => h)⟩
    | true =>
      go_upto_region 7 with (first
        | (refine wpList_load_val rfl 32 _ rfl bx _ rfl C RG1.out _ Tryd.underlying32 rfl HS.out ?_)
        | (go_at_call 13
           refine (MY.out W1 (HLr.out.far F1.out)).mono ?_
           rintro e W2 ⟨rfl, f2⟩
           have F2 := Lib.hid f2
           clear f2))
      have RG2 := Lib.hid (blk_all (keepB Q1.out F2.out))
      have HL2 := Lib.hid ((HLr.out.far F1.out).far F2.out)
      have S2 := Lib.hid ((S.out.far F1.out).far F2.out)
      clear RG1 Q1 MY HLr S
      go_upto_region 8 with (first
        | (refine wpList_load_val rfl 32 _ rfl bx _ rfl C RG2.out _ Tryd.underlying32 rfl HS.out ?_)
        | (go_at_call 31
           refine (WR.out W2 HL2.out).mono ?_
           rintro e W3 ⟨rfl, f3⟩
           have S3 := Lib.hid (S2.out.far f3)
           have FA := Lib.hid ((Fr.refl (fun _ => False) W3).alloc (.cells #[.string (strOf u)] 9))
           have KO : Hid ((W3.alloc (.cells #[.string (strOf u)] 9)).ownsRow 0 9 1 (.slice B i d) i (strs ((l.take i).map wrt))) := Lib.hid (own_fr S3.out.row FA.out (fun _ _ h => h))
           clear f3)
        | (at_builtin
           refine wpList_app rfl (.tmp 16) (.tmp 19) _ _ rfl 0 9 j0 _ 1 16 Tryd.underlying37 HJ0.out jz0' jz1' jz2' rfl (.slice B i d) i (strs ((l.take i).map wrt)) rfl KO.out _ 1 _ rfl (src_s (Blk.new W3 9 #[.string (strOf u)])) (by omega) (by unfold maxLen; omega) (Nat.zero_le _) ?_
           intro v7 W7 o7 f7 hn7
           obtain ⟨A7, c7, rfl, -, -⟩ := own_slice o7
           have O7 := Lib.hid o7
           have F7 := Lib.hid f7
           have N7 := Lib.hid hn7
           clear o7 f7 hn7))
      have S7 := Lib.hid (S3.out.add hlt FA.out HZ.out (by rw [HU.out]; exact O7.out) F7.out N7.out)
      go_wp2_with fail
      go_roundw
      case rel => exact ⟨A7, c7, i + 1, by omega, rfl, by go_num, S7.out⟩
      case measure => simp [intOf]; omega
end Go.Proofs.YtimopkmlcjdgfaaDoor
