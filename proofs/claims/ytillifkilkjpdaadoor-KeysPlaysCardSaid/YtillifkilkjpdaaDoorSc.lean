/-
  THE ITERATOR of Scan: what it hands to whatever loop.
-/
import Derived.Test.YtillifkilkjpdaaDoorKey3
import Derived.Test.YtillifkilkjpdaaDoorRng
import Derived.Shelf.Abstract
import Derived.Shelf.RegionOpen
import Derived.OwnWalkIn
import Derived.TacticsInMore
import Derived.LoopNIn
import Derived.LoopIn
namespace Go.Proofs.YtillifkilkjpdaaDoor
set_option linter.unusedSimpArgs false
set_option linter.unusedVariables false
open Go Go.RowKit Go.Shelf
attribute [local go_sem] Oper.semAt_some

/-- Where a Scan ends. -/
def scE (m : Ents) (to : List UInt8) : Nat := if to = [] then m.length else pos m to
def scK (m : Ents) (fr to : List UInt8) : Nat := Nat.min (pos m fr) (scE m to)
/-- What a Scan goes over. -/
def scn (m : Ents) (fr to : List UInt8) : Ents := (m.take (scE m to)).drop (scK m fr to)
theorem scE_le (m : Ents) (to : List UInt8) : scE m to ≤ m.length := by
  unfold scE
  split
  · exact Nat.le_refl _
  · exact pos_le m to
theorem scn_len (m : Ents) (fr to : List UInt8) : (scn m fr to).length = scE m to - scK m fr to := by
  unfold scn
  rw [List.length_drop, List.length_take, Nat.min_eq_left (scE_le m to)]
theorem scn_le (m : Ents) (fr to : List UInt8) : (scn m fr to).length ≤ m.length := by
  rw [scn_len]
  have := scE_le m to
  omega

def encE (y : List UInt8 × Int) : Array Value := #[.string (strOf y.1), .int .i64 y.2]
theorem strOf_ne {l : List UInt8} (h : l ≠ []) : (strOf l == ⟨#[]⟩) = false := by
  show (l.toArray == #[]) = false
  rw [beq_eq_false_iff_ne]
  intro h2
  exact h (by simpa using h2)
/-- A slice that reads as a row of entries. -/
def SegV (w : World) (v : Value) (m : Ents) : Prop := ∃ A c, v = .slice A m.length c ∧ Rd w A (m.length * 2) (ec m)
theorem clone_s (w : World) (v : Value) (m : Ents) (h : SegV w v m) (hm : m.length ≤ 100000) : Calls Tryd.prog 29 #[v] w fun e w' => ∃ v', e = .returned v' ∧ OwE w' w.heap.size v' m ∧ Fr (fun _ => False) w w' := by
  obtain ⟨A, c, rfl, hr⟩ := h
  exact clone_c w A c m hr hm
theorem seg_nil (w : World) (A : Option Addr) (c : Nat) (m : Ents) (h : m.length = 0) : SegV w (.slice A 0 c) m := by
  have : m = [] := List.eq_nil_of_length_eq_zero h
  subst this
  exact ⟨A, c, rfl, Rd.none_ _ _⟩
theorem sizeOf_entry (W : World) : (sizeOf (Tryd.prog.elem 59)).run Tryd.prog W = .ok 2 W := by
  have e : Tryd.prog.elem 59 = 68 := by kernel_rfl
  rw [e]
  obtain ⟨i0, hi0, hz0, hz1, hz2⟩ := info_parts entry_info
  simp [sizeOf, typeInfo, hi0, hz1]
theorem slice_mid (A : Option Addr) (n c k e : Nat) (hk : k ≤ e) (he : e ≤ c) :
    ∃ AD, (e - k = 0 ∨ AD = A.map (fun x => x.add (k * 2))) ∧ ∀ W, (Instr.sliceAt 59 (.slice A n c) (some (.int .i64 (k : Int))) (some (.int .i64 (e : Int))) none).run Tryd.prog W = .ok (.slice AD (e - k) (c - k)) W := by
  refine ⟨if c = k then A else A.map (fun x => x.add (k * 2)), ?_, fun W => ?_⟩
  · by_cases h : c = k
    · exact .inl (by omega)
    · rw [if_neg h]; exact .inr rfl
  · have ht : Tryd.prog.underlying 59 = some (.slice (Tryd.prog.elem 59)) := by kernel_rfl
    rw [run_sliceAt_slice _ _ _ _ _ _ ht, run_slice_lh _ _ _ _ _ ht .i64 .i64 (k : Int) (e : Int) (by omega) (by omega) (by omega), sizeOf_entry]
    simp [sliced, Result.andThen]
theorem seg_mid {w : World} {A AD : Option Addr} {m : Ents} (hr : Rd w A (m.length * 2) (ec m)) (c' S E : Nat) (hE : E ≤ m.length) (hS : S ≤ E) (h : E - S = 0 ∨ AD = A.map (fun x => x.add (S * 2))) : SegV w (.slice AD (E - S) c') ((m.take E).drop S) := by
  have hl : ((m.take E).drop S).length = E - S := by rw [List.length_drop, List.length_take, Nat.min_eq_left hE]
  by_cases h0 : E - S = 0
  · rw [h0]
    exact seg_nil _ _ _ _ (by rw [hl, h0])
  · have h := h.resolve_left h0
    subst h
    refine ⟨_, _, by rw [hl], ?_⟩
    have h1 := hr.take (k := E * 2) (by omega)
    have h2 := h1.cut (k := S * 2) (cap := E * 2) (by omega) (by omega)
    rw [if_neg (by omega), ← ec_take, ← ec_drop] at h2
    rw [hl, Nat.sub_mul]
    exact h2

set_option maxRecDepth 100000 in
set_option maxHeartbeats 4000000 in
theorem scan1_it (n : Nat) (hn : 1 ≤ n) (L gx gf gt : Nat) (x : Value) (fr to : List UInt8) (m : Ents) (W1 : World) (hx : XR W1 x m) (hs : Srt m) (hm : m.length ≤ 100000)
    (h1 : Blk W1 gx 25 #[x]) (h2 : Blk W1 gf 9 #[.string (strOf fr)]) (h3 : Blk W1 gt 9 #[.string (strOf to)]) :
    IteratesB Tryd.prog n 44 #[.pointer (some ⟨gx, 0, none⟩), .pointer (some ⟨gf, 0, none⟩), .pointer (some ⟨gt, 0, none⟩)] encE (fun pre y => (scn m fr to)[pre.length]? = some y) (fun xs => xs.length = (scn m fr to).length) L W1 := by
  intro J Jx hJ hJx hY hJ0
  have HX := Lib.hid hx
  have HS := Lib.hid hs
  have HJ := Lib.hid hJ
  have HJX := Lib.hid hJx
  have HY := Lib.hid hY
  have HJ0 := Lib.hid hJ0
  have H1 := Lib.hid h1
  have H2 := Lib.hid h2
  have H3 := Lib.hid h3
  have x1 : W1.cell? ⟨gx, 0, none⟩ = some x := h1.cell 0
  have x2 : W1.cell? ⟨gf, 0, none⟩ = some (.string (strOf fr)) := h2.cell 0
  clear hx hs hJ hJx hY hJ0 h1 h2 h3
  refine callsIn_of_wp Tryd.func44 rfl trivial ?_ rfl
  simp only [Tryd.ntmps44, List.size_toArray, List.length_cons, List.length_nil, Nat.reduceAdd, Nat.reduceSub, Array.replicate_succ, Array.replicate_zero, List.push_toArray, List.append_toArray, List.nil_append, List.cons_append]
  gi_wp2_with fail
  refine ⟨trivial, ?_⟩
  refine (callsIn_wide.2 (find_c W1 x m fr HX.out (by omega) HS.out)).mono ?_
  rintro e w2 ⟨rfl, f2⟩
  have F2 := Lib.hid f2
  have x1 : w2.cell? ⟨gx, 0, none⟩ = some x := (H1.out.fr f2 (fun h => h)).cell 0
  have x3 : w2.cell? ⟨gt, 0, none⟩ = some (.string (strOf to)) := (H3.out.fr f2 (fun h => h)).cell 0
  clear f2
  gi_wp2_with fail
  refine ⟨trivial, ?_⟩
  refine (callsIn_wide.2 (len_c w2 x m (HX.out.far F2.out))).mono ?_
  rintro e wv ⟨rfl, rfl⟩
  obtain ⟨S, hS⟩ : ∃ S, pos m fr = S := ⟨_, rfl⟩
  rw [hS]
  obtain ⟨E, hE⟩ : ∃ E, scE m to = E := ⟨_, rfl⟩
  have hEn : E ≤ m.length := hE ▸ scE_le m to
  have HSS := Lib.hid hS
  have HE := Lib.hid hE
  clear hS hE
  by_cases ht : to = []
  · have hne : (strOf to).toList.isEmpty = true := by rw [strOf_toList, ht]; rfl
    have hEE : m.length = E := by rw [← HE.out, scE, if_pos ht]
    rw [hEE]
    clear ht
    gi_wp2_with fail
    have FW := Lib.hid F2.out
    have x1 : wv.cell? ⟨gx, 0, none⟩ = some x := (H1.out.fr FW.out (fun h => h)).cell 0
    gi_wp2_with fail
    refine ⟨trivial, ?_⟩
    refine (callsIn_wide.2 (all_c wv x m (HX.out.far FW.out))).mono ?_
    rintro e w4 ⟨rfl, A, c, rfl, h3, h4, h5⟩
    have HR := Lib.hid h3
    have HC2 := Lib.hid h5
    obtain ⟨K, hK⟩ : ∃ K, scK m fr to = K := ⟨_, rfl⟩
    have hKE : K ≤ E := by rw [← hK, scK, HE.out]; exact Nat.min_le_right _ _
    have hmin : (if (E : Int) < (S : Int) then (E : Int) else (S : Int)) = (K : Int) := by
      rw [← hK, scK, HE.out, HSS.out]
      simp only [Nat.min_def]
      split <;> split <;> omega
    have hmin2 : (if E < S then (E : Int) else (S : Int)) = (K : Int) := by
      rw [← hK, scK, HE.out, HSS.out]
      simp only [Nat.min_def]
      split <;> split <;> omega
    have HSEG : Hid (∀ AD c', (E - K = 0 ∨ AD = A.map (fun x => x.add (K * 2))) → SegV w4 (.slice AD (E - K) c') (scn m fr to)) := by
      intro AD c' had
      have h := seg_mid HR.out c' K E hEn hKE had
      unfold scn
      rw [HE.out, hK]
      exact h
    clear h3 h5 x1 hK
    rcases Decidable.em (c = K) with hck | hck
    all_goals
      gi_wp2_with fail
      refine ⟨trivial, ?_⟩
      refine (callsIn_wide.2 (clone_s w4 _ (scn m fr to) ?seg (Nat.le_trans (scn_le m fr to) hm))).mono ?_
      case seg => first | exact HSEG.out _ _ (.inr rfl) | exact HSEG.out _ _ (.inl (by omega))
      rintro e w5 ⟨v5, rfl, ho, f5⟩
      clear hmin hmin2
      as_aux_lemma =>
        obtain ⟨B5, hB5, hB5'⟩ : ∃ B5, W1.heap.size ≤ B5 ∧ OwE w5 B5 v5 (scn m fr to) := ⟨_, FW.out.size, ho⟩
        have F5 : Hid (Fr (fun _ => False) W1 w5) := FW.out.trans f5 (fun _ _ h => h)
        obtain ⟨A5, c5, rfl, hc5, hc5'⟩ := own_slice hB5'
        have HCM5 := Lib.hid hc5'
        have HL5 := Lib.hid (Nat.le_trans (scn_le m fr to) hm)
        obtain ⟨G, hG⟩ : ∃ G, scn m fr to = G := ⟨_, rfl⟩
        rw [hG] at hB5' hc5 HL5 ⊢
        have HG := Lib.hid hG
        obtain ⟨q, hq⟩ : ∃ q, G.length = q := ⟨_, rfl⟩
        have HO := Lib.hid hB5'
        have J5 := Lib.hid (HJ.out (fun _ => False) (fun k => (Value.slice A5 q c5).ownBlock = some k) [] W1 w5 HJ0.out F5.out (fun k hk => .inr (by rw [← hq] at hk; have := World.ownsRow.lt hB5' k hk; exact ⟨by omega, this.2⟩)))
        rw [hq] at hc5 HL5 ⊢
        have HQ := Lib.hid hq
        clear hG hq hB5' ho f5 hc5'
        gi_wp2_with fail
        gi_loopw [35] (fun u wr => ∃ i : Nat, u = .int .i64 (i : Int) ∧ i ≤ q ∧ Hid (J (fun k => (Value.slice A5 q c5).ownBlock = some k) (G.take i) wr) ∧ Hid (OwE wr B5 (.slice A5 q c5) G)) (fun u _ => q - (intOf u).toNat)
        case atStart => exact ⟨0, rfl, Nat.zero_le _, J5.out, by have := HO.out; rw [HQ.out] at this; exact this⟩
        case round =>
          obtain ⟨i, rfl, hi, hj, ho⟩ := hrel
          by_cases hlt : i < q
          · have hdl : decide ((i : Int) < (q : Int)) = true := decide_eq_true (by omega)
            obtain ⟨b, c', cur, he, hBb, hb, -, -, hcs, ht⟩ := own_blk ho.out (by rw [HQ.out]; omega)
            cases he
            have hGi : i < G.length := by rw [HQ.out]; exact hlt
            have y1 : wr.cell? ⟨b, i * 2, none⟩ = some (.string (strOf G[i].1)) := by
              rw [hb.cell, ← Array.getElem?_toList]
              have := ec_key G i hGi
              rw [← ht, List.getElem?_take, if_pos (by omega)] at this
              exact this
            have y2 : wr.cell? ⟨b, i * 2 + 1, none⟩ = some (.int .i64 G[i].2) := by
              rw [hb.cell, ← Array.getElem?_toList]
              have := ec_val G i hGi
              rw [← ht, List.getElem?_take, if_pos (by omega)] at this
              exact this
            obtain ⟨kk, hkk⟩ : ∃ kk, G[i].1 = kk := ⟨_, rfl⟩
            obtain ⟨vv, hvv⟩ : ∃ vv, G[i].2 = vv := ⟨_, rfl⟩
            rw [hkk] at y1
            rw [hvv] at y2
            have HGI : Hid (G[i]? = some (kk, vv)) := by show _ = _; rw [List.getElem?_eq_getElem hGi, ← hkk, ← hvv]
            have hiq : (i : Int) < G.length := by omega
            clear hb hcs ht hkk hvv
            have J6 := Lib.hid (HJ.out _ _ _ wr (wr.alloc (.cells #[.string (strOf kk), .int .i64 vv] 68)) hj.out (((Fr.refl (fun _ => False) wr).alloc _).mono (fun _ _ h => h.elim)) (fun k hk => .inl hk))
            have O6 := Lib.hid (own_fr ho.out ((Fr.refl (fun _ => False) wr).alloc (.cells #[.string (strOf kk), .int .i64 vv] 68)) (fun _ _ h => h))
            obtain ⟨fn, tmps, assign, body, hy, hR⟩ := HY.out _ (G.take i) (kk, vv) _ J6.out (by rw [List.length_take, Nat.min_eq_left (by omega)]; exact HG.out ▸ HGI.out)
            have hR := Lib.hid hR
            have hy : (Instr.yield L #[.string (strOf kk), .int .i64 vv]).run Tryd.prog (wr.alloc (.cells #[.string (strOf kk), .int .i64 vv] 68)) = .ok (.round L fn tmps assign body) (wr.alloc (.cells #[.string (strOf kk), .int .i64 vv] 68)) := hy
            gi_wp2_with fail
            refine hR.out.mono ?_
            rintro e w7 ⟨⟨rfl, j7⟩ | ⟨rfl, j7⟩, f7⟩
            · have O7 := Lib.hid (own_fr O6.out f7 (fun k hk h => h hk))
              have J7 := Lib.hid j7
              have hL5 := HL5.out
              clear hy j7 f7 y1 y2
              gi_wp2_with fail
              refine ⟨⟨i + 1, by push_cast; rfl, by omega, ?_, O7.out⟩, by simp only [intOf]; omega⟩
              rw [List.take_add_one, HGI.out]
              exact J7.out
            · have J7 := Lib.hid j7
              clear hy j7 f7 y1 y2
              gi_wp2_with fail
              refine bodyPost_ret (results_none rfl _ _ _) rfl ?_
              exact ⟨⟨_, rfl⟩, .inr ⟨_, HJX.out _ _ _ _ _ J7.out (Fr.refl _ _) (fun k hk => hk.elim)⟩⟩
          · have hdl : decide ((i : Int) < (q : Int)) = false := decide_eq_false (by omega)
            have hqi : q = i := by omega
            subst hqi
            gi_wp2_with fail
            go_end0
            exact ⟨⟨_, rfl⟩, .inl ⟨G, by rw [HG.out], HJ.out _ _ _ _ _ (by have := hj.out; rw [← HQ.out, List.take_length] at this; exact this) (Fr.refl _ _) (fun k hk => hk.elim)⟩⟩
  · have hne : (strOf to).toList.isEmpty = false := by rw [strOf_toList]; cases to; exact absurd rfl ht; rfl
    gi_wp2_with fail
    refine ⟨trivial, ?_⟩
    refine (callsIn_wide.2 (find_c wv x m to (HX.out.far F2.out) (by omega) HS.out)).mono ?_
    rintro e wz ⟨rfl, f3⟩
    have FW := Lib.hid (F2.out.trans f3 (fun _ _ h => h))
    have hEE : pos m to = E := by rw [← HE.out, scE, if_neg ht]
    rw [hEE]
    clear f3 x1 x3
    have x1 : wz.cell? ⟨gx, 0, none⟩ = some x := (H1.out.fr FW.out (fun h => h)).cell 0
    gi_wp2_with fail
    refine ⟨trivial, ?_⟩
    refine (callsIn_wide.2 (all_c wz x m (HX.out.far FW.out))).mono ?_
    rintro e w4 ⟨rfl, A, c, rfl, h3, h4, h5⟩
    have HR := Lib.hid h3
    have HC2 := Lib.hid h5
    obtain ⟨K, hK⟩ : ∃ K, scK m fr to = K := ⟨_, rfl⟩
    have hKE : K ≤ E := by rw [← hK, scK, HE.out]; exact Nat.min_le_right _ _
    have hmin : (if (E : Int) < (S : Int) then (E : Int) else (S : Int)) = (K : Int) := by
      rw [← hK, scK, HE.out, HSS.out]
      simp only [Nat.min_def]
      split <;> split <;> omega
    have hmin2 : (if E < S then (E : Int) else (S : Int)) = (K : Int) := by
      rw [← hK, scK, HE.out, HSS.out]
      simp only [Nat.min_def]
      split <;> split <;> omega
    have HSEG : Hid (∀ AD c', (E - K = 0 ∨ AD = A.map (fun x => x.add (K * 2))) → SegV w4 (.slice AD (E - K) c') (scn m fr to)) := by
      intro AD c' had
      have h := seg_mid HR.out c' K E hEn hKE had
      unfold scn
      rw [HE.out, hK]
      exact h
    clear h3 h5 x1 hK
    rcases Decidable.em (c = K) with hck | hck
    all_goals
      gi_wp2_with fail
      refine ⟨trivial, ?_⟩
      refine (callsIn_wide.2 (clone_s w4 _ (scn m fr to) ?seg (Nat.le_trans (scn_le m fr to) hm))).mono ?_
      case seg => first | exact HSEG.out _ _ (.inr rfl) | exact HSEG.out _ _ (.inl (by omega))
      rintro e w5 ⟨v5, rfl, ho, f5⟩
      clear hmin hmin2
      as_aux_lemma =>
        obtain ⟨B5, hB5, hB5'⟩ : ∃ B5, W1.heap.size ≤ B5 ∧ OwE w5 B5 v5 (scn m fr to) := ⟨_, FW.out.size, ho⟩
        have F5 : Hid (Fr (fun _ => False) W1 w5) := FW.out.trans f5 (fun _ _ h => h)
        obtain ⟨A5, c5, rfl, hc5, hc5'⟩ := own_slice hB5'
        have HCM5 := Lib.hid hc5'
        have HL5 := Lib.hid (Nat.le_trans (scn_le m fr to) hm)
        obtain ⟨G, hG⟩ : ∃ G, scn m fr to = G := ⟨_, rfl⟩
        rw [hG] at hB5' hc5 HL5 ⊢
        have HG := Lib.hid hG
        obtain ⟨q, hq⟩ : ∃ q, G.length = q := ⟨_, rfl⟩
        have HO := Lib.hid hB5'
        have J5 := Lib.hid (HJ.out (fun _ => False) (fun k => (Value.slice A5 q c5).ownBlock = some k) [] W1 w5 HJ0.out F5.out (fun k hk => .inr (by rw [← hq] at hk; have := World.ownsRow.lt hB5' k hk; exact ⟨by omega, this.2⟩)))
        rw [hq] at hc5 HL5 ⊢
        have HQ := Lib.hid hq
        clear hG hq hB5' ho f5 hc5'
        gi_wp2_with fail
        gi_loopw [35] (fun u wr => ∃ i : Nat, u = .int .i64 (i : Int) ∧ i ≤ q ∧ Hid (J (fun k => (Value.slice A5 q c5).ownBlock = some k) (G.take i) wr) ∧ Hid (OwE wr B5 (.slice A5 q c5) G)) (fun u _ => q - (intOf u).toNat)
        case atStart => exact ⟨0, rfl, Nat.zero_le _, J5.out, by have := HO.out; rw [HQ.out] at this; exact this⟩
        case round =>
          obtain ⟨i, rfl, hi, hj, ho⟩ := hrel
          by_cases hlt : i < q
          · have hdl : decide ((i : Int) < (q : Int)) = true := decide_eq_true (by omega)
            obtain ⟨b, c', cur, he, hBb, hb, -, -, hcs, ht⟩ := own_blk ho.out (by rw [HQ.out]; omega)
            cases he
            have hGi : i < G.length := by rw [HQ.out]; exact hlt
            have y1 : wr.cell? ⟨b, i * 2, none⟩ = some (.string (strOf G[i].1)) := by
              rw [hb.cell, ← Array.getElem?_toList]
              have := ec_key G i hGi
              rw [← ht, List.getElem?_take, if_pos (by omega)] at this
              exact this
            have y2 : wr.cell? ⟨b, i * 2 + 1, none⟩ = some (.int .i64 G[i].2) := by
              rw [hb.cell, ← Array.getElem?_toList]
              have := ec_val G i hGi
              rw [← ht, List.getElem?_take, if_pos (by omega)] at this
              exact this
            obtain ⟨kk, hkk⟩ : ∃ kk, G[i].1 = kk := ⟨_, rfl⟩
            obtain ⟨vv, hvv⟩ : ∃ vv, G[i].2 = vv := ⟨_, rfl⟩
            rw [hkk] at y1
            rw [hvv] at y2
            have HGI : Hid (G[i]? = some (kk, vv)) := by show _ = _; rw [List.getElem?_eq_getElem hGi, ← hkk, ← hvv]
            have hiq : (i : Int) < G.length := by omega
            clear hb hcs ht hkk hvv
            have J6 := Lib.hid (HJ.out _ _ _ wr (wr.alloc (.cells #[.string (strOf kk), .int .i64 vv] 68)) hj.out (((Fr.refl (fun _ => False) wr).alloc _).mono (fun _ _ h => h.elim)) (fun k hk => .inl hk))
            have O6 := Lib.hid (own_fr ho.out ((Fr.refl (fun _ => False) wr).alloc (.cells #[.string (strOf kk), .int .i64 vv] 68)) (fun _ _ h => h))
            obtain ⟨fn, tmps, assign, body, hy, hR⟩ := HY.out _ (G.take i) (kk, vv) _ J6.out (by rw [List.length_take, Nat.min_eq_left (by omega)]; exact HG.out ▸ HGI.out)
            have hR := Lib.hid hR
            have hy : (Instr.yield L #[.string (strOf kk), .int .i64 vv]).run Tryd.prog (wr.alloc (.cells #[.string (strOf kk), .int .i64 vv] 68)) = .ok (.round L fn tmps assign body) (wr.alloc (.cells #[.string (strOf kk), .int .i64 vv] 68)) := hy
            gi_wp2_with fail
            refine hR.out.mono ?_
            rintro e w7 ⟨⟨rfl, j7⟩ | ⟨rfl, j7⟩, f7⟩
            · have O7 := Lib.hid (own_fr O6.out f7 (fun k hk h => h hk))
              have J7 := Lib.hid j7
              have hL5 := HL5.out
              clear hy j7 f7 y1 y2
              gi_wp2_with fail
              refine ⟨⟨i + 1, by push_cast; rfl, by omega, ?_, O7.out⟩, by simp only [intOf]; omega⟩
              rw [List.take_add_one, HGI.out]
              exact J7.out
            · have J7 := Lib.hid j7
              clear hy j7 f7 y1 y2
              gi_wp2_with fail
              refine bodyPost_ret (results_none rfl _ _ _) rfl ?_
              exact ⟨⟨_, rfl⟩, .inr ⟨_, HJX.out _ _ _ _ _ J7.out (Fr.refl _ _) (fun k hk => hk.elim)⟩⟩
          · have hdl : decide ((i : Int) < (q : Int)) = false := decide_eq_false (by omega)
            have hqi : q = i := by omega
            subst hqi
            gi_wp2_with fail
            go_end0
            exact ⟨⟨_, rfl⟩, .inl ⟨G, by rw [HG.out], HJ.out _ _ _ _ _ (by have := hj.out; rw [← HQ.out, List.take_length] at this; exact this) (Fr.refl _ _) (fun k hk => hk.elim)⟩⟩
end Go.Proofs.YtillifkilkjpdaaDoor
