/-
  CONTRACTS of an index's methods: New, Set, Delete, Copy.
-/
import Derived.Test.YtillifkilkjpdaaDoorKey2
namespace Go.Proofs.YtillifkilkjpdaaDoor
set_option linter.unusedSimpArgs false
set_option linter.unusedVariables false
open Go Go.RowKit

/-- An index of the call's own: its block and its entries. -/
structure IX (w : World) (B g : Nat) (v : Value) (m : Ents) : Prop where
  blk : Blk w g 61 #[v]
  base : B ≤ g
  own : OwE w B v m
  srt : Srt m
theorem IX.xr {w : World} {B g : Nat} {v : Value} {m : Ents} (h : IX w B g v m) : XR w (.pointer (some ⟨g, 0, none⟩)) m := by
  obtain ⟨A, c, rfl, hnc, hcm⟩ := own_slice h.own
  refine .inr ⟨g, A, c, rfl, h.blk, ?_, hnc, hcm⟩
  rcases h.own.2 with ⟨h1, h0⟩ | ⟨b, cap, cur, he, hbg, hg, hn2, hc2, hcs, ht⟩
  · have : m = [] := List.eq_nil_of_length_eq_zero h0
    subst this
    exact Rd.none_ _ _
  · cases he
    have := Rd.of_blk (n := m.length * 2) hg (by rw [hcs]; omega)
    rw [ht] at this
    exact this
theorem IX.lt {w : World} {B g : Nat} {v : Value} {m : Ents} (h : IX w B g v m) : ∀ k, v.ownBlock = some k → k < w.heap.size := fun k hk => (World.ownsRow.lt h.own k hk).2
theorem IX.ne {w : World} {B g : Nat} {v : Value} {m : Ents} (h : IX w B g v m) : v.ownBlock ≠ some g := own_blk_ne h.own h.blk (by decide)
theorem IX.fr {fp : Nat → Prop} {w w' : World} {B g : Nat} {v : Value} {m : Ents} (h : IX w B g v m) (hf : Fr fp w w') (hg : ¬ fp g) (hv : ∀ k, v.ownBlock = some k → ¬ fp k) : IX w' B g v m :=
  ⟨h.blk.fr hf hg, h.base, own_fr h.own hf hv, h.srt⟩
theorem IX.far {w w' : World} {B g : Nat} {v : Value} {m : Ents} (h : IX w B g v m) (hf : Fr (fun _ => False) w w') : IX w' B g v m := h.fr hf (fun h => h) (fun _ _ h => h)

/-- Set, as lists. -/
def mset (m : Ents) (key : List UInt8) (u : Int) : Ents := if fnd m key then m.take (pos m key) ++ (key, u) :: m.drop (pos m key + 1) else m.take (pos m key) ++ (key, u) :: m.drop (pos m key)
/-- Delete, as lists. -/
def mdel (m : Ents) (key : List UInt8) : Ents := if fnd m key then m.take (pos m key) ++ m.drop (pos m key + 1) else m
theorem srt_mid {m : Ents} (hs : Srt m) (key : List UInt8) (u : Int) (k : Nat) (h1 : pos m key ≤ k) (h2 : ∀ j (hj : j < m.length), k ≤ j → kl key m[j].1 = true) : Srt (m.take (pos m key) ++ (key, u) :: m.drop k) := by
  unfold Srt
  rw [List.pairwise_append, List.pairwise_cons]
  refine ⟨List.Pairwise.sublist (List.take_sublist _ _) hs, ⟨?_, List.Pairwise.sublist (List.drop_sublist _ _) hs⟩, ?_⟩
  · intro a ha
    obtain ⟨j, hj, rfl⟩ := List.mem_iff_getElem.1 ha
    rw [List.getElem_drop]
    exact h2 _ _ (by omega)
  · intro a ha b hb
    obtain ⟨j, hj, rfl⟩ := List.mem_iff_getElem.1 ha
    rw [List.getElem_take]
    rw [List.length_take] at hj
    have hka : kl m[j].1 key = true := by
      rw [srt_pos m hs key j (by omega)]
      exact decide_eq_true (by omega)
    rcases List.mem_cons.1 hb with rfl | hb
    · exact hka
    · obtain ⟨q, hq, rfl⟩ := List.mem_iff_getElem.1 hb
      rw [List.getElem_drop]
      rw [List.length_drop] at hq
      exact kl_trans _ _ _ hka (h2 (k + q) (by omega) (by omega))
theorem srt_mset {m : Ents} (hs : Srt m) (key : List UInt8) (u : Int) : Srt (mset m key u) := by
  unfold mset
  cases hf : fnd m key with
  | true =>
    have hlt := fnd_lt hs hf
    have he : m[pos m key].1 = key := by
      have := fnd_pos m hs key hlt
      rw [hf] at this
      exact of_decide_eq_true this.symm
    refine srt_mid hs key u _ (by omega) (fun j hj hk => ?_)
    have := (List.pairwise_iff_getElem.1 hs) (pos m key) j hlt hj (by omega)
    rwa [he] at this
  | false =>
    refine srt_mid hs key u _ (Nat.le_refl _) (fun j hj hk => ?_)
    have hp := srt_pos m hs key j hj
    rw [decide_eq_false (by omega)] at hp
    have hn : m[j].1 ≠ key := by
      intro he
      have : fnd m key = true := by
        simp only [fnd, List.any_eq_true, beq_iff_eq]
        exact ⟨_, List.getElem_mem hj, he⟩
      rw [hf] at this
      cases this
    cases hk2 : kl key m[j].1 with
    | true => rfl
    | false => exact absurd (kl_tot _ _ hp hk2) hn
theorem srt_mdel {m : Ents} (hs : Srt m) (key : List UInt8) : Srt (mdel m key) := by
  unfold mdel
  split
  · refine List.Pairwise.sublist ?_ hs
    have h := List.take_append_drop (pos m key) m
    have h2 : (m.drop (pos m key + 1)).Sublist (m.drop (pos m key)) := by
      rw [show m.drop (pos m key + 1) = (m.drop (pos m key)).drop 1 by rw [List.drop_drop]]
      exact List.drop_sublist _ _
    conv => rhs; rw [← h]
    exact (List.Sublist.refl _).append h2
  · exact hs
theorem mset_len (m : Ents) (key : List UInt8) (u : Int) : (mset m key u).length ≤ m.length + 1 := by
  have := pos_le m key
  unfold mset
  split <;> simp only [List.length_append, List.length_take, List.length_cons, List.length_drop] <;> omega
theorem mdel_len (m : Ents) (key : List UInt8) : (mdel m key).length ≤ m.length := by
  have := pos_le m key
  unfold mdel
  split
  · simp only [List.length_append, List.length_take, List.length_drop]
    omega
  · exact Nat.le_refl _

theorem ec_set : ∀ (m : Ents) (p : Nat) (u : Int) (hp : p < m.length) (key : List UInt8), m[p].1 = key → (ec m).set (p * 2 + 1) (.int .i64 u) = ec (m.take p ++ (key, u) :: m.drop (p + 1))
  | e :: m, 0, u, _, key, h => by
    simp only [List.getElem_cons_zero] at h
    subst h
    rfl
  | e :: m, p + 1, u, hp, key, h => by
    have := ec_set m p u (by simpa using hp) key (by simpa using h)
    rw [ec_cons, show (p + 1) * 2 + 1 = p * 2 + 1 + 1 + 1 by omega, List.set_cons_succ, List.set_cons_succ, this]
    rfl

theorem new_c (w : World) : Calls Tryd.prog 11 #[] w fun e w' => e = .returned (.pointer (some ⟨w.heap.size, 0, none⟩)) ∧ IX w' w.heap.size w.heap.size (.slice none 0 0) [] ∧ Fr (fun _ => False) w w' := by
  go_enter Tryd.func11, Tryd.ntmps11
  go_wp2_with fail
  go_ret
  exact ⟨rfl, ⟨Blk.new w 61 _, Nat.le_refl _, World.ownsRow_nil _ _ _ _, List.Pairwise.nil⟩, (Fr.refl _ w).alloc _⟩

set_option maxRecDepth 100000 in
/-- Set. -/
theorem set_c (w : World) (B g : Nat) (v : Value) (m : Ents) (key : List UInt8) (u : Int) (hx : IX w B g v m) (hm : m.length ≤ 100000) :
    Calls Tryd.prog 13 #[.pointer (some ⟨g, 0, none⟩), .string (strOf key), .int .i64 u] w fun e w' => e = .returned (.bool (!fnd m key)) ∧ ∃ v', IX w' B g v' (mset m key u) ∧ Fr (fun k => k = g ∨ v.ownBlock = some k) w w' ∧ (v'.ownBlock = v.ownBlock ∨ ∃ k, v'.ownBlock = some k ∧ w.heap.size ≤ k) := by
  have HX := Lib.hid hx
  have hgl := hx.blk.lt
  have x1 : w.cell? ⟨g, 0, none⟩ = some v := hx.blk.cell 0
  cases hf : fnd m key with
  | true =>
    have hlt := fnd_lt hx.srt hf
    have he : m[pos m key].1 = key := by
      have := fnd_pos m hx.srt key hlt
      rw [hf] at this
      exact of_decide_eq_true this.symm
    obtain ⟨p, hp⟩ : ∃ p, pos m key = p := ⟨_, rfl⟩
    obtain ⟨b, c, cur, rfl, hBb, hb, hnc, hcm, hcs, ht⟩ := own_blk hx.own (by omega)
    have hbl := hb.lt
    have hne : b ≠ g := fun h => hx.ne (by rw [← h]; rfl)
    have HB := Lib.hid hb
    have HF := Lib.hid hf
    have HP := Lib.hid hp
    have hpl : p < m.length := hp ▸ hlt
    obtain ⟨n, hn⟩ : ∃ n, m.length = n := ⟨_, rfl⟩
    rw [hn] at hpl hm hnc ht x1
    have HX1 := Lib.hid x1
    have HN := Lib.hid hn
    have HE := Lib.hid he
    have HCS := Lib.hid hcs
    have HT := Lib.hid ht
    have HCM := Lib.hid hcm
    clear x1 hb hx hf hp hn he hcs ht hcm
    go_enter Tryd.func13, Tryd.ntmps13
    go_wp2_with (first
      | (go_at_call 30
         refine (find_c _ _ m key HX.out.xr (by rw [HN.out]; omega) HX.out.srt).mono ?_
         rintro e w2 ⟨rfl, f2⟩
         rw [HF.out, HP.out]
         have F2 := Lib.hid f2
         have x1 : w2.cell? ⟨g, 0, none⟩ = some (.slice (some ⟨b, 0, none⟩) n c) := (f2.cell hgl (fun h => h)).trans (HN.out ▸ HX1.out)
         have B2 := HB.out.fr f2 (fun h => h)
         have x2 : w2.cell? ⟨b, p * 2 + 1, none⟩ = some (cur[p * 2 + 1]'(by rw [HCS.out]; omega)) := by rw [B2.cell, Array.getElem?_eq_getElem]
         have x3 : w2.frozen? ⟨b, p * 2 + 1, none⟩ = false := B2.frozen _
         have HB2 := Lib.hid B2
         clear f2 B2))
    go_ret
    have hsz : p * 2 + 1 < cur.size := by rw [HCS.out]; omega
    have hB3 := HB2.out.set_ (p * 2 + 1) (.int .i64 u)
    have F3 : Fr (fun k => k = g ∨ (Value.slice (some ⟨b, 0, none⟩) m.length c).ownBlock = some k) w (w2.setCell ⟨b, p * 2 + 1, none⟩ (.int .i64 u)) := (F2.out.mono (fun _ _ h => h.elim)).setCell (fun _ => .inr rfl) _
    have hms : mset m key u = m.take p ++ (key, u) :: m.drop (p + 1) := by unfold mset; rw [HF.out, HP.out]; rfl
    have hml : (mset m key u).length = n := by
      rw [hms]
      have := HN.out
      simp only [List.length_append, List.length_take, List.length_cons, List.length_drop]
      omega
    have hown : OwE (w2.setCell ⟨b, p * 2 + 1, none⟩ (.int .i64 u)) B (.slice (some ⟨b, 0, none⟩) n c) (mset m key u) := by
      refine blk_own hBb hB3 hml hnc HCM.out (by rw [Array.size_setIfInBounds, HCS.out]) ?_
      rw [Array.toList_setIfInBounds, List.take_set, HT.out, hms]
      have := HE.out
      subst p
      exact ec_set m _ u hlt key this
    have hgg : Blk (w2.setCell ⟨b, p * 2 + 1, none⟩ (.int .i64 u)) g 61 #[.slice (some ⟨b, 0, none⟩) n c] := by
      have := (HX.out.blk.fr F2.out (fun h => h)).far (p := ⟨b, p * 2 + 1, none⟩) (fun h => hne h.symm) (.int .i64 u)
      rw [HN.out] at this
      exact this
    exact ⟨rfl, _, ⟨hgg, HX.out.base, hown, srt_mset HX.out.srt key u⟩, F3, .inl rfl⟩
  | false =>
    have HPL := Lib.hid (pos_le m key)
    have HF := Lib.hid hf
    have HX1 := Lib.hid x1
    obtain ⟨p, hp⟩ : ∃ p, pos m key = p := ⟨_, rfl⟩
    rw [hp] at HPL
    have HP := Lib.hid hp
    clear x1 hx hf hp
    go_enter Tryd.func13, Tryd.ntmps13
    go_wp2_with (first
      | (go_at_call 30
         refine (find_c _ _ m key HX.out.xr (by omega) HX.out.srt).mono ?_
         rintro e w2 ⟨rfl, f2⟩
         rw [HF.out, HP.out]
         have F2 := Lib.hid f2
         have x1 : w2.cell? ⟨g, 0, none⟩ = some v := (f2.cell hgl (fun h => h)).trans HX1.out
         have HX2 := Lib.hid (HX.out.far f2)
         clear f2)
      | (go_at_call 31
         refine (insert_c _ B p w2.heap.size v m (key, u) (own_fr HX2.out.own ((Fr.refl (fun _ => False) w2).alloc (.cells #[.string (strOf key), .int .i64 u] 68)) (fun _ _ h => h)) HPL.out (by have := HX2.out.base; have := HX2.out.blk.lt; rw [World.size_alloc]; omega) (by omega) (Blk.new _ _ _) (fun h => by have := HX2.out.lt _ h; omega)).mono ?_
         rintro e w3 ⟨v3, rfl, h3, f3, n3⟩
         have H3 := Lib.hid h3
         obtain ⟨l3, hl3⟩ : ∃ l3, (m.take p ++ (key, u) :: m.drop p).length = l3 := ⟨_, rfl⟩
         obtain ⟨A3, c3, rfl, -, -⟩ := own_slice h3
         rw [hl3]
         rw [hl3] at H3 n3
         clear hl3
         have F3 := Lib.hid f3
         have N3 := Lib.hid n3
         have hgne : ¬ (v.ownBlock = some g) := HX.out.ne
         have B3 := (HX2.out.blk.alloc (.cells #[.string (strOf key), .int .i64 u] 68)).fr f3 hgne
         have y1 : w3.cell? ⟨g, 0, none⟩ = some v := B3.cell 0
         have y2 : w3.frozen? ⟨g, 0, none⟩ = false := B3.frozen 0
         have HB3 := Lib.hid B3
         clear h3 f3 n3 B3))
    go_ret
    have hms : mset m key u = m.take p ++ (key, u) :: m.drop p := by unfold mset; rw [HF.out, HP.out]; rfl
    have FA : Fr (fun k => k = g ∨ v.ownBlock = some k) w w3 := ((F2.out.alloc (.cells #[.string (strOf key), .int .i64 u] 68)).mono (fun _ _ h => h.elim)).trans F3.out (fun _ _ h => .inr h)
    have hO := H3.out
    have hB4 := HB3.out.set_ 0 (.slice A3 l3 c3)
    have hO4 : OwE (w3.setCell ⟨g, 0, none⟩ (.slice A3 l3 c3)) B (.slice A3 l3 c3) (mset m key u) := by
      rw [hms]
      exact own_fr hO ((Fr.refl (fun k => k = g) w3).setCell (fun _ => rfl) _) (fun k hk e => own_blk_ne hO HB3.out (by decide) (by rw [hk, e]))
    refine ⟨rfl, _, ⟨hB4, HX.out.base, hO4, srt_mset HX.out.srt key u⟩, FA.setCell (fun _ => .inl rfl) _, ?_⟩
    rcases N3.out with h | h
    · exact .inl h
    · exact .inr ⟨_, h, by rw [World.size_alloc]; have := F2.out.size; omega⟩

set_option maxRecDepth 100000 in
/-- Delete. -/
theorem del_c (w : World) (B g : Nat) (v : Value) (m : Ents) (key : List UInt8) (hx : IX w B g v m) (hm : m.length ≤ 100000) :
    Calls Tryd.prog 14 #[.pointer (some ⟨g, 0, none⟩), .string (strOf key)] w fun e w' => e = .returned (.bool (fnd m key)) ∧ ∃ v', IX w' B g v' (mdel m key) ∧ Fr (fun k => k = g ∨ v.ownBlock = some k) w w' ∧ v'.ownBlock = v.ownBlock := by
  have HX := Lib.hid hx
  have hgl := hx.blk.lt
  have x1 : w.cell? ⟨g, 0, none⟩ = some v := hx.blk.cell 0
  obtain ⟨p, hp⟩ : ∃ p, pos m key = p := ⟨_, rfl⟩
  have HX1 := Lib.hid x1
  have HP := Lib.hid hp
  cases hf : fnd m key with
  | false =>
    have HF := Lib.hid hf
    clear x1 hx hf hp
    go_enter Tryd.func14, Tryd.ntmps14
    go_wp2_with (first
      | (go_at_call 30
         refine (find_c _ _ m key HX.out.xr (by omega) HX.out.srt).mono ?_
         rintro e w2 ⟨rfl, f2⟩
         rw [HF.out, HP.out]
         have F2 := Lib.hid f2
         clear f2))
    go_ret
    have hms : mdel m key = m := by unfold mdel; rw [HF.out]; rfl
    rw [hms]
    exact ⟨rfl, v, HX.out.far F2.out, F2.out.mono (fun _ _ h => h.elim), rfl⟩
  | true =>
    have hlt := fnd_lt hx.srt hf
    have hpl : p < m.length := hp ▸ hlt
    have HF := Lib.hid hf
    clear x1 hx hf hp
    go_enter Tryd.func14, Tryd.ntmps14
    go_wp2_with (first
      | (go_at_call 30
         refine (find_c _ _ m key HX.out.xr (by omega) HX.out.srt).mono ?_
         rintro e w2 ⟨rfl, f2⟩
         rw [HF.out, HP.out]
         have F2 := Lib.hid f2
         have x1 : w2.cell? ⟨g, 0, none⟩ = some v := (f2.cell hgl (fun h => h)).trans HX1.out
         have HX2 := Lib.hid (HX.out.far f2)
         clear f2)
      | (go_at_call 32
         refine (delete_c _ B p v m HX2.out.own hpl).mono ?_
         rintro e w3 ⟨v3, rfl, h3, f3, n3⟩
         have H3 := Lib.hid h3
         obtain ⟨l3, hl3⟩ : ∃ l3, (m.take p ++ m.drop (p + 1)).length = l3 := ⟨_, rfl⟩
         obtain ⟨A3, c3, rfl, -, -⟩ := own_slice h3
         rw [hl3]
         rw [hl3] at H3 n3
         clear hl3
         have F3 := Lib.hid f3
         have N3 := Lib.hid n3
         have hgne : ¬ (v.ownBlock = some g) := HX.out.ne
         have B3 := HX2.out.blk.fr f3 hgne
         have y1 : w3.cell? ⟨g, 0, none⟩ = some v := B3.cell 0
         have y2 : w3.frozen? ⟨g, 0, none⟩ = false := B3.frozen 0
         have HB3 := Lib.hid B3
         clear h3 f3 n3 B3))
    go_ret
    have hms : mdel m key = m.take p ++ m.drop (p + 1) := by unfold mdel; rw [HF.out, HP.out]; rfl
    have FA : Fr (fun k => k = g ∨ v.ownBlock = some k) w w3 := (F2.out.mono (fun _ _ h => h.elim)).trans F3.out (fun _ _ h => .inr h)
    have hO := H3.out
    have hB4 := HB3.out.set_ 0 (.slice A3 l3 c3)
    have hO4 : OwE (w3.setCell ⟨g, 0, none⟩ (.slice A3 l3 c3)) B (.slice A3 l3 c3) (mdel m key) := by
      rw [hms]
      exact own_fr hO ((Fr.refl (fun k => k = g) w3).setCell (fun _ => rfl) _) (fun k hk e => own_blk_ne hO HB3.out (by decide) (by rw [hk, e]))
    exact ⟨rfl, _, ⟨hB4, HX.out.base, hO4, srt_mdel HX.out.srt key⟩, FA.setCell (fun _ => .inl rfl) _, N3.out⟩

set_option maxRecDepth 100000 in
/-- slices.Clone of entries. -/
theorem clone_c (w : World) (A : Option Addr) (c : Nat) (m : Ents) (hr : Rd w A (m.length * 2) (ec m)) (hm : m.length ≤ 100000) :
    Calls Tryd.prog 29 #[.slice A m.length c] w fun e w' => ∃ v', e = .returned v' ∧ OwE w' w.heap.size v' m ∧ Fr (fun _ => False) w w' := by
  obtain ⟨i0, hi0, hz0, hz1, hz2⟩ := info_parts entry_info
  have HR := Lib.hid hr
  have HI := Lib.hid hi0
  cases A with
  | none =>
    have h0 : m = [] := by
      cases m with
      | nil => rfl
      | cons e m => obtain ⟨_, _, h, _⟩ := hr.lit (by simp); cases h
    subst h0
    clear hr hi0
    go_enter Tryd.func29, Tryd.ntmps29
    go_wp2_with (rw [Lib.run_eql_slice_nil _ _ _ _ _ _ _ _ Tryd.underlying59])
    go_ret
    exact ⟨_, rfl, World.ownsRow_nil _ _ _ _, Fr.refl _ w⟩
  | some ad =>
    obtain ⟨n, hn⟩ : ∃ n, m.length = n := ⟨_, rfl⟩
    have HN := Lib.hid hn
    have hl : (ec m).length = n * 2 := by rw [ec_length, hn]
    rw [hn] at HR hm ⊢
    clear hr hi0 hn
    have HS : Hid (Src Tryd.prog 2 59 (.slice (some ad) n c) n (ec m) (w.alloc (.cells #[] 68))) := Src.ofSlice _ Tryd.underlying59 ad n c (ec m) hl (fun j u hj => by
      have hj2 : j < n * 2 := by rw [← hl]; exact (List.getElem?_eq_some_iff.1 hj).1
      obtain ⟨ad', u', he, h1, h2⟩ := (HR.out.alloc (.cells #[] 68)).at_ hj2
      cases he
      rw [hj] at h1
      cases h1
      exact h2) (ec_one m)
    have HL : Hid ((w.alloc (.cells #[] 68)).ownsRow w.heap.size 68 2 (.slice (some ⟨w.heap.size, 0, none⟩) 0 0) 0 []) := ⟨rfl, .inr ⟨w.heap.size, 0, #[], rfl, Nat.le_refl _, heap_alloc_new w _, Nat.le_refl _, by unfold maxLen; omega, rfl, rfl⟩⟩
    clear hl
    go_enter Tryd.func29, Tryd.ntmps29
    go_wp2_with (first
      | rw [Lib.run_eql_slice_nil _ _ _ _ _ _ _ _ Tryd.underlying59]
      | (at_builtin
         refine wpList_app rfl _ _ _ _ rfl w.heap.size 68 i0 _ 2 24 Tryd.underlying59 HI.out hz0 hz1 hz2 (by kernel_rfl) _ 0 [] rfl HL.out _ n _ rfl HS.out (by omega) (by unfold maxLen; omega) (by rw [World.size_alloc]; omega) ?_
         intro v9 w9 hown9 hf9 hn9
         have H9 := Lib.hid hown9
         have F9 := Lib.hid (((Fr.refl (fun k => w.heap.size ≤ k) w).alloc (.cells #[] 68)).trans hf9 (fun k hk e => by cases e; exact Nat.le_refl _))
         clear hown9 hf9 hn9))
    go_ret
    refine ⟨v9, rfl, ?_, F9.out.mono (fun k hk e => by omega)⟩
    have h9 := H9.out
    rw [Nat.zero_add, List.nil_append] at h9
    unfold OwE
    rw [HN.out]
    exact h9

/-- Copy. -/
theorem copy_c (w : World) (B g : Nat) (v : Value) (m : Ents) (hx : IX w B g v m) (hm : m.length ≤ 100000) :
    Calls Tryd.prog 12 #[.pointer (some ⟨g, 0, none⟩)] w fun e w' => ∃ g' v', e = .returned (.pointer (some ⟨g', 0, none⟩)) ∧ IX w' w.heap.size g' v' m ∧ Fr (fun _ => False) w w' := by
  obtain ⟨A, c, rfl, hnc, hcm⟩ := own_slice hx.own
  have HX := Lib.hid hx
  have x1 : w.cell? ⟨g, 0, none⟩ = some (.slice A m.length c) := hx.blk.cell 0
  have hr : Rd w A (m.length * 2) (ec m) := by
    rcases hx.own.2 with ⟨h1, h0⟩ | ⟨b, cap, cur, he, hbg, hg, hn2, hc2, hcs, ht⟩
    · have : m = [] := List.eq_nil_of_length_eq_zero h0
      subst this
      exact Rd.none_ _ _
    · cases he
      have := Rd.of_blk (n := m.length * 2) hg (by rw [hcs]; omega)
      rw [ht] at this
      exact this
  have HR := Lib.hid hr
  clear hx hr
  go_enter Tryd.func12, Tryd.ntmps12
  go_wp2_with (first
    | (go_at_call 29
       refine (clone_c _ A c m HR.out hm).mono ?_
       rintro e w3 ⟨v3, rfl, h3, f3⟩
       have H3 := Lib.hid h3
       obtain ⟨A3, c3, rfl, -, -⟩ := own_slice h3
       have F3 := Lib.hid f3
       clear h3 f3))
  go_ret
  exact ⟨_, _, rfl, ⟨Blk.new w3 61 _, F3.out.size, own_fr H3.out ((Fr.refl (fun _ => False) w3).alloc _) (fun _ _ h => h), HX.out.srt⟩, F3.out.alloc _⟩
end Go.Proofs.YtillifkilkjpdaaDoor
