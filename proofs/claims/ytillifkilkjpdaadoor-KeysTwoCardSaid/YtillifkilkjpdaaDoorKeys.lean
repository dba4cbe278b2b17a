/-
  CONTRACTS of Scan, of row over it, and of Keys.
-/
import Derived.Test.YtillifkilkjpdaaDoorRow
namespace Go.Proofs.YtillifkilkjpdaaDoor
set_option linter.unusedSimpArgs false
set_option linter.unusedVariables false
open Go Go.RowKit Go.Shelf
attribute [local go_sem] Oper.semAt_some

/-- A function that goes over a row of entries, whatever new there is since. -/
def SeqF (w : World) (v : Value) (G : Ents) : Prop := ∃ gf lb, v = .func (.func gf) #[] lb ∧ (∃ fnG, Tryd.prog.funcs[gf]? = some fnG) ∧ (∀ args w, (callFunc gf args).run Tryd.prog w = .ok (.enter gf args) w) ∧
  ∀ n L W1, 1 ≤ n → Fr (fun _ => False) w W1 → IteratesB Tryd.prog n gf lb encE (fun pre y => G[pre.length]? = some y) (fun xs => xs.length = G.length) L W1
theorem SeqF.far {w w' : World} {v : Value} {G : Ents} (h : SeqF w v G) (hf : Fr (fun _ => False) w w') : SeqF w' v G := by
  obtain ⟨gf, lb, h1, h2, h3, h4⟩ := h
  exact ⟨gf, lb, h1, h2, h3, fun n L W1 hn h => h4 n L W1 hn (hf.trans h (fun _ _ h => h))⟩

theorem XR.ptr {w : World} {x : Value} {m : Ents} (h : XR w x m) : ∃ p, x = .pointer p := by
  rcases h with ⟨rfl, -⟩ | ⟨g, A, c, rfl, -⟩
  · exact ⟨_, rfl⟩
  · exact ⟨_, rfl⟩

theorem scan_c (w : World) (x : Value) (m : Ents) (fr to : List UInt8) (hx : XR w x m) (hs : Srt m) (hm : m.length ≤ 100000) :
    Calls Tryd.prog 28 #[x, .string (strOf fr), .string (strOf to)] w fun e w' => ∃ v, e = .returned v ∧ SeqF w' v (scn m fr to) ∧ Fr (fun _ => False) w w' := by
  obtain ⟨p, rfl⟩ := hx.ptr
  have HX := Lib.hid hx
  have HS := Lib.hid hs
  clear hx hs
  go_enter Tryd.func28, Tryd.ntmps28
  go_wp2_with fail
  go_ret
  have f1 := (Fr.refl (fun _ => False) w).alloc (.cells #[.pointer p] 25)
  have f2 := f1.alloc (.cells #[.string (strOf fr)] 9)
  have f3 := f2.alloc (.cells #[.string (strOf to)] 9)
  have b1 := ((Blk.new w 25 #[.pointer p]).alloc (.cells #[.string (strOf fr)] 9)).alloc (.cells #[.string (strOf to)] 9)
  have b2 := (Blk.new (w.alloc (.cells #[.pointer p] 25)) 9 #[.string (strOf fr)]).alloc (.cells #[.string (strOf to)] 9)
  have b3 := Blk.new ((w.alloc (.cells #[.pointer p] 25)).alloc (.cells #[.string (strOf fr)] 9)) 9 #[.string (strOf to)]
  simp only [World.size_alloc, Nat.add_assoc, Nat.reduceAdd] at b2 b3
  refine ⟨_, rfl, ⟨44, _, rfl, ⟨_, Tryd.func44⟩, enters_of Tryd.func44 (by kernel_rfl) rfl, fun n L W1 hn h => ?_⟩, f3⟩
  exact scan1_it n hn L _ _ _ (.pointer p) fr to m W1 (HX.out.far (f3.trans h (fun _ _ h => h))) HS.out hm (b1.fr h (fun h => h)) (b2.fr h (fun h => h)) (b3.fr h (fun h => h))

/-- row over whatever such function. -/
theorem rows_c (w : World) (v : Value) (most : Int) (G : Ents) (hv : SeqF w v G) (hG : G.length ≤ 100000) (hmost : most < 9223372036854775807) :
    Calls Tryd.prog 20 #[v, .int .i64 most] w fun e w' => ∃ v, e = .returned v ∧ OwR w' w.heap.size v (upto most G) ∧ Fr (fun _ => False) w w' := by
  obtain ⟨gf, lb, rfl, ⟨fnG, h2⟩, h3, h4⟩ := hv
  exact row_c w gf fnG h2 h3 lb most G hG hmost h4

/-- The keys as cells. -/
def kc (m : Ents) : List Value := m.map fun e => .string (strOf e.1)
theorem kc_append (m l : Ents) : kc (m ++ l) = kc m ++ kc l := by simp [kc]
theorem kc_length (m : Ents) : (kc m).length = m.length := by simp [kc]
theorem kc_one (m : Ents) : ∀ u ∈ kc m, u.oneCell' = true := by
  intro u hu
  obtain ⟨e, _, rfl⟩ := List.mem_map.1 hu
  rfl
theorem str_info : (Tryd.prog.info? 9).map (fun i => (i.zero, i.size, i.bytes)) = some (some (.string ⟨#[]⟩), 1, 16) := by kernel_rfl
abbrev OwK (w : World) (B : Nat) (v : Value) (m : Ents) : Prop := w.ownsRow B 9 1 v m.length (kc m)
structure KeyI (w : World) (G : Ents) (H : Nat → Prop) (pre : Ents) (W : World) : Prop where
  out : ∃ v, Blk W w.heap.size 56 #[v] ∧ OwK W (w.heap.size + 1) v pre ∧ ∀ k, v.ownBlock = some k → ¬ H k
  fr : Fr (fun _ => False) w W
  nO : ¬ H w.heap.size
  lo : ∀ k, H k → w.heap.size ≤ k
  up : ∀ k, H k → k < W.heap.size
  pre_ : pre = G.take pre.length
theorem KeyI.carry (w : World) (G : Ents) : Carries (KeyI w G) := by
  rintro H H' pre A C ⟨⟨v, hb, ho, hv⟩, hf, hO, hlo, hup, hp⟩ hfr hH
  have key : ∀ k, k < A.heap.size → ¬ H k → ¬ H' k := fun k hk hn h => by
    rcases hH k h with h | h
    · exact hn h
    · omega
  refine ⟨⟨v, hb.fr hfr hO, own_fr ho hfr hv, fun k hk => key k (World.ownsRow.lt ho k hk).2 (hv k hk)⟩, hf.trans hfr (fun i hi h => by have := hlo i h; omega), key _ hb.lt hO, fun k hk => ?_, fun k hk => ?_, hp⟩
  · rcases hH k hk with h | h
    · exact hlo k h
    · have := hf.size; omega
  · rcases hH k hk with h | h
    · have := hup k h; have := hfr.size; omega
    · omega
theorem key_next {w : World} {G : Ents} {H : Nat → Prop} {pre : Ents} {w2 w9 : World} {A A9 : Option Addr} {q c c9 : Nat} {yk : List UInt8} {yv : Int} (hi : KeyI w G H pre w2)
    (ho : w2.ownsRow (w.heap.size + 1) 9 1 (.slice A q c) q (kc pre)) (hv : ∀ k, (Value.slice A q c).ownBlock = some k → ¬ H k) (hq : pre.length = q) (hok : G[pre.length]? = some (yk, yv))
    (hb : Blk w9 w.heap.size 56 #[.slice A q c]) (ho9 : w9.ownsRow (w.heap.size + 1) 9 1 (.slice A9 (q + 1) c9) (q + 1) (kc pre ++ kc [(yk, yv)]))
    (hf : Fr (fun k => (Value.slice A q c).ownBlock = some k) (w2.alloc (.cells #[.string (strOf yk)] 9)) w9)
    (hn : (Value.slice A9 (q + 1) c9).ownBlock = (Value.slice A q c).ownBlock ∨ (Value.slice A9 (q + 1) c9).ownBlock = some (w2.alloc (.cells #[.string (strOf yk)] 9)).heap.size) :
    Fr (fun k => ¬ H k) w2 (w9.setCell ⟨w.heap.size, 0, none⟩ (.slice A9 (q + 1) c9)) ∧ KeyI w G H (pre ++ [(yk, yv)]) (w9.setCell ⟨w.heap.size, 0, none⟩ (.slice A9 (q + 1) c9)) := by
  have hH := hi.up
  have F1 : Fr (fun k => ¬ H k) w2 w9 := (((Fr.refl (fun _ => False) w2).alloc _).mono (fun _ _ h => h.elim)).trans hf (fun k _ h => hv k h)
  have F2 : Fr (fun k => ¬ H k) w2 (w9.setCell ⟨w.heap.size, 0, none⟩ (.slice A9 (q + 1) c9)) := F1.setCell (fun _ => hi.nO) _
  have fz := hi.fr.size
  have F3 : Fr (fun k => k = w.heap.size ∨ (Value.slice A q c).ownBlock = some k) w2 (w9.setCell ⟨w.heap.size, 0, none⟩ (.slice A9 (q + 1) c9)) := ((((Fr.refl (fun _ => False) w2).alloc _).mono (fun _ _ h => h.elim)).trans hf (fun k _ h => .inr h)).setCell (fun _ => .inl rfl) _
  have hne := own_blk_ne ho9 hb (by decide)
  have hlen : (pre ++ [(yk, yv)]).length = q + 1 := by rw [List.length_append, hq]; rfl
  refine ⟨F2, ⟨⟨_, hb.set_ 0 (.slice A9 (q + 1) c9), ?_, ?_⟩, ?_, hi.nO, hi.lo, fun k h => Nat.lt_of_lt_of_le (hH k h) F2.size, ?_⟩⟩
  · unfold OwK
    rw [kc_append, hlen]
    exact own_fr ho9 ((Fr.refl (fun k => k = w.heap.size) w9).setCell (fun _ => rfl) _) (fun k hk e => hne (by rw [hk, e]))
  · intro k hk h
    rcases hn with hn | hn
    · exact hv k (hn ▸ hk) h
    · rw [hn, World.size_alloc] at hk
      cases hk
      have := hH _ h
      omega
  · refine hi.fr.trans F3 ?_
    rintro k hk (h | h)
    · omega
    · have := (World.ownsRow.lt ho _ h).1
      omega
  · rw [hlen, List.take_add_one, ← hq, ← hi.pre_, hok]
    rfl

theorem scn_all (m : Ents) : scn m [] [] = m := by
  have h0 : pos m [] = 0 := by
    cases m with
    | nil => rfl
    | cons e m =>
      rw [pos_cons]
      have : kl e.1 [] = false := by
        cases hk : e.1 with
        | nil => exact kl_irr []
        | cons a l => rfl
      rw [this]
      rfl
  unfold scn scK scE
  rw [h0, if_pos rfl, List.take_length, show Nat.min 0 m.length = 0 from Nat.zero_min _, List.drop_zero]

set_option maxRecDepth 100000 in
set_option maxHeartbeats 4000000 in
theorem keys_c (w : World) (x : Value) (m : Ents) (hx : XR w x m) (hs : Srt m) (hm : m.length ≤ 100000) :
    Calls Tryd.prog 27 #[x] w fun e w' => ∃ v, e = .returned v ∧ OwK w' w.heap.size v m ∧ Fr (fun _ => False) w w' := by
  obtain ⟨i0, hi0, hz0, hz1, hz2⟩ := info_parts str_info
  have HIN := Lib.hid hi0
  have HX := Lib.hid hx
  have HS := Lib.hid hs
  have estr : (⟨#[]⟩ : ByteArray) = strOf [] := rfl
  clear hx hs hi0
  refine (callsIn_wide (n := 9)).1 ?_
  refine callsIn_of_wp_marks Tryd.func27 rfl trivial ?_ rfl
  simp only [Tryd.ntmps27, List.size_toArray, List.length_cons, List.length_nil, Nat.reduceAdd, Nat.reduceSub, Array.replicate_succ, Array.replicate_zero, List.push_toArray, List.append_toArray, List.nil_append, List.cons_append]
  gi_wp2_with fail
  refine ⟨trivial, ?_⟩
  refine (callsIn_wide.2 (scan_c (w.alloc (.cells #[.slice none 0 0] 56)) x m [] [] (HX.out.far ((Fr.refl _ w).alloc _)) HS.out hm)).mono ?_
  rintro e w0 ⟨v, rfl, ⟨gf, lb, rfl, ⟨fnG, h2⟩, h3, h4⟩, f0⟩
  rw [scn_all] at h4
  have I0 : KeyI w m (fun _ => False) [] w0 :=
    ⟨⟨_, (Blk.new w 56 #[.slice none 0 0]).fr f0 (fun h => h), World.ownsRow_nil _ _ _ _, fun _ h => by cases h⟩, ((Fr.refl _ w).alloc _).trans f0 (fun _ _ h => h), id, fun _ h => h.elim, fun _ h => h.elim, rfl⟩
  have hs0 : w.heap.size + 1 ≤ w0.heap.size := by have := f0.size; rw [World.size_alloc] at this; exact this
  have HI0 := Lib.hid I0
  have HEN := Lib.hid h3
  have HIT := Lib.hid h4
  clear I0 h2 h3 h4 f0
  gi_wp2_with fail
  refine wpIn_range_brk (α := List UInt8 × Int) (gf := gf) (lb := lb) rfl HEN.out encE (fun _ => rfl) (fun pre y => m[pre.length]? = some y) (fun xs => xs.length = m.length) 0 (KeyI w m) (fun _ _ _ => False) (KeyI.carry w m) (fun _ _ _ _ _ h _ _ => h) HI0.out ?it ?round ?done ?stop
  case it =>
    intro W1 hs1 hf1
    exact HIT.out _ _ W1 (by omega) hf1
  case stop => exact fun _ _ _ _ h _ => h.elim
  case round =>
    intro H pre y W' hD hL hi hsz hok
    obtain ⟨yk, yv⟩ := y
    unfold encE
    gi_wp2_with fail
    refine ⟨trivial, fun w2 hi2 => ?_⟩
    obtain ⟨v, hb, ho, hv⟩ := hi2.out
    obtain ⟨q, hq⟩ : ∃ q, pre.length = q := ⟨_, rfl⟩
    have HI2 := Lib.hid hi2
    have HB := Lib.hid hb
    have HV := Lib.hid hv
    have HOK := Lib.hid hok
    have hplen : pre.length < m.length := (List.getElem?_eq_some_iff.1 hok).1
    obtain ⟨A, c, rfl, -, -⟩ := own_slice ho
    unfold OwK at ho
    rw [hq] at ho hplen HB HV
    have HO := Lib.hid ho
    have HQ := Lib.hid hq
    have c0 : w2.cell? ⟨w.heap.size, 0, none⟩ = some (.slice A q c) := HB.out.cell 0
    have k0 := HB.out.frozen 0
    have hi2s := hi2.fr.size
    have hbl := HB.out.lt
    clear hi2 hb ho hv hok hi hq hL hD
    gi_wp2_with (first
      | (gi_at_builtin
         refine wpListIn_app rfl _ _ _ _ rfl (w.heap.size + 1) 9 i0 _ 1 16 Tryd.underlying56 HIN.out hz0 hz1 hz2 (by kernel_rfl) _ q _ rfl (own_fr HO.out ((Fr.refl (fun _ => False) w2).alloc (.cells #[.string (strOf yk)] 9)) (fun _ _ h => h)) _ 1 (kc [(yk, yv)]) rfl
           (Src.ofSlice _ Tryd.underlying56 ⟨w2.heap.size, 0, none⟩ 1 1 (kc [(yk, yv)]) rfl (fun j u hj => by rw [Addr.add_lit, (Blk.new w2 9 #[.string (strOf yk)]).cell, ← Array.getElem?_toList, Nat.zero_add]; exact hj) (kc_one _))
           (by omega) (by unfold maxLen; omega) (by rw [World.size_alloc]; omega) ?_
         intro v9 w9 hown9 hf9 hn9
         obtain ⟨A9, c9, rfl, -, -⟩ := own_slice hown9
         have B9 := (HB.out.alloc (.cells #[.string (strOf yk)] 9)).fr hf9 (own_blk_ne HO.out HB.out (by decide))
         have y0 : w9.cell? ⟨w.heap.size, 0, none⟩ = some (.slice A q c) := B9.cell 0
         have y1 : w9.frozen? ⟨w.heap.size, 0, none⟩ = false := B9.frozen 0
         have HB9 := Lib.hid B9
         have HO9 := Lib.hid hown9
         have HF9 := Lib.hid hf9
         have HN9 := Lib.hid hn9
         clear B9 hown9 hf9 hn9))
    exact key_next HI2.out HO.out HV.out HQ.out HOK.out HB9.out HO9.out HF9.out HN9.out
  case done =>
    intro D xs W' hD hfin hi hd
    have hxs : xs = m := by
      have h1 := hi.pre_
      rw [hfin, List.take_length] at h1
      exact h1
    obtain ⟨v, hb, ho, hv⟩ := hi.out
    obtain ⟨A, c, rfl, -, -⟩ := own_slice ho
    have c0 := hb.cell 0
    have HO := Lib.hid ho
    have HF := Lib.hid hi.fr
    have HD := Lib.hid hd
    have HV := Lib.hid hv
    have HXS := Lib.hid hxs
    have HDD := Lib.hid hD
    clear hi hb ho hv hd hfin hxs hD
    gi_wp2_with fail
    refine ⟨by simp, .inl ⟨_, _, rfl, run_takeDeferred HD.out, ?_⟩⟩
    have fp : Fr (fun k => k = D) W' (W'.putObj D (.deferred none)) := (Fr.refl (fun k => k = D) W').putObj (fun _ => rfl) _
    refine ⟨.slice A xs.length c, by simp [results, Tryd.results27, go_sem], _, rfl, ?_, HF.out.trans fp (fun i hi e => by have := HDD.out; omega)⟩
    rw [← HXS.out]
    exact own_base (own_fr HO.out fp (fun k hk e => HV.out k hk e)) (fun k hk => by have := (World.ownsRow.lt HO.out k hk).1; omega)
end Go.Proofs.YtillifkilkjpdaaDoor
