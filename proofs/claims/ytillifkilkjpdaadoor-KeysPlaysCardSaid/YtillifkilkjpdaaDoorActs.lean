/-
  CONTRACT of the law's act, and of its row for whatever most.
-/
import Derived.Test.YtillifkilkjpdaaDoorStd
import Derived.Deep.RegionHeld3
namespace Go.Proofs.YtillifkilkjpdaaDoor
set_option linter.unusedSimpArgs false
set_option linter.unusedVariables false
open Go Go.RowKit

section
open Go.Shelf
attribute [local go_sem] Oper.semAt_some

set_option maxRecDepth 100000 in
set_option maxHeartbeats 4000000 in
theorem row2_c (w : World) (gf : Nat) (fnG : Func) (hgf : Tryd.prog.funcs[gf]? = some fnG) (hen : ∀ args w, (callFunc gf args).run Tryd.prog w = .ok (.enter gf args) w) (lb : Array Value) (most : Int) (G : Ents) (hG : G.length ≤ 100000) (hmost : most ≤ 9223372036854775807)
    (hit : ∀ n L W1, 1 ≤ n → Fr (fun _ => False) w W1 → IteratesB Tryd.prog n gf lb encE (fun pre y => G[pre.length]? = some y) (fun xs => xs.length = G.length) L W1) :
    Calls Tryd.prog 20 #[.func (.func gf) #[] lb, .int .i64 most] w fun e w' => ∃ v, e = .returned v ∧ OwR w' w.heap.size v (upto most G) ∧ Fr (fun _ => False) w w' := by
  obtain ⟨i0, hi0, hz0, hz1, hz2⟩ := info_parts ent_info
  have HIN := Lib.hid hi0
  have HIT := Lib.hid hit
  have HEN := Lib.hid hen
  clear hit hen hi0
  refine (callsIn_wide (n := 9)).1 ?_
  refine callsIn_of_wp_marks Tryd.func20 rfl trivial ?_ rfl
  simp only [Tryd.ntmps20, List.size_toArray, List.length_cons, List.length_nil, Nat.reduceAdd, Nat.reduceSub, Array.replicate_succ, Array.replicate_zero, List.push_toArray, List.append_toArray, List.nil_append, List.cons_append]
  gi_wp2_with (rw [run_eql_func_nil])
  have S0 : ((w.alloc (.cells #[.int .i64 most] 3)).alloc (.cells #[.slice none 0 0] 27)).heap.size = w.heap.size + 2 := by simp
  have I0 : RowI w most G (fun _ => False) [] ((w.alloc (.cells #[.int .i64 most] 3)).alloc (.cells #[.slice none 0 0] 27)) := by
    have o1 := Blk.new (w.alloc (.cells #[.int .i64 most] 3)) 27 #[.slice none 0 0]
    rw [World.size_alloc] at o1
    exact ⟨⟨_, o1, World.ownsRow_nil _ _ _ _, fun _ h => by cases h⟩, (Blk.new w _ _).alloc _, ((Fr.refl _ w).alloc _).alloc _, id, id, fun _ h => h.elim, fun _ h => h.elim, rfl, fun h => by simpa using h⟩
  have HS0 := Lib.hid S0
  have HI0 := Lib.hid I0
  clear S0 I0
  generalize ((w.alloc (.cells #[.int .i64 most] 3)).alloc (.cells #[.slice none 0 0] 27)) = w0 at *
  refine wpIn_range_brk (α := List UInt8 × Int) (gf := gf) (lb := lb) rfl HEN.out encE (fun _ => rfl) (fun pre y => G[pre.length]? = some y) (fun xs => xs.length = G.length) 0 (RowI w most G) (RowX w most G) (RowI.carry w most G) (RowX.carry w most G) HI0.out ?it ?round ?done ?stop
  case it =>
    intro W1 hs1 hf1
    exact HIT.out _ _ W1 (by omega) (HI0.out.fr.trans hf1 (fun _ _ h => h))
  case round =>
    intro H pre y W' hD hL hi hsz hok
    obtain ⟨yk, yv⟩ := y
    unfold encE
    gi_wp2_with fail
    refine ⟨trivial, fun w2 hi2 => ?_⟩
    obtain ⟨v, hb, ho, hv⟩ := hi2.out
    obtain ⟨q, hq⟩ : ∃ q, pre.length = q := ⟨_, rfl⟩
    have HI2 := Lib.hid hi2
    have HHL := Lib.hid hL
    have HHD := Lib.hid hD
    have HB := Lib.hid hb
    have HV := Lib.hid hv
    have HOK := Lib.hid hok
    have hplen : pre.length < G.length := (List.getElem?_eq_some_iff.1 hok).1
    obtain ⟨A, c, rfl, -, -⟩ := own_slice ho
    unfold OwR at ho
    rw [hq] at ho hplen HB HV
    have HO := Lib.hid ho
    have HQ := Lib.hid hq
    have c0 : w2.cell? ⟨w.heap.size + 1, 0, none⟩ = some (.slice A q c) := HB.out.cell 0
    have k0 := HB.out.frozen 0
    have m0 := hi2.mo.cell 0
    have hi2s := hi2.fr.size
    have hbl := HB.out.lt
    clear hi2 hb ho hv hok hi hq hL hD
    by_cases h0 : 0 ≤ most
    · have d0 : decide ((0 : Int) ≤ most) = true := decide_eq_true h0
      by_cases h1 : most ≤ (q : Int)
      · have d1 : decide (most ≤ (q : Int)) = true := decide_eq_true h1
        gi_wp2_with fail
        exact ⟨rfl, Fr.refl _ _, pre, HI2.out, h0, by rw [HQ.out]; exact h1⟩
      · have d1 : decide (most ≤ (q : Int)) = false := decide_eq_false h1
        gi_wp2_with (first
          | (gi_at_builtin
             refine wpListIn_app rfl _ _ _ _ rfl (w.heap.size + 2) 63 i0 _ 2 24 Tryd.underlying27 HIN.out hz0 hz1 hz2 (by kernel_rfl) _ q _ rfl (own_fr HO.out ((Fr.refl (fun _ => False) w2).alloc (.cells #[.string (strOf yk), .int .i64 yv] 63)) (fun _ _ h => h)) _ 1 (ec [(yk, yv)]) rfl
               (Src.ofSlice _ Tryd.underlying27 ⟨w2.heap.size, 0, none⟩ 1 1 (ec [(yk, yv)]) (ec_length _) (fun j u hj => by rw [Addr.add_lit, (Blk.new w2 63 #[.string (strOf yk), .int .i64 yv]).cell, ← Array.getElem?_toList, Nat.zero_add]; exact hj) (ec_one _))
               (by omega) (by unfold maxLen; omega) (by rw [World.size_alloc]; omega) ?_
             intro v9 w9 hown9 hf9 hn9
             obtain ⟨A9, c9, rfl, -, -⟩ := own_slice hown9
             have B9 := (HB.out.alloc (.cells #[.string (strOf yk), .int .i64 yv] 63)).fr hf9 (own_blk_ne HO.out HB.out (by decide))
             have y0 : w9.cell? ⟨w.heap.size + 1, 0, none⟩ = some (.slice A q c) := B9.cell 0
             have y1 : w9.frozen? ⟨w.heap.size + 1, 0, none⟩ = false := B9.frozen 0
             have HB9 := Lib.hid B9
             have HO9 := Lib.hid hown9
             have HF9 := Lib.hid hf9
             have HN9 := Lib.hid hn9
             clear B9 hown9 hf9 hn9))
        exact row_next HI2.out HHL.out HO.out HV.out HQ.out HOK.out HB9.out HO9.out HF9.out HN9.out (fun h => by omega)
    · have d0 : decide ((0 : Int) ≤ most) = false := decide_eq_false h0
      gi_wp2_with (first
        | (gi_at_builtin
           refine wpListIn_app rfl _ _ _ _ rfl (w.heap.size + 2) 63 i0 _ 2 24 Tryd.underlying27 HIN.out hz0 hz1 hz2 (by kernel_rfl) _ q _ rfl (own_fr HO.out ((Fr.refl (fun _ => False) w2).alloc (.cells #[.string (strOf yk), .int .i64 yv] 63)) (fun _ _ h => h)) _ 1 (ec [(yk, yv)]) rfl
             (Src.ofSlice _ Tryd.underlying27 ⟨w2.heap.size, 0, none⟩ 1 1 (ec [(yk, yv)]) (ec_length _) (fun j u hj => by rw [Addr.add_lit, (Blk.new w2 63 #[.string (strOf yk), .int .i64 yv]).cell, ← Array.getElem?_toList, Nat.zero_add]; exact hj) (ec_one _))
             (by omega) (by unfold maxLen; omega) (by rw [World.size_alloc]; omega) ?_
           intro v9 w9 hown9 hf9 hn9
           obtain ⟨A9, c9, rfl, -, -⟩ := own_slice hown9
           have B9 := (HB.out.alloc (.cells #[.string (strOf yk), .int .i64 yv] 63)).fr hf9 (own_blk_ne HO.out HB.out (by decide))
           have y0 : w9.cell? ⟨w.heap.size + 1, 0, none⟩ = some (.slice A q c) := B9.cell 0
           have y1 : w9.frozen? ⟨w.heap.size + 1, 0, none⟩ = false := B9.frozen 0
           have HB9 := Lib.hid B9
           have HO9 := Lib.hid hown9
           have HF9 := Lib.hid hf9
           have HN9 := Lib.hid hn9
           clear B9 hown9 hf9 hn9))
      exact row_next HI2.out HHL.out HO.out HV.out HQ.out HOK.out HB9.out HO9.out HF9.out HN9.out (fun h => by omega)
  case done =>
    intro D xs W' hD hfin hi hd
    have hxs : xs = upto most G := by
      have h1 := hi.pre_
      rw [hfin, List.take_length] at h1
      unfold upto
      split
      · rename_i h0
        have := hi.le_ h0
        rw [h1, List.take_of_length_le]
        rw [← hfin]
        omega
      · exact h1
    obtain ⟨v, hb, ho, hv⟩ := hi.out
    obtain ⟨A, c, rfl, -, -⟩ := own_slice ho
    have c0 := hb.cell 0
    have HO := Lib.hid ho
    have HF := Lib.hid hi.fr
    have HD := Lib.hid hd
    have HV := Lib.hid hv
    have HXS := Lib.hid hxs
    have hDs : D = w.heap.size + 2 := by rw [hD, HS0.out]
    clear hi hb ho hv hd hfin hxs hD
    gi_wp2_with fail
    refine ⟨by simp, .inl ⟨_, _, rfl, run_takeDeferred HD.out, ?_⟩⟩
    have fp : Fr (fun k => k = D) W' (W'.putObj D (.deferred none)) := (Fr.refl (fun k => k = D) W').putObj (fun _ => rfl) _
    refine ⟨.slice A xs.length c, by simp [results, Tryd.results20, go_sem], _, rfl, ?_, HF.out.trans fp (fun i hi e => by omega)⟩
    rw [← HXS.out]
    exact own_base (own_fr HO.out fp (fun k hk e => HV.out k hk e)) (fun k hk => by have := (World.ownsRow.lt HO.out k hk).1; omega)
  case stop =>
    intro D xs0 W' hD hi hd
    obtain ⟨xs, hi, h0, h1⟩ := hi
    have hxs : xs = upto most G := by
      have h2 := hi.le_ h0
      unfold upto
      rw [if_pos h0]
      have h3 := hi.pre_
      rw [show xs.length = most.toNat by omega] at h3
      exact h3
    obtain ⟨v, hb, ho, hv⟩ := hi.out
    obtain ⟨A, c, rfl, -, -⟩ := own_slice ho
    have c0 := hb.cell 0
    have HO := Lib.hid ho
    have HF := Lib.hid hi.fr
    have HD := Lib.hid hd
    have HV := Lib.hid hv
    have HXS := Lib.hid hxs
    have hDs : D = w.heap.size + 2 := by rw [hD, HS0.out]
    clear hi hb ho hv hd h0 h1 hxs hD
    gi_wp2_with fail
    refine ⟨by simp, .inl ⟨_, _, rfl, run_takeDeferred HD.out, ?_⟩⟩
    have fp : Fr (fun k => k = D) W' (W'.putObj D (.deferred none)) := (Fr.refl (fun k => k = D) W').putObj (fun _ => rfl) _
    refine ⟨.slice A xs.length c, by simp [results, Tryd.results20, go_sem], _, rfl, ?_, HF.out.trans fp (fun i hi e => by omega)⟩
    rw [← HXS.out]
    exact own_base (own_fr HO.out fp (fun k hk e => HV.out k hk e)) (fun k hk => by have := (World.ownsRow.lt HO.out k hk).1; omega)
/-- row over whatever such function. -/
theorem rows2_c (w : World) (v : Value) (most : Int) (G : Ents) (hv : SeqF w v G) (hG : G.length ≤ 100000) (hmost : most ≤ 9223372036854775807) :
    Calls Tryd.prog 20 #[v, .int .i64 most] w fun e w' => ∃ v, e = .returned v ∧ OwR w' w.heap.size v (upto most G) ∧ Fr (fun _ => False) w w' := by
  obtain ⟨gf, lb, rfl, ⟨fnG, h2⟩, h3, h4⟩ := hv
  exact row2_c w gf fnG h2 h3 lb most G hG hmost h4

end

/-- What an Act does. -/
def stepP (m : Ents) (a : Ac) : Ents := if a.d = 0 then mset m a.k a.u else if a.d = 1 then mdel m a.k else m
/-- A row of the reference's, as it is read. -/
def Row (w : World) (v : Value) (m : Ents) : Prop := ∃ A c, v = .slice A m.length c ∧ Rd w A (m.length * 2) (ec m) ∧ m.length ≤ c
/-- The row's block is none of the index's. -/
def Sep (rv : Value) (g : Nat) (v : Value) : Prop := ∀ A n c, rv = .slice A n c → 0 < n → ∀ k, inA A k → k ≠ g ∧ v.ownBlock ≠ some k
def ActP (w : World) (B g : Nat) (v rin : Value) (m' : Ents) (e : Ending) (w' : World) : Prop := ∃ rv v', e = .returned (.tuple #[rv, .bool true]) ∧ Row w' rv m' ∧ IX w' B g v' m' ∧ Fr (fun k => k = g ∨ v.ownBlock = some k) w w' ∧ (v'.ownBlock = v.ownBlock ∨ ∃ k, v'.ownBlock = some k ∧ w.heap.size ≤ k) ∧ (Sep rin g v → Sep rv g v')
theorem own_sep {w : World} {B : Nat} {A : Option Addr} {n c : Nat} {m : Ents} (h : OwR w B (.slice A n c) m) {k : Nat} (hk : inA A k) : B ≤ k ∧ k < w.heap.size := by
  obtain ⟨ad, rfl, rfl⟩ := hk
  rcases h.2 with ⟨h1, -⟩ | ⟨b, cap, cur, he, hbg, hg, -⟩
  · cases h1
  · cases he
    exact ⟨hbg, (Blk.lt (t := 63) (cs := cur) hg)⟩
theorem rget_neg (m : Ents) (key : List UInt8) : decide (rget m key < 0) = !fnd m key := by
  unfold rget
  cases fnd m key with
  | true => rw [if_pos rfl]; exact decide_eq_false (by omega)
  | false => rw [if_neg (by decide)]; rfl

set_option maxRecDepth 100000 in
set_option maxHeartbeats 2000000 in
theorem act0_c (w : World) (B g : Nat) (v : Value) (m : Ents) (A : Option Addr) (c : Nat) (u : Int) (key tt : List UInt8) (hx : IX w B g v m) (hm : m.length ≤ 100000) (hr : Rd w A (m.length * 2) (ec m)) (hc : m.length ≤ c) :
    Calls Tryd.prog 15 #[.pointer (some ⟨g, 0, none⟩), .slice A m.length c, .agg #[.int .i64 0, .int .i64 u, .string (strOf key), .string (strOf tt)]] w (ActP w B g v (.slice A m.length c) (mset m key u)) := by
  obtain ⟨n, hn⟩ : ∃ n, m.length = n := ⟨_, rfl⟩
  have HX := Lib.hid hx
  have HR := Lib.hid hr
  rw [hn] at HR hm hc ⊢
  have HN := Lib.hid hn
  have hb := Blk.new w 29 #[.int .i64 0, .int .i64 u, .string (strOf key), .string (strOf tt)]
  have hf := (Fr.refl (fun _ => False) w).alloc (.cells #[.int .i64 0, .int .i64 u, .string (strOf key), .string (strOf tt)] 29)
  have HB := Lib.hid hb
  have HF := Lib.hid hf
  have a0 : (w.alloc (.cells #[.int .i64 0, .int .i64 u, .string (strOf key), .string (strOf tt)] 29)).cell? ⟨w.heap.size, 0, none⟩ = some (.int .i64 0) := hb.cell 0
  have a1 : (w.alloc (.cells #[.int .i64 0, .int .i64 u, .string (strOf key), .string (strOf tt)] 29)).cell? ⟨w.heap.size, 1, none⟩ = some (.int .i64 u) := hb.cell 1
  have a2 : (w.alloc (.cells #[.int .i64 0, .int .i64 u, .string (strOf key), .string (strOf tt)] 29)).cell? ⟨w.heap.size, 2, none⟩ = some (.string (strOf key)) := hb.cell 2
  clear hx hr hn hb hf
  go_enter Tryd.func15, Tryd.ntmps15
  go_wp2_with fail
  have hget := rget_c (w.alloc (.cells #[.int .i64 0, .int .i64 u, .string (strOf key), .string (strOf tt)] 29)) A c m key (by rw [HN.out]; exact HR.out.far HF.out) (by rw [HN.out]; exact hc) (by rw [HN.out]; exact hm)
  rw [HN.out] at hget
  refine hget.mono ?_
  rintro e w1 ⟨rfl, hz⟩
  have hz2 := hz.symm
  subst hz2
  clear hz hget
  generalize (w.alloc (.cells #[.int .i64 0, .int .i64 u, .string (strOf key), .string (strOf tt)] 29)) = w0 at *
  obtain ⟨S, hS⟩ : ∃ S, w.heap.size = S := ⟨_, rfl⟩
  rw [hS] at a0 a1 a2 HB ⊢
  have HSZ := Lib.hid hS
  clear hS
  go_wp2_with fail
  have hrs := rset_c w0.drew A c m key u (by rw [HN.out]; exact (HR.out.far HF.out).drew) (by rw [HN.out]; exact hc) (by rw [HN.out]; exact hm) HX.out.srt
  rw [HN.out] at hrs
  have HRS := Lib.hid hrs
  clear hrs
  have HSN : Hid (¬ (S = g ∨ v.ownBlock = some S)) := by
    rintro (h | h)
    · have := HX.out.blk.lt; have := HSZ.out; omega
    · have := (World.ownsRow.lt HX.out.own S h).2; have := HSZ.out; omega
  go_region_held3 (fun W => W.cell? ⟨S, 1, none⟩ = some (.int .i64 u) ∧ W.cell? ⟨S, 2, none⟩ = some (.string (strOf key))) (first | exact ⟨a1, a2⟩ | exact ⟨z1, z2⟩ | exact ⟨y1, y2⟩)
    (first
    | (go_at_call 17; refine HRS.out.mono ?_; rintro e w2 ⟨rv, rfl, ro, rf⟩; have RO := Lib.hid ro; have RF := Lib.hid rf; have B2 := Lib.hid (HB.out.fr ((Fr.refl (fun _ => False) w0).drew.trans rf (fun _ _ h => h)) (fun h => h)); have z1 : w2.cell? ⟨S, 1, none⟩ = some (.int .i64 u) := B2.out.cell 1; have z2 : w2.cell? ⟨S, 2, none⟩ = some (.string (strOf key)) := B2.out.cell 2; clear ro rf)
    | (go_at_call 13; have hss := set_c w2 B g v m key u (HX.out.far (HF.out.drew.trans RF.out (fun _ _ h => h))) (by rw [HN.out]; exact hm); refine hss.mono ?_; rintro e w3 ⟨rfl, v3, x3, f3, n3⟩; have X3 := Lib.hid x3; have F3 := Lib.hid f3; have N3 := Lib.hid n3; have B3 := B2.out.fr f3 HSN.out; have y1 : w3.cell? ⟨S, 1, none⟩ = some (.int .i64 u) := B3.cell 1; have y2 : w3.cell? ⟨S, 2, none⟩ = some (.string (strOf key)) := B3.cell 2; clear x3 f3 n3 hss B3))
  rw [rget_neg]
  have HT2 : Hid (ActP w B g v (.slice A n c) (mset m key u) (.returned (.tuple #[rv, .bool true])) w3) := by
    refine ⟨rv, v3, rfl, ?_, X3.out, ?_, ?_, ?_⟩
    · have hro := RO.out
      have hkeep := own_fr hro F3.out (fun k hk h => by
        have h1 := (World.ownsRow.lt hro k hk).1
        have h2 : w.heap.size ≤ w0.drew.heap.size := HF.out.size
        rcases h with h | h
        · have := HX.out.blk.lt; omega
        · have := (World.ownsRow.lt HX.out.own k h).2; omega)
      exact OwR.rd hkeep
    · exact ((HF.out.drew.trans RF.out (fun _ _ h => h)).mono (fp := fun k => k = g ∨ v.ownBlock = some k) (fun _ _ h => h.elim)).trans F3.out (fun _ _ h => h)
    · rcases N3.out with h | ⟨k, h, hk⟩
      · exact .inl h
      · exact .inr ⟨k, h, Nat.le_trans (HF.out.drew.trans RF.out (fun _ _ h => h)).size hk⟩
    · intro _ A' n' c' he h0 k hk
      have hro := RO.out
      rw [he] at hro
      obtain ⟨k1, k2⟩ := own_sep hro hk
      have h2 : w.heap.size ≤ w0.drew.heap.size := HF.out.size
      have h3 := HX.out.blk.lt
      refine ⟨by omega, fun hv => ?_⟩
      rcases N3.out with h | ⟨q, h, hq⟩
      · rw [h] at hv
        have := (World.ownsRow.lt HX.out.own k hv).2
        omega
      · rw [h] at hv
        cases hv
        omega
  clear y1 y2 z1 z2 a0 a1 a2
  have hbb : ((!fnd m key) == (!fnd m key)) = true := by simp
  go_wp2_with fail
  go_ret2
  simpa using HT2.out

theorem rdel_eq {m : Ents} (hs : Srt m) (key : List UInt8) : rdel m key = mdel m key := by
  refine srt_ext (List.Pairwise.sublist List.filter_sublist hs) (srt_mdel hs key) fun k => ?_
  rw [lk_mdel hs]
  have h : ∀ l : Ents, lk (rdel l key) k = if key = k then none else lk l k := by
    intro l
    induction l with
    | nil => unfold rdel; simp [lk_nil]
    | cons e l ih =>
      unfold rdel at ih ⊢
      rw [List.filter_cons]
      by_cases he : e.1 = key
      · have h1 : (!(e.1 == key)) = false := by simp [he]
        rw [if_neg (by rw [h1]; decide), ih, lk_cons]
        by_cases hk : key = k
        · rw [if_pos hk, if_pos hk]
        · rw [if_neg hk, if_neg hk, if_neg (by rw [he]; exact hk)]
      · have h1 : (!(e.1 == key)) = true := by simp [he]
        rw [if_pos h1, lk_cons, ih, lk_cons]
        by_cases hk : key = k
        · rw [if_pos hk, if_pos hk, if_neg (by rw [← hk]; exact he)]
        · rw [if_neg hk, if_neg hk]
  exact h m
theorem rget_pos (m : Ents) (key : List UInt8) : decide (rget m key ≥ 0) = fnd m key := by
  unfold rget
  cases fnd m key with
  | true => rw [if_pos rfl]; exact decide_eq_true (by omega)
  | false => rw [if_neg (by decide)]; rfl

set_option maxRecDepth 100000 in
set_option maxHeartbeats 2000000 in
theorem act1_c (w : World) (B g : Nat) (v : Value) (m : Ents) (A : Option Addr) (c : Nat) (u : Int) (key tt : List UInt8) (hx : IX w B g v m) (hm : m.length ≤ 100000) (hr : Rd w A (m.length * 2) (ec m)) (hc : m.length ≤ c) :
    Calls Tryd.prog 15 #[.pointer (some ⟨g, 0, none⟩), .slice A m.length c, .agg #[.int .i64 1, .int .i64 u, .string (strOf key), .string (strOf tt)]] w (ActP w B g v (.slice A m.length c) (mdel m key)) := by
  obtain ⟨n, hn⟩ : ∃ n, m.length = n := ⟨_, rfl⟩
  have HX := Lib.hid hx
  have HR := Lib.hid hr
  rw [hn] at HR hm hc ⊢
  have HN := Lib.hid hn
  have hb := Blk.new w 29 #[.int .i64 1, .int .i64 u, .string (strOf key), .string (strOf tt)]
  have hf := (Fr.refl (fun _ => False) w).alloc (.cells #[.int .i64 1, .int .i64 u, .string (strOf key), .string (strOf tt)] 29)
  have HB := Lib.hid hb
  have HF := Lib.hid hf
  have a0 : (w.alloc (.cells #[.int .i64 1, .int .i64 u, .string (strOf key), .string (strOf tt)] 29)).cell? ⟨w.heap.size, 0, none⟩ = some (.int .i64 1) := hb.cell 0
  have a1 : (w.alloc (.cells #[.int .i64 1, .int .i64 u, .string (strOf key), .string (strOf tt)] 29)).cell? ⟨w.heap.size, 1, none⟩ = some (.int .i64 u) := hb.cell 1
  have a2 : (w.alloc (.cells #[.int .i64 1, .int .i64 u, .string (strOf key), .string (strOf tt)] 29)).cell? ⟨w.heap.size, 2, none⟩ = some (.string (strOf key)) := hb.cell 2
  clear hx hr hn hb hf
  go_enter Tryd.func15, Tryd.ntmps15
  go_wp2_with fail
  have hget := rget_c (w.alloc (.cells #[.int .i64 1, .int .i64 u, .string (strOf key), .string (strOf tt)] 29)) A c m key (by rw [HN.out]; exact HR.out.far HF.out) (by rw [HN.out]; exact hc) (by rw [HN.out]; exact hm)
  rw [HN.out] at hget
  refine hget.mono ?_
  rintro e w1 ⟨rfl, hz⟩
  have hz2 := hz.symm
  subst hz2
  clear hz hget
  generalize (w.alloc (.cells #[.int .i64 1, .int .i64 u, .string (strOf key), .string (strOf tt)] 29)) = w0 at *
  obtain ⟨S, hS⟩ : ∃ S, w.heap.size = S := ⟨_, rfl⟩
  rw [hS] at a0 a1 a2 HB ⊢
  have HSZ := Lib.hid hS
  clear hS
  go_wp2_with fail
  have hrs := rdel_c w0.drew A c m key (by rw [HN.out]; exact (HR.out.far HF.out).drew) (by rw [HN.out]; exact hc) (by rw [HN.out]; exact hm)
  rw [rdel_eq HX.out.srt] at hrs
  rw [HN.out] at hrs
  have HRS := Lib.hid hrs
  clear hrs
  have HSN : Hid (¬ (S = g ∨ v.ownBlock = some S)) := by
    rintro (h | h)
    · have := HX.out.blk.lt; have := HSZ.out; omega
    · have := (World.ownsRow.lt HX.out.own S h).2; have := HSZ.out; omega
  go_region_held3 (fun W => W.cell? ⟨S, 1, none⟩ = some (.int .i64 u) ∧ W.cell? ⟨S, 2, none⟩ = some (.string (strOf key))) (first | exact ⟨a1, a2⟩ | exact ⟨z1, z2⟩ | exact ⟨y1, y2⟩)
    (first
    | (go_at_call 34; refine HRS.out.mono ?_; rintro e w2 ⟨rv, rfl, ro, rf⟩; have RO := Lib.hid ro; have RF := Lib.hid rf; have B2 := Lib.hid (HB.out.fr ((Fr.refl (fun _ => False) w0).drew.trans rf (fun _ _ h => h)) (fun h => h)); have z1 : w2.cell? ⟨S, 1, none⟩ = some (.int .i64 u) := B2.out.cell 1; have z2 : w2.cell? ⟨S, 2, none⟩ = some (.string (strOf key)) := B2.out.cell 2; clear ro rf)
    | (go_at_call 14; have hss := del_c w2 B g v m key (HX.out.far (HF.out.drew.trans RF.out (fun _ _ h => h))) (by rw [HN.out]; exact hm); refine hss.mono ?_; rintro e w3 ⟨rfl, v3, x3, f3, n3⟩; have X3 := Lib.hid x3; have F3 := Lib.hid f3; have N3 := Lib.hid n3; have B3 := B2.out.fr f3 HSN.out; have y1 : w3.cell? ⟨S, 1, none⟩ = some (.int .i64 u) := B3.cell 1; have y2 : w3.cell? ⟨S, 2, none⟩ = some (.string (strOf key)) := B3.cell 2; clear x3 f3 n3 hss B3))
  rw [rget_pos]
  have HT2 : Hid (ActP w B g v (.slice A n c) (mdel m key) (.returned (.tuple #[rv, .bool true])) w3) := by
    refine ⟨rv, v3, rfl, ?_, X3.out, ?_, ?_, ?_⟩
    · have hro := RO.out
      have hkeep := own_fr hro F3.out (fun k hk h => by
        have h1 := (World.ownsRow.lt hro k hk).1
        have h2 : w.heap.size ≤ w0.drew.heap.size := HF.out.size
        rcases h with h | h
        · have := HX.out.blk.lt; omega
        · have := (World.ownsRow.lt HX.out.own k h).2; omega)
      exact OwR.rd hkeep
    · exact ((HF.out.drew.trans RF.out (fun _ _ h => h)).mono (fp := fun k => k = g ∨ v.ownBlock = some k) (fun _ _ h => h.elim)).trans F3.out (fun _ _ h => h)
    · exact .inl N3.out
    · intro _ A' n' c' he h0 k hk
      have hro := RO.out
      rw [he] at hro
      obtain ⟨k1, k2⟩ := own_sep hro hk
      have h2 : w.heap.size ≤ w0.drew.heap.size := HF.out.size
      have h3 := HX.out.blk.lt
      refine ⟨by omega, fun hv => ?_⟩
      rw [N3.out] at hv
      have := (World.ownsRow.lt HX.out.own k hv).2
      omega
  clear y1 y2 z1 z2 a0 a1 a2
  have hbb : (fnd m key == fnd m key) = true := by simp
  go_wp2_with fail
  go_ret2
  simpa using HT2.out

theorem rget_at {m : Ents} (hs : Srt m) {key : List UInt8} (h : fnd m key = true) : ∃ j, ∃ hj : j < m.length, rget m key = (j : Int) ∧ m[j].2 = gv m key := by
  have hj : (m.findIdx fun e => e.1 == key) < m.length := by
    rw [List.findIdx_lt_length]
    simpa [fnd] using h
  refine ⟨_, hj, by unfold rget; rw [if_pos h], ?_⟩
  have hk : m[m.findIdx fun e => e.1 == key].1 = key := by
    have := List.findIdx_getElem (p := fun e : List UInt8 × Int => e.1 == key) (xs := m) (w := hj)
    simpa using this
  have hm : (key, m[m.findIdx fun e => e.1 == key].2) ∈ m := by
    have := List.getElem_mem hj
    rw [show m[m.findIdx fun e => e.1 == key] = (key, m[m.findIdx fun e => e.1 == key].2) from Prod.ext hk rfl] at this
    exact this
  rw [gv_lk hs, lk_of hs hm]
  rfl
set_option maxRecDepth 100000 in
set_option maxHeartbeats 2000000 in
theorem act2_c (w : World) (B g : Nat) (v : Value) (m : Ents) (A : Option Addr) (c : Nat) (u : Int) (key tt : List UInt8) (hx : IX w B g v m) (hm : m.length ≤ 100000) (hr : Rd w A (m.length * 2) (ec m)) (hc : m.length ≤ c) :
    Calls Tryd.prog 15 #[.pointer (some ⟨g, 0, none⟩), .slice A m.length c, .agg #[.int .i64 2, .int .i64 u, .string (strOf key), .string (strOf tt)]] w (ActP w B g v (.slice A m.length c) m) := by
  obtain ⟨n, hn⟩ : ∃ n, m.length = n := ⟨_, rfl⟩
  have HX := Lib.hid hx
  have HR := Lib.hid hr
  rw [hn] at HR hm hc ⊢
  have HN := Lib.hid hn
  have hb := Blk.new w 29 #[.int .i64 2, .int .i64 u, .string (strOf key), .string (strOf tt)]
  have hf := (Fr.refl (fun _ => False) w).alloc (.cells #[.int .i64 2, .int .i64 u, .string (strOf key), .string (strOf tt)] 29)
  have HB := Lib.hid hb
  have HF := Lib.hid hf
  have a0 : (w.alloc (.cells #[.int .i64 2, .int .i64 u, .string (strOf key), .string (strOf tt)] 29)).cell? ⟨w.heap.size, 0, none⟩ = some (.int .i64 2) := hb.cell 0
  have a1 : (w.alloc (.cells #[.int .i64 2, .int .i64 u, .string (strOf key), .string (strOf tt)] 29)).cell? ⟨w.heap.size, 1, none⟩ = some (.int .i64 u) := hb.cell 1
  have a2 : (w.alloc (.cells #[.int .i64 2, .int .i64 u, .string (strOf key), .string (strOf tt)] 29)).cell? ⟨w.heap.size, 2, none⟩ = some (.string (strOf key)) := hb.cell 2
  clear hx hr hn hb hf
  go_enter Tryd.func15, Tryd.ntmps15
  go_wp2_with fail
  have hget := rget_c (w.alloc (.cells #[.int .i64 2, .int .i64 u, .string (strOf key), .string (strOf tt)] 29)) A c m key (by rw [HN.out]; exact HR.out.far HF.out) (by rw [HN.out]; exact hc) (by rw [HN.out]; exact hm)
  rw [HN.out] at hget
  refine hget.mono ?_
  rintro e w1 ⟨rfl, hz⟩
  have hz2 := hz.symm
  subst hz2
  clear hz hget
  generalize (w.alloc (.cells #[.int .i64 2, .int .i64 u, .string (strOf key), .string (strOf tt)] 29)) = w0 at *
  obtain ⟨S, hS⟩ : ∃ S, w.heap.size = S := ⟨_, rfl⟩
  rw [hS] at a0 a1 a2 HB ⊢
  have HSZ := Lib.hid hS
  clear hS
  go_wp2_with fail
  have F0 := Lib.hid HF.out
  refine (get_c w0 _ m key (HX.out.far F0.out).xr (by rw [HN.out]; omega) HX.out.srt).mono ?_
  rintro e w3 ⟨rfl, f3⟩
  have HFF := Lib.hid (F0.out.trans f3 (fun _ _ h => h))
  clear f3 a0 a1 a2
  have HT2 : Hid (ActP w B g v (.slice A n c) m (.returned (.tuple #[.slice A n c, .bool true])) w3) := by
    have HFW := HFF.out
    refine ⟨.slice A n c, v, rfl, ⟨A, c, by rw [HN.out], ?_, by rw [HN.out]; exact hc⟩, HX.out.far HFW, HFW.mono (fun _ _ h => h.elim), .inl rfl, id⟩
    rw [HN.out]; exact HR.out.far HFW
  cases hfd : fnd m key with
  | true =>
    obtain ⟨j, hj, hrg, hgv⟩ := rget_at HX.out.srt hfd
    rw [hrg]
    have hge : decide ((j : Int) ≥ 0) = true := decide_eq_true (by omega)
    have hge2 : decide ((0 : Int) ≤ (j : Int)) = true := decide_eq_true (by omega)
    have hmx : max (j : Int) 0 = (j : Int) := by omega
    obtain ⟨b, off, rfl, hcl⟩ := (HR.out.far HFF.out).lit (by have := HN.out; omega)
    have y1 : w3.cell? ⟨b, off + j * 2 + 1, none⟩ = some (.int .i64 (gv m key)) := by
      rw [Nat.add_assoc, hcl _ (by have := HN.out; omega), ← hgv]
      exact ec_val m j hj
    have hjn : j < n := by have := HN.out; omega
    have hjI : (j : Int) < n := by omega
    have q1 : ((gv m key) == (gv m key)) = true := by simp
    clear hrg hgv hcl hfd hj
    generalize gv m key = gg at *
    go_wp2_with fail
    go_ret2
    simpa using HT2.out
  | false =>
    have hrg : rget m key = -1 := by unfold rget; rw [hfd]; rfl
    have hgv : gv m key = 0 := by unfold gv; rw [hfd]; rfl
    rw [hrg, hgv]
    clear hrg hgv hfd
    go_wp2_with fail
    go_ret2
    simpa using HT2.out

set_option maxRecDepth 100000 in
set_option maxHeartbeats 2000000 in
theorem act5_c (w : World) (B g : Nat) (v : Value) (m : Ents) (A : Option Addr) (c : Nat) (d u : Int) (key tt : List UInt8) (hd : ∀ q ∈ ([0, 1, 2, 3, 4] : List Int), d ≠ q) (hx : IX w B g v m) (hm : m.length ≤ 100000) (hr : Rd w A (m.length * 2) (ec m)) (hc : m.length ≤ c) :
    Calls Tryd.prog 15 #[.pointer (some ⟨g, 0, none⟩), .slice A m.length c, .agg #[.int .i64 d, .int .i64 u, .string (strOf key), .string (strOf tt)]] w (ActP w B g v (.slice A m.length c) m) := by
  obtain ⟨n, hn⟩ : ∃ n, m.length = n := ⟨_, rfl⟩
  have HX := Lib.hid hx
  have d0 : (d == 0) = false := by simpa using hd 0 (by simp)
  have d1 : (d == 1) = false := by simpa using hd 1 (by simp)
  have d2 : (d == 2) = false := by simpa using hd 2 (by simp)
  have d3 : (d == 3) = false := by simpa using hd 3 (by simp)
  have d4 : (d == 4) = false := by simpa using hd 4 (by simp)
  clear hd
  have HR := Lib.hid hr
  rw [hn] at HR hm hc ⊢
  have HN := Lib.hid hn
  have hb := Blk.new w 29 #[.int .i64 d, .int .i64 u, .string (strOf key), .string (strOf tt)]
  have hf := (Fr.refl (fun _ => False) w).alloc (.cells #[.int .i64 d, .int .i64 u, .string (strOf key), .string (strOf tt)] 29)
  have HB := Lib.hid hb
  have HF := Lib.hid hf
  have a0 : (w.alloc (.cells #[.int .i64 d, .int .i64 u, .string (strOf key), .string (strOf tt)] 29)).cell? ⟨w.heap.size, 0, none⟩ = some (.int .i64 d) := hb.cell 0
  have a1 : (w.alloc (.cells #[.int .i64 d, .int .i64 u, .string (strOf key), .string (strOf tt)] 29)).cell? ⟨w.heap.size, 1, none⟩ = some (.int .i64 u) := hb.cell 1
  have a2 : (w.alloc (.cells #[.int .i64 d, .int .i64 u, .string (strOf key), .string (strOf tt)] 29)).cell? ⟨w.heap.size, 2, none⟩ = some (.string (strOf key)) := hb.cell 2
  clear hx hr hn hb hf
  go_enter Tryd.func15, Tryd.ntmps15
  go_wp2_with fail
  have hget := rget_c (w.alloc (.cells #[.int .i64 d, .int .i64 u, .string (strOf key), .string (strOf tt)] 29)) A c m key (by rw [HN.out]; exact HR.out.far HF.out) (by rw [HN.out]; exact hc) (by rw [HN.out]; exact hm)
  rw [HN.out] at hget
  refine hget.mono ?_
  rintro e w1 ⟨rfl, hz⟩
  have hz2 := hz.symm
  subst hz2
  clear hz hget
  generalize (w.alloc (.cells #[.int .i64 d, .int .i64 u, .string (strOf key), .string (strOf tt)] 29)) = w0 at *
  obtain ⟨S, hS⟩ : ∃ S, w.heap.size = S := ⟨_, rfl⟩
  rw [hS] at a0 a1 a2 HB ⊢
  have HSZ := Lib.hid hS
  clear hS
  go_wp2_with fail
  have HFF := Lib.hid HF.out
  have HT2 : Hid (ActP w B g v (.slice A n c) m (.returned (.tuple #[.slice A n c, .bool true])) w0) := by
    have HFW := HFF.out
    refine ⟨.slice A n c, v, rfl, ⟨A, c, by rw [HN.out], ?_, by rw [HN.out]; exact hc⟩, HX.out.far HFW, HFW.mono (fun _ _ h => h.elim), .inl rfl, id⟩
    rw [HN.out]; exact HR.out.far HFW
  go_ret2
  simpa using HT2.out

theorem scn_first (m : Ents) (key : List UInt8) : scn m key [] = m.drop (pos m key) := by
  unfold scn scK scE
  rw [if_pos rfl, List.take_length, show Nat.min (pos m key) m.length = pos m key from Nat.min_eq_left (pos_le m key)]
theorem upto_len (most : Int) (G : Ents) : (upto most G).length ≤ G.length := by
  unfold upto
  split
  · rw [List.length_take]; omega
  · exact Nat.le_refl _

set_option maxRecDepth 100000 in
set_option maxHeartbeats 2000000 in
theorem act3_c (w : World) (B g : Nat) (v : Value) (m : Ents) (A : Option Addr) (c : Nat) (u : Int) (key tt : List UInt8) (hx : IX w B g v m) (hm : m.length ≤ 100000) (hr : Rd w A (m.length * 2) (ec m)) (hc : m.length ≤ c) :
    Calls Tryd.prog 15 #[.pointer (some ⟨g, 0, none⟩), .slice A m.length c, .agg #[.int .i64 3, .int .i64 u, .string (strOf key), .string (strOf tt)]] w (ActP w B g v (.slice A m.length c) m) := by
  obtain ⟨n, hn⟩ : ∃ n, m.length = n := ⟨_, rfl⟩
  have HX := Lib.hid hx
  have HR := Lib.hid hr
  rw [hn] at HR hm hc ⊢
  have HN := Lib.hid hn
  have hb := Blk.new w 29 #[.int .i64 3, .int .i64 u, .string (strOf key), .string (strOf tt)]
  have hf := (Fr.refl (fun _ => False) w).alloc (.cells #[.int .i64 3, .int .i64 u, .string (strOf key), .string (strOf tt)] 29)
  have HB := Lib.hid hb
  have HF := Lib.hid hf
  have a0 : (w.alloc (.cells #[.int .i64 3, .int .i64 u, .string (strOf key), .string (strOf tt)] 29)).cell? ⟨w.heap.size, 0, none⟩ = some (.int .i64 3) := hb.cell 0
  have a1 : (w.alloc (.cells #[.int .i64 3, .int .i64 u, .string (strOf key), .string (strOf tt)] 29)).cell? ⟨w.heap.size, 1, none⟩ = some (.int .i64 u) := hb.cell 1
  have a2 : (w.alloc (.cells #[.int .i64 3, .int .i64 u, .string (strOf key), .string (strOf tt)] 29)).cell? ⟨w.heap.size, 2, none⟩ = some (.string (strOf key)) := hb.cell 2
  clear hx hr hn hb hf
  go_enter Tryd.func15, Tryd.ntmps15
  go_wp2_with fail
  have hget := rget_c (w.alloc (.cells #[.int .i64 3, .int .i64 u, .string (strOf key), .string (strOf tt)] 29)) A c m key (by rw [HN.out]; exact HR.out.far HF.out) (by rw [HN.out]; exact hc) (by rw [HN.out]; exact hm)
  rw [HN.out] at hget
  refine hget.mono ?_
  rintro e w1 ⟨rfl, hz⟩
  have hz2 := hz.symm
  subst hz2
  clear hz hget
  generalize (w.alloc (.cells #[.int .i64 3, .int .i64 u, .string (strOf key), .string (strOf tt)] 29)) = w0 at *
  obtain ⟨S, hS⟩ : ∃ S, w.heap.size = S := ⟨_, rfl⟩
  rw [hS] at a0 a1 a2 HB ⊢
  have HSZ := Lib.hid hS
  clear hS
  go_wp2_with fail
  have F0 := Lib.hid HF.out
  have estr : (⟨#[]⟩ : ByteArray) = strOf [] := rfl
  have hrs := rscan_c w0 A c m key [] (by rw [HN.out]; exact HR.out.far F0.out) (by rw [HN.out]; exact hc) (by rw [HN.out]; exact hm) HX.out.srt
  rw [HN.out, scn_first] at hrs
  refine hrs.mono ?_
  rintro e w2 ⟨rv, rfl, ro, rf⟩
  obtain ⟨A2, c2, rfl, rr, hc2⟩ := OwR.rd ro
  obtain ⟨sl, hsl⟩ : ∃ sl, (m.drop (pos m key)).length = sl := ⟨_, rfl⟩
  rw [hsl] at rr hc2 ⊢
  have HSL := Lib.hid hsl
  have RR := Lib.hid rr
  have F2 := Lib.hid (F0.out.trans rf (fun _ _ h => h))
  have B2 := Lib.hid (HB.out.fr rf (fun h => h))
  clear hrs ro rf rr hsl a0 a1 a2
  have a2 : w2.cell? ⟨S, 2, none⟩ = some (.string (strOf key)) := B2.out.cell 2
  go_wp2_with fail
  refine (first_c w2 _ m key (HX.out.far F2.out).xr (by rw [HN.out]; omega) HX.out.srt).mono ?_
  rintro e w3 ⟨rfl, f3⟩
  have HFF := Lib.hid (F2.out.trans f3 (fun _ _ h => h))
  have RR3 := Lib.hid (RR.out.far f3)
  clear f3 a2
  have HT2 : Hid (∀ nq, ActP w B g v (.slice A n c) m (.returned (.tuple #[.slice A n c, .bool true])) (w3.drewN nq)) := by
    intro nq
    have HFW := HFF.out.drewN nq
    refine ⟨.slice A n c, v, rfl, ⟨A, c, by rw [HN.out], ?_, by rw [HN.out]; exact hc⟩, HX.out.far HFW, HFW.mono (fun _ _ h => h.elim), .inl rfl, id⟩
    rw [HN.out]; exact HR.out.far HFW
  have t0 : (strOf []).toList = [] := strOf_toList _
  by_cases hp : pos m key < m.length
  · have hsl0 : 0 < sl := by rw [← HSL.out, List.length_drop]; omega
    have hd1 : decide ((sl : Int) > 0) = true := decide_eq_true (by omega)
    have hd2 : decide ((0 : Int) < (sl : Int)) = true := decide_eq_true (by omega)
    have hd3 : decide (0 < sl) = true := decide_eq_true hsl0
    have hslI : (0 : Int) < sl := by omega
    obtain ⟨b, off, rfl, hcl⟩ := RR3.out.lit (by omega)
    have y1 : w3.cell? ⟨b, off, none⟩ = some (.string (strOf (fk m key))) := by
      have := hcl 0 (by omega)
      rw [Nat.add_zero] at this
      rw [this]
      have h2 := ec_key (m.drop (pos m key)) 0 (by rw [HSL.out]; omega)
      rw [Nat.zero_mul] at h2
      rw [h2]
      unfold fk
      rw [List.getElem?_eq_getElem hp, List.getElem_drop]
      rfl
    rw [decide_eq_true hp]
    have q1 : ((strOf (fk m key)).toList == (strOf (fk m key)).toList) = true := by simp
    clear hp hcl
    generalize fk m key = kk at *
    go_wp2_with fail
    go_quiet (fail)
    go_wp2_with fail
    go_ret2
    simpa using HT2.out nq
  · have hsl0 : sl = 0 := by rw [← HSL.out, List.length_drop]; omega
    have hd1 : decide ((sl : Int) > 0) = false := decide_eq_false (by omega)
    have hd2 : decide ((0 : Int) < (sl : Int)) = false := decide_eq_false (by omega)
    have hd3 : decide (0 < sl) = false := decide_eq_false (by omega)
    have hfk : fk m key = [] := by unfold fk; rw [List.getElem?_eq_none (by omega)]; rfl
    rw [decide_eq_false hp, hfk]
    have q1 : (strOf []).toList.isEmpty = true := by rw [strOf_toList]; rfl
    clear hp hfk hsl0
    go_wp2_with fail
    go_quiet (fail)
    go_wp2_with fail
    go_ret2
    simpa using HT2.out nq


set_option maxRecDepth 100000 in
set_option maxHeartbeats 2000000 in
theorem act4_c (w : World) (B g : Nat) (v : Value) (m : Ents) (A : Option Addr) (c : Nat) (u : Int) (key tt : List UInt8) (hu : u ≤ 9223372036854775807) (hx : IX w B g v m) (hm : m.length ≤ 100000) (hr : Rd w A (m.length * 2) (ec m)) (hc : m.length ≤ c) :
    Calls Tryd.prog 15 #[.pointer (some ⟨g, 0, none⟩), .slice A m.length c, .agg #[.int .i64 4, .int .i64 u, .string (strOf key), .string (strOf tt)]] w (ActP w B g v (.slice A m.length c) m) := by
  obtain ⟨n, hn⟩ : ∃ n, m.length = n := ⟨_, rfl⟩
  have HX := Lib.hid hx
  have HR := Lib.hid hr
  rw [hn] at HR hm hc ⊢
  have HN := Lib.hid hn
  have hb := Blk.new w 29 #[.int .i64 4, .int .i64 u, .string (strOf key), .string (strOf tt)]
  have hf := (Fr.refl (fun _ => False) w).alloc (.cells #[.int .i64 4, .int .i64 u, .string (strOf key), .string (strOf tt)] 29)
  have HB := Lib.hid hb
  have HF := Lib.hid hf
  have a0 : (w.alloc (.cells #[.int .i64 4, .int .i64 u, .string (strOf key), .string (strOf tt)] 29)).cell? ⟨w.heap.size, 0, none⟩ = some (.int .i64 4) := hb.cell 0
  have a1 : (w.alloc (.cells #[.int .i64 4, .int .i64 u, .string (strOf key), .string (strOf tt)] 29)).cell? ⟨w.heap.size, 1, none⟩ = some (.int .i64 u) := hb.cell 1
  have a3 : (w.alloc (.cells #[.int .i64 4, .int .i64 u, .string (strOf key), .string (strOf tt)] 29)).cell? ⟨w.heap.size, 3, none⟩ = some (.string (strOf tt)) := hb.cell 3
  have a2 : (w.alloc (.cells #[.int .i64 4, .int .i64 u, .string (strOf key), .string (strOf tt)] 29)).cell? ⟨w.heap.size, 2, none⟩ = some (.string (strOf key)) := hb.cell 2
  clear hx hr hn hb hf
  go_enter Tryd.func15, Tryd.ntmps15
  go_wp2_with fail
  have hget := rget_c (w.alloc (.cells #[.int .i64 4, .int .i64 u, .string (strOf key), .string (strOf tt)] 29)) A c m key (by rw [HN.out]; exact HR.out.far HF.out) (by rw [HN.out]; exact hc) (by rw [HN.out]; exact hm)
  rw [HN.out] at hget
  refine hget.mono ?_
  rintro e w1 ⟨rfl, hz⟩
  have hz2 := hz.symm
  subst hz2
  clear hz hget
  generalize (w.alloc (.cells #[.int .i64 4, .int .i64 u, .string (strOf key), .string (strOf tt)] 29)) = w0 at *
  obtain ⟨S, hS⟩ : ∃ S, w.heap.size = S := ⟨_, rfl⟩
  rw [hS] at a0 a1 a2 a3 HB ⊢
  have HSZ := Lib.hid hS
  clear hS
  go_wp2_with fail
  have F0 := Lib.hid HF.out
  have hrs := rscan_c w0 A c m key tt (by rw [HN.out]; exact HR.out.far F0.out) (by rw [HN.out]; exact hc) (by rw [HN.out]; exact hm) HX.out.srt
  rw [HN.out] at hrs
  obtain ⟨G, hG⟩ : ∃ G, scn m key tt = G := ⟨_, rfl⟩
  have hgl : G.length ≤ 100000 := by rw [← hG]; have := scn_le m key tt; have := HN.out; omega
  rw [hG] at hrs
  refine hrs.mono ?_
  rintro e w2 ⟨rv, rfl, ro, rf⟩
  obtain ⟨A2, c2, rfl, rr, hc2⟩ := OwR.rd ro
  obtain ⟨sl, hsl⟩ : ∃ sl, G.length = sl := ⟨_, rfl⟩
  rw [hsl] at rr hc2 ⊢
  have HSL := Lib.hid hsl
  have HGL := Lib.hid hgl
  have RR := Lib.hid rr
  have F2 := Lib.hid (F0.out.trans rf (fun _ _ h => h))
  have B2 := Lib.hid (HB.out.fr rf (fun h => h))
  have hsc := scan_c w2.drew _ m key tt (HX.out.far F2.out.drew).xr HX.out.srt (by rw [HN.out]; exact hm)
  rw [hG] at hsc
  have HSC := Lib.hid hsc
  obtain ⟨ul, hul⟩ : ∃ ul, (upto u G).length = ul := ⟨_, rfl⟩
  have HUQ := Lib.hid hul
  have HUL : Hid ((upto u G).length ≤ 100000) := Nat.le_trans (upto_len u G) hgl
  have RU : Hid (Rd w2 A2 ((upto u G).length * 2) (ec (upto u G))) := by
    show Rd _ _ _ _
    unfold upto
    split
    · have h1 := rr.take (k := (G.take u.toNat).length * 2) (by rw [List.length_take]; omega)
      rw [← ec_take] at h1
      have h2 : G.take (G.take u.toNat).length = G.take u.toNat := by
        rw [List.length_take]
        by_cases hle : u.toNat ≤ G.length
        · rw [Nat.min_eq_left hle]
        · rw [Nat.min_eq_right (by omega), List.take_of_length_le (Nat.le_refl _), List.take_of_length_le (by omega)]
      rw [h2] at h1
      exact h1
    · rw [hsl]; exact rr
  have hmn : 0 ≤ u → min u (sl : Int) = (ul : Int) := fun h => by
    rw [← hul]
    unfold upto
    rw [if_pos h, List.length_take, hsl]
    omega
  have hmn2 : u < 0 → sl = ul := fun h => by
    rw [← hul]
    unfold upto
    rw [if_neg (by omega), hsl]
  have hulc : ul ≤ c2 := by rw [← hul]; have := upto_len u G; omega
  have HM1 := Lib.hid hmn
  have HM2 := Lib.hid hmn2
  clear hrs ro rf rr hsl hgl hsc hul hG a0 a1 a2 a3 hmn hmn2
  have a1 : w2.cell? ⟨S, 1, none⟩ = some (.int .i64 u) := B2.out.cell 1
  have a2 : w2.cell? ⟨S, 2, none⟩ = some (.string (strOf key)) := B2.out.cell 2
  have a3 : w2.cell? ⟨S, 3, none⟩ = some (.string (strOf tt)) := B2.out.cell 3
  by_cases hu0 : 0 ≤ u
  · have hd1 : decide (u ≥ 0) = true := decide_eq_true hu0
    have hd2 : decide ((0 : Int) ≤ u) = true := decide_eq_true hu0
    have hmn := HM1.out hu0
    go_wp2_with fail
    clear hmn hd1 hd2
    go_region_held3 (fun W => W.cell? ⟨S, 1, none⟩ = some (.int .i64 u) ∧ W.cell? ⟨S, 2, none⟩ = some (.string (strOf key)) ∧ W.cell? ⟨S, 3, none⟩ = some (.string (strOf tt))) (first | exact ⟨a1, a2, a3⟩ | exact ⟨z1, z2, z3⟩ | exact ⟨y1, y2, y3⟩ | exact ⟨x1, x2, x3⟩)
      (first
      | (go_at_call 28; refine HSC.out.mono ?_; rintro e w4 ⟨sv, rfl, hs4, f4⟩; have HS4 := Lib.hid hs4; have F4 := Lib.hid f4; have B4 := Lib.hid (B2.out.drew.fr f4 (fun h => h)); have z1 : w4.cell? ⟨S, 1, none⟩ = some (.int .i64 u) := B4.out.cell 1; have z2 : w4.cell? ⟨S, 2, none⟩ = some (.string (strOf key)) := B4.out.cell 2; have z3 : w4.cell? ⟨S, 3, none⟩ = some (.string (strOf tt)) := B4.out.cell 3; clear hs4 f4)
      | (go_at_call 20; refine (rows2_c w4 sv u G HS4.out HGL.out hu).mono ?_; rintro e w5 ⟨r5, rfl, hr5, f5⟩; have HR5 := Lib.hid hr5; have F5 := Lib.hid f5; have B5 := Lib.hid (B4.out.fr f5 (fun h => h)); have y1 : w5.cell? ⟨S, 1, none⟩ = some (.int .i64 u) := B5.out.cell 1; have y2 : w5.cell? ⟨S, 2, none⟩ = some (.string (strOf key)) := B5.out.cell 2; have y3 : w5.cell? ⟨S, 3, none⟩ = some (.string (strOf tt)) := B5.out.cell 3; clear hr5 f5; obtain ⟨A5, c5, rfl, hrd5, -⟩ := OwR.rd HR5.out; have RD5 := Lib.hid hrd5; clear hrd5)
      | (go_at_call 19; have hsm := same_c w5 A5 A2 c5 c2 (upto u G) (upto u G) RD5.out (RU.out.far (((Fr.refl (fun _ => False) w2).drew.trans F4.out (fun _ _ h => h)).trans F5.out (fun _ _ h => h))) HUL.out HUL.out; rw [HUQ.out, decide_eq_true (rfl : upto u G = upto u G)] at hsm; rw [HUQ.out]; refine hsm.mono ?_; rintro e w6 ⟨rfl, f6⟩; have F6 := Lib.hid f6; have B6 := B5.out.fr f6 (fun h => h); have x1 : w6.cell? ⟨S, 1, none⟩ = some (.int .i64 u) := B6.cell 1; have x2 : w6.cell? ⟨S, 2, none⟩ = some (.string (strOf key)) := B6.cell 2; have x3 : w6.cell? ⟨S, 3, none⟩ = some (.string (strOf tt)) := B6.cell 3; clear f6 B6 hsm))
    have HFF : Hid (Fr (fun _ => False) w w6) := (((F2.out.drew.trans F4.out (fun _ _ h => h)).trans F5.out (fun _ _ h => h)).trans F6.out (fun _ _ h => h))
    have HT2 : Hid (ActP w B g v (.slice A n c) m (.returned (.tuple #[.slice A n c, .bool true])) w6) := by
      have HFW := HFF.out
      refine ⟨.slice A n c, v, rfl, ⟨A, c, by rw [HN.out], ?_, by rw [HN.out]; exact hc⟩, HX.out.far HFW, HFW.mono (fun _ _ h => h.elim), .inl rfl, id⟩
      rw [HN.out]; exact HR.out.far HFW
    clear x1 x2 x3 y1 y2 y3 z1 z2 z3 a1 a2 a3
    go_wp2_with fail
    go_ret2
    simpa using HT2.out
  · have hd1 : decide (u ≥ 0) = false := decide_eq_false hu0
    have hd2 : decide ((0 : Int) ≤ u) = false := decide_eq_false hu0
    have hsu := HM2.out (by omega)
    subst hsu
    go_wp2_with fail
    clear hd1 hd2
    go_region_held3 (fun W => W.cell? ⟨S, 1, none⟩ = some (.int .i64 u) ∧ W.cell? ⟨S, 2, none⟩ = some (.string (strOf key)) ∧ W.cell? ⟨S, 3, none⟩ = some (.string (strOf tt))) (first | exact ⟨a1, a2, a3⟩ | exact ⟨z1, z2, z3⟩ | exact ⟨y1, y2, y3⟩ | exact ⟨x1, x2, x3⟩)
      (first
      | (go_at_call 28; refine HSC.out.mono ?_; rintro e w4 ⟨sv, rfl, hs4, f4⟩; have HS4 := Lib.hid hs4; have F4 := Lib.hid f4; have B4 := Lib.hid (B2.out.drew.fr f4 (fun h => h)); have z1 : w4.cell? ⟨S, 1, none⟩ = some (.int .i64 u) := B4.out.cell 1; have z2 : w4.cell? ⟨S, 2, none⟩ = some (.string (strOf key)) := B4.out.cell 2; have z3 : w4.cell? ⟨S, 3, none⟩ = some (.string (strOf tt)) := B4.out.cell 3; clear hs4 f4)
      | (go_at_call 20; refine (rows2_c w4 sv u G HS4.out HGL.out hu).mono ?_; rintro e w5 ⟨r5, rfl, hr5, f5⟩; have HR5 := Lib.hid hr5; have F5 := Lib.hid f5; have B5 := Lib.hid (B4.out.fr f5 (fun h => h)); have y1 : w5.cell? ⟨S, 1, none⟩ = some (.int .i64 u) := B5.out.cell 1; have y2 : w5.cell? ⟨S, 2, none⟩ = some (.string (strOf key)) := B5.out.cell 2; have y3 : w5.cell? ⟨S, 3, none⟩ = some (.string (strOf tt)) := B5.out.cell 3; clear hr5 f5; obtain ⟨A5, c5, rfl, hrd5, -⟩ := OwR.rd HR5.out; have RD5 := Lib.hid hrd5; clear hrd5)
      | (go_at_call 19; have hsm := same_c w5 A5 A2 c5 c2 (upto u G) (upto u G) RD5.out (RU.out.far (((Fr.refl (fun _ => False) w2).drew.trans F4.out (fun _ _ h => h)).trans F5.out (fun _ _ h => h))) HUL.out HUL.out; rw [HUQ.out, decide_eq_true (rfl : upto u G = upto u G)] at hsm; rw [HUQ.out]; refine hsm.mono ?_; rintro e w6 ⟨rfl, f6⟩; have F6 := Lib.hid f6; have B6 := B5.out.fr f6 (fun h => h); have x1 : w6.cell? ⟨S, 1, none⟩ = some (.int .i64 u) := B6.cell 1; have x2 : w6.cell? ⟨S, 2, none⟩ = some (.string (strOf key)) := B6.cell 2; have x3 : w6.cell? ⟨S, 3, none⟩ = some (.string (strOf tt)) := B6.cell 3; clear f6 B6 hsm))
    have HFF : Hid (Fr (fun _ => False) w w6) := (((F2.out.drew.trans F4.out (fun _ _ h => h)).trans F5.out (fun _ _ h => h)).trans F6.out (fun _ _ h => h))
    have HT2 : Hid (ActP w B g v (.slice A n c) m (.returned (.tuple #[.slice A n c, .bool true])) w6) := by
      have HFW := HFF.out
      refine ⟨.slice A n c, v, rfl, ⟨A, c, by rw [HN.out], ?_, by rw [HN.out]; exact hc⟩, HX.out.far HFW, HFW.mono (fun _ _ h => h.elim), .inl rfl, id⟩
      rw [HN.out]; exact HR.out.far HFW
    clear x1 x2 x3 y1 y2 y3 z1 z2 z3 a1 a2 a3
    go_wp2_with fail
    go_ret2
    simpa using HT2.out
end Go.Proofs.YtillifkilkjpdaaDoor
