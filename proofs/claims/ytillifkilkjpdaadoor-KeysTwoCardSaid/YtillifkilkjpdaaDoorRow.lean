/-
  CONTRACT of the law's row: what is gone over, at most so many.
-/
import Derived.Test.YtillifkilkjpdaaDoorSc
import Derived.RangeFuncLeaves
namespace Go.Proofs.YtillifkilkjpdaaDoor
set_option linter.unusedSimpArgs false
set_option linter.unusedVariables false
open Go Go.RowKit Go.Shelf
attribute [local go_sem] Oper.semAt_some

theorem ent_info : (Tryd.prog.info? 63).map (fun i => (i.zero, i.size, i.bytes)) = some (some (.agg #[.string ⟨#[]⟩, .int .i64 0]), 2, 24) := by kernel_rfl
/-- A row of entries of the reference's kind. -/
abbrev OwR (w : World) (B : Nat) (v : Value) (m : Ents) : Prop := w.ownsRow B 63 2 v m.length (ec m)
/-- Between two rounds. -/
structure RowI (w : World) (most : Int) (G : Ents) (H : Nat → Prop) (pre : Ents) (W : World) : Prop where
  out : ∃ v, Blk W (w.heap.size + 1) 27 #[v] ∧ OwR W (w.heap.size + 2) v pre ∧ ∀ k, v.ownBlock = some k → ¬ H k
  mo : Blk W w.heap.size 3 #[.int .i64 most]
  fr : Fr (fun _ => False) w W
  nO : ¬ H (w.heap.size + 1)
  nM : ¬ H w.heap.size
  lo : ∀ k, H k → w.heap.size ≤ k
  up : ∀ k, H k → k < W.heap.size
  pre_ : pre = G.take pre.length
  le_ : 0 ≤ most → (pre.length : Int) ≤ most
theorem RowI.carry (w : World) (most : Int) (G : Ents) : Carries (RowI w most G) := by
  rintro H H' pre A C ⟨⟨v, hb, ho, hv⟩, hm, hf, hO, hM, hlo, hup, hp, hle⟩ hfr hH
  have key : ∀ k, k < A.heap.size → ¬ H k → ¬ H' k := fun k hk hn h => by
    rcases hH k h with h | h
    · exact hn h
    · omega
  refine ⟨⟨v, hb.fr hfr hO, own_fr ho hfr hv, fun k hk => key k (World.ownsRow.lt ho k hk).2 (hv k hk)⟩, hm.fr hfr hM, hf.trans hfr (fun i hi h => by have := hlo i h; omega), key _ hb.lt hO, key _ hm.lt hM, fun k hk => ?_, fun k hk => ?_, hp, hle⟩
  · rcases hH k hk with h | h
    · exact hlo k h
    · have := hf.size; omega
  · rcases hH k hk with h | h
    · have := hup k h; have := hfr.size; omega
    · omega
/-- What is handed on when the loop is left early. -/
def RowX (w : World) (most : Int) (G : Ents) (H : Nat → Prop) (_ : Ents) (W : World) : Prop := ∃ pre, RowI w most G H pre W ∧ 0 ≤ most ∧ most ≤ (pre.length : Int)
theorem RowX.carry (w : World) (most : Int) (G : Ents) : Carries (RowX w most G) := by
  rintro H H' _ A C ⟨pre, hi, h1, h2⟩ hfr hH
  exact ⟨pre, RowI.carry w most G H H' pre A C hi hfr hH, h1, h2⟩
/-- So many of them. -/
def upto (most : Int) (G : Ents) : Ents := if 0 ≤ most then G.take most.toNat else G

theorem row_next {w : World} {most : Int} {G : Ents} {H : Nat → Prop} {pre : Ents} {w2 w9 : World} {A A9 : Option Addr} {q c c9 L : Nat} {yk : List UInt8} {yv : Int} (hi : RowI w most G H pre w2) (_ : H L)
    (ho : w2.ownsRow (w.heap.size + 2) 63 2 (.slice A q c) q (ec pre)) (hv : ∀ k, (Value.slice A q c).ownBlock = some k → ¬ H k) (hq : pre.length = q) (hok : G[pre.length]? = some (yk, yv))
    (hb : Blk w9 (w.heap.size + 1) 27 #[.slice A q c]) (ho9 : w9.ownsRow (w.heap.size + 2) 63 2 (.slice A9 (q + 1) c9) (q + 1) (ec pre ++ ec [(yk, yv)]))
    (hf : Fr (fun k => (Value.slice A q c).ownBlock = some k) (w2.alloc (.cells #[.string (strOf yk), .int .i64 yv] 63)) w9)
    (hn : (Value.slice A9 (q + 1) c9).ownBlock = (Value.slice A q c).ownBlock ∨ (Value.slice A9 (q + 1) c9).ownBlock = some (w2.alloc (.cells #[.string (strOf yk), .int .i64 yv] 63)).heap.size)
    (hm : 0 ≤ most → (q : Int) + 1 ≤ most) :
    Fr (fun k => ¬ H k) w2 (w9.setCell ⟨w.heap.size + 1, 0, none⟩ (.slice A9 (q + 1) c9)) ∧ RowI w most G H (pre ++ [(yk, yv)]) (w9.setCell ⟨w.heap.size + 1, 0, none⟩ (.slice A9 (q + 1) c9)) := by
  have hH := hi.up
  have F1 : Fr (fun k => ¬ H k) w2 w9 := (((Fr.refl (fun _ => False) w2).alloc _).mono (fun _ _ h => h.elim)).trans hf (fun k _ h => hv k h)
  have F2 : Fr (fun k => ¬ H k) w2 (w9.setCell ⟨w.heap.size + 1, 0, none⟩ (.slice A9 (q + 1) c9)) := F1.setCell (fun _ => hi.nO) _
  have fz := hi.fr.size
  have F3 : Fr (fun k => k = w.heap.size + 1 ∨ (Value.slice A q c).ownBlock = some k) w2 (w9.setCell ⟨w.heap.size + 1, 0, none⟩ (.slice A9 (q + 1) c9)) := ((((Fr.refl (fun _ => False) w2).alloc _).mono (fun _ _ h => h.elim)).trans hf (fun k _ h => .inr h)).setCell (fun _ => .inl rfl) _
  have hne := own_blk_ne ho9 hb (by decide)
  have hlen : (pre ++ [(yk, yv)]).length = q + 1 := by rw [List.length_append, hq]; rfl
  refine ⟨F2, ⟨⟨_, hb.set_ 0 (.slice A9 (q + 1) c9), ?_, ?_⟩, ?_, ?_, hi.nO, hi.nM, hi.lo, fun k h => Nat.lt_of_lt_of_le (hH k h) F2.size, ?_, ?_⟩⟩
  · unfold OwR
    rw [ec_append, hlen]
    exact own_fr ho9 ((Fr.refl (fun k => k = w.heap.size + 1) w9).setCell (fun _ => rfl) _) (fun k hk e => hne (by rw [hk, e]))
  · intro k hk h
    rcases hn with hn | hn
    · exact hv k (hn ▸ hk) h
    · rw [hn, World.size_alloc] at hk
      cases hk
      have := hH _ h
      omega
  · refine hi.mo.fr F3 ?_
    rintro (h | h)
    · omega
    · have := (World.ownsRow.lt ho _ h).1
      omega
  · refine hi.fr.trans F3 ?_
    rintro k hk (h | h)
    · omega
    · have := (World.ownsRow.lt ho _ h).1
      omega
  · rw [hlen, List.take_add_one, ← hq, ← hi.pre_, hok]
    rfl
  · rw [hlen]
    intro h
    have := hm h
    omega

theorem run_equalIn_func_nil (f : Fn) (lb : Array Value) (d : Nat) (W : World) : (Op.equalIn (d + 1) 46 (.func f #[] lb) .nilFunc).run Tryd.prog W = .ok false W := by
  simp [Op.equalIn, run_underlying Tryd.underlying46]
theorem run_eql_func_nil (f : Fn) (lb : Array Value) (W : World) : (binOp .eql 46 (.func f #[] lb) .nilFunc).run Tryd.prog W = .ok (.bool false) W := by
  simp only [binOp]
  simp [Op.equal, Op.maxDepth, run_equalIn_func_nil f lb 9999 W]

theorem wpListIn_app {P : Program} {F : Fence} {m' : Nat} {w : World} {ops : Array Oper} {rest : List Oper} {o : Oper} {a : Act} {Q : Exit → Act → World → Prop} (hgd : o.guard = none) (s x : Operand) (t tx : TypeId)
    (ho : o.op = .call { callee := .builtin .append, args := #[s, x], argTypes := #[t, tx] })
    (base : Nat) (e : TypeId) (i : TypeInfo) (z : Value) (size bytes : Nat) (ht : P.underlying t = some (.slice e)) (hi : P.info? e = some i) (hz : i.zero = some z)
    (hsize : i.size = size) (hby : i.bytes = bytes) (hzs : z.cells.size = size)
    (v : Value) (n : Nat) (xs : List Value) (hv : a.eval s = v) (hown : w.ownsRow base e size v n xs)
    (xv : Value) (m : Nat) (news : List Value) (hx : a.eval x = xv) (hs : Src P size tx xv m news w)
    (hbytes : (n + m) * bytes ≤ 140737488355328) (h63 : n + m ≤ maxLen) (hbase : base ≤ w.heap.size)
    (h : ∀ v' w', w'.ownsRow base e size v' (n + m) (xs ++ news) → Fr (fun k => v.ownBlock = some k) w w' → (v'.ownBlock = v.ownBlock ∨ v'.ownBlock = some w.heap.size) → wpListIn F m' P ops Q rest (a.put o.dst v') w') :
    wpListIn F m' P ops Q (o :: rest) a w := by
  obtain ⟨v', w', hr, h2, h3, h4⟩ := run_app (P := P) w base t tx o.type e i z size bytes ht hi hz hsize hby hzs v n xs hown xv m news hs hbytes h63 hbase
  exact stepIn_append hgd s x t tx ho v xv hv hx hr (h v' w' h2 h3 h4)

set_option maxRecDepth 100000 in
set_option maxHeartbeats 4000000 in
theorem row_c (w : World) (gf : Nat) (fnG : Func) (hgf : Tryd.prog.funcs[gf]? = some fnG) (hen : ∀ args w, (callFunc gf args).run Tryd.prog w = .ok (.enter gf args) w) (lb : Array Value) (most : Int) (G : Ents) (hG : G.length ≤ 100000) (hmost : most < 9223372036854775807)
    (hit : ∀ n L W1, 1 ≤ n → Fr (fun _ => False) w W1 → IteratesB Tryd.prog n gf lb encE (fun pre y => G[pre.length]? = some y) (fun xs => xs.length = G.length) L W1) :
    Calls Tryd.prog 20 #[.func (.func gf) #[] lb, .int .i64 most] w fun e w' => ∃ v, e = .returned v ∧ OwR w' w.heap.size v (upto most G) ∧ Fr (fun _ => False) w w' := by
  obtain ⟨i0, hi0, hz0, hz1, hz2⟩ := info_parts ent_info
  have HIN := Lib.hid hi0
  have HIT := Lib.hid hit
  have HEN := Lib.hid hen
  clear hit hen hi0
  refine (callsIn_wide (n := 9)).1 ?_
  refine callsIn_of_wp_marks Tryd.func20 rfl trivial ?_ rfl
  simp only [Tryd.ntmps20, List.size_toArray, List.length_cons, List.length_nil, Nat.reduceAdd, Nat.reduceSub, Array.replicate_succ, Array.replicate_zero, List.push_toArray, List.append_toArray, List.nil_append, List.cons_append]
  gi_wp2_with (rw [run_eql_func_nil])
  have S0 : ((w.alloc (.cells #[.int .i64 most] 3)).alloc (.cells #[.slice none 0 0] 27)).heap.size = w.heap.size + 2 := by simp
  have I0 : RowI w most G (fun _ => False) [] ((w.alloc (.cells #[.int .i64 most] 3)).alloc (.cells #[.slice none 0 0] 27)) := by
    have o1 := Blk.new (w.alloc (.cells #[.int .i64 most] 3)) 27 #[.slice none 0 0]
    rw [World.size_alloc] at o1
    exact ⟨⟨_, o1, World.ownsRow_nil _ _ _ _, fun _ h => by cases h⟩, (Blk.new w _ _).alloc _, ((Fr.refl _ w).alloc _).alloc _, id, id, fun _ h => h.elim, fun _ h => h.elim, rfl, fun h => by simpa using h⟩
  have HS0 := Lib.hid S0
  have HI0 := Lib.hid I0
  clear S0 I0
  generalize ((w.alloc (.cells #[.int .i64 most] 3)).alloc (.cells #[.slice none 0 0] 27)) = w0 at *
  refine wpIn_range_brk (α := List UInt8 × Int) (gf := gf) (lb := lb) rfl HEN.out encE (fun _ => rfl) (fun pre y => G[pre.length]? = some y) (fun xs => xs.length = G.length) 0 (RowI w most G) (RowX w most G) (RowI.carry w most G) (RowX.carry w most G) HI0.out ?it ?round ?done ?stop
  case it =>
    intro W1 hs1 hf1
    exact HIT.out _ _ W1 (by omega) (HI0.out.fr.trans hf1 (fun _ _ h => h))
  case round =>
    intro H pre y W' hD hL hi hsz hok
    obtain ⟨yk, yv⟩ := y
    unfold encE
    gi_wp2_with fail
    refine ⟨trivial, fun w2 hi2 => ?_⟩
    obtain ⟨v, hb, ho, hv⟩ := hi2.out
    obtain ⟨q, hq⟩ : ∃ q, pre.length = q := ⟨_, rfl⟩
    have HI2 := Lib.hid hi2
    have HHL := Lib.hid hL
    have HHD := Lib.hid hD
    have HB := Lib.hid hb
    have HV := Lib.hid hv
    have HOK := Lib.hid hok
    have hplen : pre.length < G.length := (List.getElem?_eq_some_iff.1 hok).1
    obtain ⟨A, c, rfl, -, -⟩ := own_slice ho
    unfold OwR at ho
    rw [hq] at ho hplen HB HV
    have HO := Lib.hid ho
    have HQ := Lib.hid hq
    have c0 : w2.cell? ⟨w.heap.size + 1, 0, none⟩ = some (.slice A q c) := HB.out.cell 0
    have k0 := HB.out.frozen 0
    have m0 := hi2.mo.cell 0
    have hi2s := hi2.fr.size
    have hbl := HB.out.lt
    clear hi2 hb ho hv hok hi hq hL hD
    by_cases h0 : 0 ≤ most
    · have d0 : decide ((0 : Int) ≤ most) = true := decide_eq_true h0
      by_cases h1 : most ≤ (q : Int)
      · have d1 : decide (most ≤ (q : Int)) = true := decide_eq_true h1
        gi_wp2_with fail
        exact ⟨rfl, Fr.refl _ _, pre, HI2.out, h0, by rw [HQ.out]; exact h1⟩
      · have d1 : decide (most ≤ (q : Int)) = false := decide_eq_false h1
        gi_wp2_with (first
          | (gi_at_builtin
             refine wpListIn_app rfl _ _ _ _ rfl (w.heap.size + 2) 63 i0 _ 2 24 Tryd.underlying27 HIN.out hz0 hz1 hz2 (by kernel_rfl) _ q _ rfl (own_fr HO.out ((Fr.refl (fun _ => False) w2).alloc (.cells #[.string (strOf yk), .int .i64 yv] 63)) (fun _ _ h => h)) _ 1 (ec [(yk, yv)]) rfl
               (Src.ofSlice _ Tryd.underlying27 ⟨w2.heap.size, 0, none⟩ 1 1 (ec [(yk, yv)]) (ec_length _) (fun j u hj => by rw [Addr.add_lit, (Blk.new w2 63 #[.string (strOf yk), .int .i64 yv]).cell, ← Array.getElem?_toList, Nat.zero_add]; exact hj) (ec_one _))
               (by omega) (by unfold maxLen; omega) (by rw [World.size_alloc]; omega) ?_
             intro v9 w9 hown9 hf9 hn9
             obtain ⟨A9, c9, rfl, -, -⟩ := own_slice hown9
             have B9 := (HB.out.alloc (.cells #[.string (strOf yk), .int .i64 yv] 63)).fr hf9 (own_blk_ne HO.out HB.out (by decide))
             have y0 : w9.cell? ⟨w.heap.size + 1, 0, none⟩ = some (.slice A q c) := B9.cell 0
             have y1 : w9.frozen? ⟨w.heap.size + 1, 0, none⟩ = false := B9.frozen 0
             have HB9 := Lib.hid B9
             have HO9 := Lib.hid hown9
             have HF9 := Lib.hid hf9
             have HN9 := Lib.hid hn9
             clear B9 hown9 hf9 hn9))
        exact row_next HI2.out HHL.out HO.out HV.out HQ.out HOK.out HB9.out HO9.out HF9.out HN9.out (fun h => by omega)
    · have d0 : decide ((0 : Int) ≤ most) = false := decide_eq_false h0
      gi_wp2_with (first
        | (gi_at_builtin
           refine wpListIn_app rfl _ _ _ _ rfl (w.heap.size + 2) 63 i0 _ 2 24 Tryd.underlying27 HIN.out hz0 hz1 hz2 (by kernel_rfl) _ q _ rfl (own_fr HO.out ((Fr.refl (fun _ => False) w2).alloc (.cells #[.string (strOf yk), .int .i64 yv] 63)) (fun _ _ h => h)) _ 1 (ec [(yk, yv)]) rfl
             (Src.ofSlice _ Tryd.underlying27 ⟨w2.heap.size, 0, none⟩ 1 1 (ec [(yk, yv)]) (ec_length _) (fun j u hj => by rw [Addr.add_lit, (Blk.new w2 63 #[.string (strOf yk), .int .i64 yv]).cell, ← Array.getElem?_toList, Nat.zero_add]; exact hj) (ec_one _))
             (by omega) (by unfold maxLen; omega) (by rw [World.size_alloc]; omega) ?_
           intro v9 w9 hown9 hf9 hn9
           obtain ⟨A9, c9, rfl, -, -⟩ := own_slice hown9
           have B9 := (HB.out.alloc (.cells #[.string (strOf yk), .int .i64 yv] 63)).fr hf9 (own_blk_ne HO.out HB.out (by decide))
           have y0 : w9.cell? ⟨w.heap.size + 1, 0, none⟩ = some (.slice A q c) := B9.cell 0
           have y1 : w9.frozen? ⟨w.heap.size + 1, 0, none⟩ = false := B9.frozen 0
           have HB9 := Lib.hid B9
           have HO9 := Lib.hid hown9
           have HF9 := Lib.hid hf9
           have HN9 := Lib.hid hn9
           clear B9 hown9 hf9 hn9))
      exact row_next HI2.out HHL.out HO.out HV.out HQ.out HOK.out HB9.out HO9.out HF9.out HN9.out (fun h => by omega)
  case done =>
    intro D xs W' hD hfin hi hd
    have hxs : xs = upto most G := by
      have h1 := hi.pre_
      rw [hfin, List.take_length] at h1
      unfold upto
      split
      · rename_i h0
        have := hi.le_ h0
        rw [h1, List.take_of_length_le]
        rw [← hfin]
        omega
      · exact h1
    obtain ⟨v, hb, ho, hv⟩ := hi.out
    obtain ⟨A, c, rfl, -, -⟩ := own_slice ho
    have c0 := hb.cell 0
    have HO := Lib.hid ho
    have HF := Lib.hid hi.fr
    have HD := Lib.hid hd
    have HV := Lib.hid hv
    have HXS := Lib.hid hxs
    have hDs : D = w.heap.size + 2 := by rw [hD, HS0.out]
    clear hi hb ho hv hd hfin hxs hD
    gi_wp2_with fail
    refine ⟨by simp, .inl ⟨_, _, rfl, run_takeDeferred HD.out, ?_⟩⟩
    have fp : Fr (fun k => k = D) W' (W'.putObj D (.deferred none)) := (Fr.refl (fun k => k = D) W').putObj (fun _ => rfl) _
    refine ⟨.slice A xs.length c, by simp [results, Tryd.results20, go_sem], _, rfl, ?_, HF.out.trans fp (fun i hi e => by omega)⟩
    rw [← HXS.out]
    exact own_base (own_fr HO.out fp (fun k hk e => HV.out k hk e)) (fun k hk => by have := (World.ownsRow.lt HO.out k hk).1; omega)
  case stop =>
    intro D xs0 W' hD hi hd
    obtain ⟨xs, hi, h0, h1⟩ := hi
    have hxs : xs = upto most G := by
      have h2 := hi.le_ h0
      unfold upto
      rw [if_pos h0]
      have h3 := hi.pre_
      rw [show xs.length = most.toNat by omega] at h3
      exact h3
    obtain ⟨v, hb, ho, hv⟩ := hi.out
    obtain ⟨A, c, rfl, -, -⟩ := own_slice ho
    have c0 := hb.cell 0
    have HO := Lib.hid ho
    have HF := Lib.hid hi.fr
    have HD := Lib.hid hd
    have HV := Lib.hid hv
    have HXS := Lib.hid hxs
    have hDs : D = w.heap.size + 2 := by rw [hD, HS0.out]
    clear hi hb ho hv hd h0 h1 hxs hD
    gi_wp2_with fail
    refine ⟨by simp, .inl ⟨_, _, rfl, run_takeDeferred HD.out, ?_⟩⟩
    have fp : Fr (fun k => k = D) W' (W'.putObj D (.deferred none)) := (Fr.refl (fun k => k = D) W').putObj (fun _ => rfl) _
    refine ⟨.slice A xs.length c, by simp [results, Tryd.results20, go_sem], _, rfl, ?_, HF.out.trans fp (fun i hi e => by omega)⟩
    rw [← HXS.out]
    exact own_base (own_fr HO.out fp (fun k hk e => HV.out k hk e)) (fun k hk => by have := (World.ownsRow.lt HO.out k hk).1; omega)
end Go.Proofs.YtillifkilkjpdaaDoor
