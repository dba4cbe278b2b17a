/-
  THE HEAP behind its interface: CONTRACTS of Push.
-/
import Derived.Test.YtillifkilkjpdaaDoorHp3
import Derived.Deep.RegionLaw
import Derived.StillTailTactics
namespace Go.Proofs.YtillifkilkjpdaaDoor
set_option linter.unusedSimpArgs false
set_option linter.unusedVariables false
open Go Go.RowKit

theorem front_info : (Tryd.prog.info? 81).map (fun i => (i.zero, i.size, i.bytes)) = some (some (.agg #[.slice none 0 0, .int .i64 0]), 2, 32) := by kernel_rfl
def fval (f : Frt) : Value := .agg #[.slice (some ⟨f.g, f.off, none⟩) f.l.length f.cap, .int .i64 (f.pl : Int)]

theorem step_app {P : Program} {w : World} {ops : Array Oper} {o : Oper} {a : Act} {K : Act → World → Prop} {Q : Exit → Act → World → Prop} {E : Prop} (hgd : o.guard = none) (s x : Operand) (t tx : TypeId)
    (ho : o.op = .call { callee := .builtin .append, args := #[s, x], argTypes := #[t, tx] })
    (base : Nat) (e : TypeId) (i : TypeInfo) (z : Value) (size bytes : Nat) (ht : P.underlying t = some (.slice e)) (hi : P.info? e = some i) (hz : i.zero = some z)
    (hsize : i.size = size) (hby : i.bytes = bytes) (hzs : z.cells.size = size)
    (v : Value) (n : Nat) (xs : List Value) (hv : a.eval s = v) (hown : w.ownsRow base e size v n xs)
    (xv : Value) (m : Nat) (news : List Value) (hx : a.eval x = xv) (hs : Src P size tx xv m news w)
    (hbytes : (n + m) * bytes ≤ 140737488355328) (h63 : n + m ≤ maxLen) (hbase : base ≤ w.heap.size)
    (h : ∀ v' w', w'.ownsRow base e size v' (n + m) (xs ++ news) → Fr (fun k => v.ownBlock = some k) w w' → (v'.ownBlock = v.ownBlock ∨ v'.ownBlock = some w.heap.size) → K (a.put o.dst v') w') :
    if Region.wanted o (yielded ops a.tmps) = true then Oper.wp P o a w K Q else E := by
  have hw : Region.wanted o (yielded ops a.tmps) = true := by simp [Region.wanted, hgd]
  rw [if_pos hw]
  obtain ⟨v', w', hr, h2, h3, h4⟩ := run_app (P := P) w base t tx o.type e i z size bytes ht hi hz hsize hby hzs v n xs hown xv m news hs hbytes h63 hbase
  unfold Oper.wp execOp
  simp only [ho, resolve, invoke, builtin, Sem.run_bind, Sem.run_pure, Result.andThen_ok, List.map_toArray, List.map_cons, List.map_nil, hv, hx, hr]
  exact h v' w' h2 h3 h4

theorem ta_front (v : Value) (w : World) : (Instr.typeAssert (.iface 81 v) 20 81 true).run Tryd.prog w = .ok (.tuple #[v, .bool true]) w := by kernel_rfl

set_option maxRecDepth 100000 in
set_option maxHeartbeats 1000000 in
theorem fpush_c (w : World) (h B : Nat) (v : Value) (fs : List Frt) (f : Frt) (hb : Blk w h 76 #[v]) (ho : w.ownsRow B 81 2 v fs.length (fc fs)) (hm : fs.length ≤ 100000) (hB : B ≤ w.heap.size) :
    Calls Tryd.prog 101 #[.pointer (some ⟨h, 0, none⟩), .iface 81 (fval f)] w fun e w' => (∃ u, e = .returned u) ∧ ∃ v', Blk w' h 76 #[v'] ∧ w'.ownsRow B 81 2 v' (fs ++ [f]).length (fc (fs ++ [f])) ∧ Fr (fun k => k = h ∨ v.ownBlock = some k) w w' ∧ (v'.ownBlock = v.ownBlock ∨ ∃ k, v'.ownBlock = some k ∧ w.heap.size ≤ k) := by
  obtain ⟨i0, hi0, hz0, hz1, hz2⟩ := info_parts front_info
  obtain ⟨n, hn⟩ : ∃ n, fs.length = n := ⟨_, rfl⟩
  rw [hn] at ho hm
  obtain ⟨A, c, rfl, hnc, hcm⟩ := own_slice ho
  obtain ⟨fg, fo, fcap, fl, fpl⟩ := f
  obtain ⟨q, hq⟩ : ∃ q, fl.length = q := ⟨_, rfl⟩
  have HB := Lib.hid hb
  have HO := Lib.hid ho
  have HN := Lib.hid hn
  have HI := Lib.hid hi0
  have hhl := hb.lt
  have hfv : fval ⟨fg, fo, fcap, fl, fpl⟩ = .agg #[.slice (some ⟨fg, fo, none⟩) q fcap, .int .i64 (fpl : Int)] := by unfold fval; rw [hq]
  rw [hfv]
  have HQ := Lib.hid hq
  have x1 : w.cell? ⟨h, 0, none⟩ = some (.slice A n c) := hb.cell 0
  have hta := fun W => ta_front (.agg #[.slice (some ⟨fg, fo, none⟩) q fcap, .int .i64 (fpl : Int)]) W
  clear hb ho hn hi0 hfv hq
  go_enter Tryd.func101, Tryd.ntmps101
  go_wp2_with fail
  have hz : w.heap.size = w.heap.size := rfl
  have B4 := Blk.new w 81 #[.slice (some ⟨fg, fo, none⟩) q fcap, .int .i64 (fpl : Int)]
  have F4 := (Fr.refl (fun _ => False) w).alloc (.cells #[.slice (some ⟨fg, fo, none⟩) q fcap, .int .i64 (fpl : Int)] 81)
  have o4 := own_fr HO.out F4 (fun _ _ h => h)
  have b4 := HB.out.fr F4 (fun h => h)
  have b4c : (w.alloc (.cells #[.slice (some ⟨fg, fo, none⟩) q fcap, .int .i64 (fpl : Int)] 81)).cell? ⟨h, 0, none⟩ = some (.slice A n c) := b4.cell 0
  have W4 : B ≤ (w.alloc (.cells #[.slice (some ⟨fg, fo, none⟩) q fcap, .int .i64 (fpl : Int)] 81)).heap.size := by rw [World.size_alloc]; omega
  have hws : w.heap.size ≤ (w.alloc (.cells #[.slice (some ⟨fg, fo, none⟩) q fcap, .int .i64 (fpl : Int)] 81)).heap.size := F4.size
  have HB4 := Lib.hid B4
  have HF4 := Lib.hid F4
  have HO4 := Lib.hid o4
  have Hb4 := Lib.hid b4
  have y0 : (w.alloc (.cells #[.slice (some ⟨fg, fo, none⟩) q fcap, .int .i64 (fpl : Int)] 81)).cell? ⟨w.heap.size, 0, none⟩ = some (.slice (some ⟨fg, fo, none⟩) q fcap) := B4.cell 0
  have y1 : (w.alloc (.cells #[.slice (some ⟨fg, fo, none⟩) q fcap, .int .i64 (fpl : Int)] 81)).cell? ⟨w.heap.size, 1, none⟩ = some (.int .i64 (fpl : Int)) := B4.cell 1
  clear hz B4 F4 o4 b4 x1
  obtain ⟨S, hS⟩ : ∃ S, w.heap.size = S := ⟨_, rfl⟩
  rw [hS] at y0 y1 hhl hws HB4
  simp only [hS]
  have HS := Lib.hid hS
  generalize (w.alloc (.cells #[.slice (some ⟨fg, fo, none⟩) q fcap, .int .i64 (fpl : Int)] 81)) = w4 at *
  have HB5 := Lib.hid Hb4.out.drew
  have HO5 := Lib.hid (own_fr HO4.out ((Fr.refl (fun _ => False) w4).drew) (fun _ _ h => h))
  have HF5 := Lib.hid HF4.out.drew
  have W5 : B ≤ w4.drew.heap.size := W4
  have hws5 : S ≤ w4.drew.heap.size := hws
  have b4d : (w4.alloc (.cells #[.slice (some ⟨fg, fo, none⟩) q fcap, .int .i64 (fpl : Int)] 81)).cell? ⟨h, 0, none⟩ = some (.slice A n c) := (Hb4.out.alloc _).cell 0
  clear HB4 Hb4 HO4 HF4 W4 hws
  have HOX : Hid ((w4.drew.alloc (.cells #[.slice (some ⟨fg, fo, none⟩) q fcap, .int .i64 (fpl : Int)] 81)).ownsRow B 81 2 (.slice A n c) n (fc fs)) := by
    exact own_fr HO5.out ((Fr.refl (fun _ => False) w4.drew).alloc (.cells #[.slice (some ⟨fg, fo, none⟩) q fcap, .int .i64 (fpl : Int)] 81)) (fun _ _ h => h)
  have HSX : Hid (Src Tryd.prog 2 76 (.slice (some ⟨w4.heap.size, 0, none⟩) 1 1) 1 (fc [⟨fg, fo, fcap, fl, fpl⟩]) (w4.drew.alloc (.cells #[.slice (some ⟨fg, fo, none⟩) q fcap, .int .i64 (fpl : Int)] 81))) := Src.ofSlice _ Tryd.underlying76 ⟨w4.heap.size, 0, none⟩ 1 1 (fc [⟨fg, fo, fcap, fl, fpl⟩]) (fc_length _) (fun j u hj => by
    have h2 : fc [⟨fg, fo, fcap, fl, fpl⟩] = [.slice (some ⟨fg, fo, none⟩) q fcap, .int .i64 (fpl : Int)] := by rw [← HQ.out]; rfl
    rw [h2] at hj
    have hb0 : Blk (w4.drew.alloc (.cells #[.slice (some ⟨fg, fo, none⟩) q fcap, .int .i64 (fpl : Int)] 81)) w4.heap.size 81 #[.slice (some ⟨fg, fo, none⟩) q fcap, .int .i64 (fpl : Int)] := Blk.new w4.drew _ _
    rw [Addr.add_lit, hb0.cell, ← Array.getElem?_toList, Nat.zero_add]
    exact hj) (fc_one _)
  have HBX : Hid (B ≤ (w4.drew.alloc (.cells #[.slice (some ⟨fg, fo, none⟩) q fcap, .int .i64 (fpl : Int)] 81)).heap.size) := by
    show _ ≤ _
    rw [World.size_alloc]
    omega
  go_region_law (refine step_app rfl _ _ _ _ rfl B 81 i0 _ 2 32 Tryd.underlying76 HI.out hz0 hz1 hz2 (by kernel_rfl) (.slice A n c) n _ (by simp [Act.eval, Act.put]) HOX.out (.slice (some ⟨w4.heap.size, 0, none⟩) 1 1) 1 (fc [⟨fg, fo, fcap, fl, fpl⟩]) (by simp [Act.eval, Act.put]) HSX.out (by omega) (by unfold maxLen; omega) HBX.out ?_; intro v9 w9 hown9 hf9 hn9; obtain ⟨A9, c9, rfl, -, -⟩ := own_slice hown9;  have B9 := (HB5.out.alloc (.cells #[.slice (some ⟨fg, fo, none⟩) q fcap, .int .i64 (fpl : Int)] 81)).fr hf9 (own_blk_ne HO5.out HB5.out (by decide)); have y0 : w9.cell? ⟨h, 0, none⟩ = some (.slice A n c) := B9.cell 0; have y1 : w9.frozen? ⟨h, 0, none⟩ = false := B9.frozen 0; have HB9 := Lib.hid B9; have HO9 := Lib.hid hown9; have HF9 := Lib.hid hf9; have HN9 := Lib.hid hn9; clear B9 hown9 hf9 hn9)
  all_goals
    go_end0
    have hne := own_blk_ne HO9.out HB9.out (by decide)
    have FA : Fr (fun k => k = h ∨ (Value.slice A n c).ownBlock = some k) w w9 := ((HF5.out.alloc (.cells #[.slice (some ⟨fg, fo, none⟩) q fcap, .int .i64 (fpl : Int)] 81)).mono (fun _ _ h => h.elim)).trans HF9.out (fun _ _ h => .inr h)
    refine ⟨⟨_, rfl⟩, _, HB9.out.set_ 0 (.slice A9 (n + 1) c9), ?_, FA.setCell (fun _ => .inl rfl) _, ?_⟩
    · rw [fc_append, List.length_append, HN.out]
      exact own_fr HO9.out ((Fr.refl (fun k => k = h) w9).setCell (fun _ => rfl) _) (fun k hk e => hne (by rw [hk, e]))
    · rcases HN9.out with h | h
      · exact .inl h
      · exact .inr ⟨_, h, by show w.heap.size ≤ (w4.alloc _).heap.size; rw [World.size_alloc, HS.out]; have h5 : S ≤ w4.heap.size := hws5; omega⟩
end Go.Proofs.YtillifkilkjpdaaDoor
