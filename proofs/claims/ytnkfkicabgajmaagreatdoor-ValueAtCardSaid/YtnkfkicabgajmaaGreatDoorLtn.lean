/-
  CONTRACTS of value.List (of two), Text, Number; small things for the law.
-/
import Derived.Test.YtnkfkicabgajmaaGreatDoorGOwn
import Derived.Test.YtnkfkicabgajmaaGreatDoorAtP
import Derived.Test.YtnkfkicabgajmaaGreatDoorRmay
import Derived.Test.YtnkfkicabgajmaaGreatDoorSmm
namespace Go.Proofs.YtnkfkicabgajmaaGreatDoor
set_option linter.unusedSimpArgs false
set_option linter.unusedVariables false
open Go Go.RowKit

theorem build_val (W : World) (k n : Int) (t : ByteArray) (A : Option Addr) (nl cl : Nat) : (Instr.build 25 #[(0, .int .i64 5), (3, .slice A nl cl)]).run Tryz.prog W = .ok (.agg #[.int .i64 5, .int .i64 0, .string ⟨#[]⟩, .slice A nl cl, .slice none 0 0]) W := by kernel_rfl
set_option maxRecDepth 100000 in
theorem list_c (w : World) {D E : Nat → Prop} {C1 C2 : Array Value} {a b : V} {q : Nat} (r1 : RdV D w C1 a) (r2 : RdV E w C2 b) (hq : w.rangeAt q 0 (C1.toList ++ C2.toList)) (s1 : Sm a) (s2 : Sm b) :
    Calls Tryz.prog 17 #[.slice (some ⟨q, 0, none⟩) 2 2] w fun e w' => ∃ A c, e = .returned (.agg (vcs 5 0 [] A 2 c none 0 0)) ∧ RdV (fun _ => True) w' (vcs 5 0 [] A 2 c none 0 0) (.mk 5 0 [] [a, b] []) ∧ Fr (fun _ => False) w w' := by
  have hp : VP (fun _ => True) w 5 0 [] [a, b] [] (some ⟨q, 0, none⟩) 2 none 0 [C1, C2] := by
    refine ⟨⟨by decide, by decide, by decide, by decide, Nat.zero_le _, (by simp), Nat.zero_le _, fun _ h => by cases h⟩, Rd.none_ _ _, fun h => absurd h (by decide), Nat.le_refl _, rfl, ?_, ⟨?_, fun _ => ⟨_, rfl, fun j u hu => ?_⟩⟩, fun _ _ _ => trivial, Nat.le_refl _, ?_⟩
    · intro C hC
      simp only [List.mem_cons, List.not_mem_nil, or_false] at hC
      rcases hC with rfl | rfl
      · exact r1.size
      · exact r2.size
    · simp [flat, r1.size, r2.size]
    · rw [Addr.add_lit]
      exact hq j u (by simpa [flat] using hu)
    · intro i C x h1 h2
      rcases i with _ | i
      · simp at h1 h2
        subst h1 h2
        exact r1.mono (fun _ _ => trivial)
      · rcases i with _ | i
        · simp at h1 h2
          subst h1 h2
          exact r2.mono (fun _ _ => trivial)
        · simp at h1
  have ALL := Lib.hid (fun W (hW : Fr (fun _ => False) w W) => ownAll_c W (hp.far hW) (fun x hx W' C hC => own_c x W' _ C hC (by
    simp only [List.mem_cons, List.not_mem_nil, or_false] at hx
    rcases hx with rfl | rfl
    · exact s1
    · exact s2)) (by simp))
  have hres := results_one (P := Tryz.prog) (fn := Tryz.f17) (p := 2) (ty := 25) Tryz.results17
  obtain ⟨bx, hbx⟩ : ∃ bx, w.heap.size = bx := ⟨_, rfl⟩
  have HBX := Lib.hid hbx
  clear hp r1 r2 hq s1 s2 hbx
  go_enter Tryz.func17, Tryz.ntmps17
  go_upto_region 1 with fail
  refine abs_world (fun W => Hid (Blk W w.heap.size 25 (vcs 0 0 [] none 0 0 none 0 0)) ∧ Hid (Fr (fun _ => False) w W)) ⟨Blk.new w _ _, (Fr.refl _ w).alloc _⟩ ?_
  rintro W1 ⟨R1, F1⟩
  rw [HBX.out] at R1 ⊢
  go_wp2_with fail
  refine (ALL.out W1 F1.out).mono ?_
  rintro e W2 ⟨A, c, css, Fs, rfl, ol, f2⟩
  have R2 := Lib.hid (keepB R1.out f2)
  have F2 : Hid (Fr (fun _ => False) w W2) := Lib.hid (F1.out.trans f2 (fun _ _ h => h))
  have OV : Hid (RdV (fun b => W1.heap.size ≤ b) W2 (vcs 5 0 [] A 2 c none 0 0) (.mk 5 0 [] [a, b] [])) := Lib.hid ((OwnV.of (ks := []) (Ak := none) (ck := 0) ⟨by decide, by decide, by decide, by decide, Nat.zero_le _, (by simp), Nat.zero_le _, fun _ h => by cases h⟩ ⟨World.ownsRow_nil _ _ _ _, fun g h => by simp [Value.ownBlock] at h⟩ ol (fun i b hi hb => by simp [Value.ownBlock])).rd.mono (fun b hb => hb.1))
  have s1 := R1.out.lt
  have S1 := Lib.hid (show (Tryz.prog.info? 25).map (·.size) = some (vcs 5 0 [] A 2 c none 0 0).size from lw5)
  have HO1 := Lib.hid (show (vcs 5 0 [] A 2 c none 0 0).all (·.oneCell') = true by simp [vcs, Value.oneCell'])
  clear f2 ol ALL
  go_wp2_with (refine wpList_store_blk rfl 25 _ _ rfl bx (vcs 5 0 [] A 2 c none 0 0) rfl rfl R2.out rfl S1.out HO1.out ?_
               intro W9 q9 f9
               have F9 := Lib.hid f9
               have Q9 := Lib.hid q9
               clear q9 f9)
  refine bodyPost_ret (v := .agg (vcs 5 0 [] A 2 c none 0 0)) (hres _ W9 bx 25 _ _ rfl Q9.out Tryz.underlying25 rfl S1.out) rfl ?_
  have hbx := HBX.out
  exact ⟨A, c, rfl, (OV.out.fr F9.out (fun q hq he => by omega)).mono (fun _ _ => trivial), F2.out.trans F9.out (fun q hq he => by omega)⟩
theorem list_at {D : Nat → Prop} {W : World} {A : Option Addr} {c : Nat} {a b : V} (h : RdV D W (vcs 5 0 [] A 2 c none 0 0) (.mk 5 0 [] [a, b] [])) : ∃ q off C, A = some ⟨q, off, none⟩ ∧ RdV D W C a ∧ W.rangeAt q off C.toList ∧ C.size = 5 := by
  obtain ⟨k, n, t, l, ks, Al, cl, Ak, ck, css, e, ec, hp⟩ := h.inv
  injection e with e1 e2 e3 e4 e5
  subst e1 e2 e3 e4 e5
  have hA : A = Al := by
    have := congrArg (fun x : Array Value => x[3]?) ec
    simp [vcs] at this
    exact this.1
  obtain ⟨q, off, C, h1, -, h2, h3, h4⟩ := hp.at_ (i := 0) (by simp)
  exact ⟨q, off, C, hA.trans h1, h2, by simpa using h3, h4⟩
theorem rd_txt (W : World) (t : List UInt8) (ht : t.length ≤ 140737488355328) : RdV (fun _ => True) W (vcs 4 0 t none 0 0 none 0 0) (.mk 4 0 t [] []) :=
  .mk (l := []) (ks := []) [] ⟨by decide, by decide, by decide, by decide, ht, Nat.zero_le _, Nat.zero_le _, fun _ h => by cases h⟩ (Rd.none_ _ _) (fun h => absurd h (by decide)) (Nat.le_refl _) rfl (fun _ h => by cases h) (Rd.none_ _ _) (fun h => absurd h (by decide)) (Nat.le_refl _) (fun i C x h => by simp at h)
theorem rd_num (W : World) (n : Int) (h0 : -9223372036854775808 ≤ n) (h1 : n ≤ 9223372036854775807) : RdV (fun _ => True) W (vcs 3 n [] none 0 0 none 0 0) (.mk 3 n [] [] []) :=
  .mk (l := []) (ks := []) [] ⟨by decide, by decide, h0, h1, Nat.zero_le _, Nat.zero_le _, Nat.zero_le _, fun _ h => by cases h⟩ (Rd.none_ _ _) (fun h => absurd h (by decide)) (Nat.le_refl _) rfl (fun _ h => by cases h) (Rd.none_ _ _) (fun h => absurd h (by decide)) (Nat.le_refl _) (fun i C x h => by simp at h)
theorem mtext_c (w : World) (t : List UInt8) : Calls Tryz.prog 18 #[.string (strOf t)] w fun e w' => e = .returned (.agg (vcs 4 0 t none 0 0 none 0 0)) ∧ Fr (fun _ => False) w w' := by
  have hres := results_one (P := Tryz.prog) (fn := Tryz.f18) (p := 2) (ty := 25) Tryz.results18
  obtain ⟨bx, hbx⟩ : ∃ bx, w.heap.size = bx := ⟨_, rfl⟩
  have HBX := Lib.hid hbx
  clear hbx
  go_enter Tryz.func18, Tryz.ntmps18
  go_upto_region 1 with fail
  refine abs_world (fun W => Hid (Blk W w.heap.size 25 (vcs 0 0 [] none 0 0 none 0 0)) ∧ Hid (Fr (fun _ => False) w W)) ⟨Blk.new w _ _, (Fr.refl _ w).alloc _⟩ ?_
  rintro W1 ⟨R1, F1⟩
  rw [HBX.out] at R1 ⊢
  have S1 := Lib.hid (show (Tryz.prog.info? 25).map (·.size) = some (vcs 4 0 t none 0 0 none 0 0).size from lw5)
  have HO1 := Lib.hid (show (vcs 4 0 t none 0 0 none 0 0).all (·.oneCell') = true by simp [vcs, Value.oneCell'])
  go_wp2_with (refine wpList_store_blk rfl 25 _ _ rfl bx (vcs 4 0 t none 0 0 none 0 0) rfl rfl R1.out rfl S1.out HO1.out ?_
               intro W9 q9 f9
               have F9 := Lib.hid f9
               have Q9 := Lib.hid q9
               clear q9 f9)
  refine bodyPost_ret (v := .agg (vcs 4 0 t none 0 0 none 0 0)) (hres _ W9 bx 25 _ _ rfl Q9.out Tryz.underlying25 rfl S1.out) rfl ?_
  have hbx := HBX.out
  exact ⟨rfl, F1.out.trans F9.out (fun q hq he => by omega)⟩
theorem mnum_c (w : World) (n : Int) : Calls Tryz.prog 19 #[.int .i64 n] w fun e w' => e = .returned (.agg (vcs 3 n [] none 0 0 none 0 0)) ∧ Fr (fun _ => False) w w' := by
  have hres := results_one (P := Tryz.prog) (fn := Tryz.f19) (p := 2) (ty := 25) Tryz.results19
  obtain ⟨bx, hbx⟩ : ∃ bx, w.heap.size = bx := ⟨_, rfl⟩
  have HBX := Lib.hid hbx
  clear hbx
  go_enter Tryz.func19, Tryz.ntmps19
  go_upto_region 1 with fail
  refine abs_world (fun W => Hid (Blk W w.heap.size 25 (vcs 0 0 [] none 0 0 none 0 0)) ∧ Hid (Fr (fun _ => False) w W)) ⟨Blk.new w _ _, (Fr.refl _ w).alloc _⟩ ?_
  rintro W1 ⟨R1, F1⟩
  rw [HBX.out] at R1 ⊢
  have S1 := Lib.hid (show (Tryz.prog.info? 25).map (·.size) = some (vcs 3 n [] none 0 0 none 0 0).size from lw5)
  have HO1 := Lib.hid (show (vcs 3 n [] none 0 0 none 0 0).all (·.oneCell') = true by simp [vcs, Value.oneCell'])
  go_wp2_with (refine wpList_store_blk rfl 25 _ _ rfl bx (vcs 3 n [] none 0 0 none 0 0) rfl rfl R1.out rfl S1.out HO1.out ?_
               intro W9 q9 f9
               have F9 := Lib.hid f9
               have Q9 := Lib.hid q9
               clear q9 f9)
  refine bodyPost_ret (v := .agg (vcs 3 n [] none 0 0 none 0 0)) (hres _ W9 bx 25 _ _ rfl Q9.out Tryz.underlying25 rfl S1.out) rfl ?_
  have hbx := HBX.out
  exact ⟨rfl, F1.out.trans F9.out (fun q hq he => by omega)⟩

/-! How great what was put together is. -/
theorem ksz_app (a b : List (List UInt8)) : ksz (a ++ b) = ksz a + ksz b := by
  induction a with
  | nil => simp [ksz]
  | cons s a ih => rw [List.cons_append, ksz, ksz, ih]; omega
theorem pszs_app (a b : List V) : pszs (a ++ b) = pszs a + pszs b := by
  induction a with
  | nil => simp [pszs]
  | cons s a ih => rw [List.cons_append, pszs, pszs, ih]; omega
theorem ksz_cut (l : List (List UInt8)) (p h : Nat) : ksz (l.take p) + ksz (l.drop (p + h)) ≤ ksz l := by
  have e1 := ksz_app (l.take p) (l.drop p)
  rw [List.take_append_drop] at e1
  have e2 := ksz_app ((l.drop p).take h) ((l.drop p).drop h)
  rw [List.take_append_drop, List.drop_drop] at e2
  omega
theorem pszs_cut (l : List V) (p h : Nat) : pszs (l.take p) + pszs (l.drop (p + h)) ≤ pszs l := by
  have e1 := pszs_app (l.take p) (l.drop p)
  rw [List.take_append_drop] at e1
  have e2 := pszs_app ((l.drop p).take h) ((l.drop p).drop h)
  rw [List.take_append_drop, List.drop_drop] at e2
  omega
theorem put_size {v x : V} {key : List UInt8} (h6 : v.k = 6) (hm : mayV v = true) (hk : key.length ≤ 2000) : psz (putV v key x) ≤ 10000 + psz x := by
  obtain ⟨k, n, t, l, ks⟩ := v
  have h6' : k = 6 := h6
  subst h6'
  rw [putV_ptk (may_fields hm).1]
  have hm2 := hm
  unfold mayV at hm2
  simp only [Bool.and_eq_true, decide_eq_true_eq] at hm2
  have h1 := hm2.2
  rw [psz] at h1 ⊢
  unfold ownSz at h1 ⊢
  simp at h1 ⊢
  rw [ksz_app, ksz, pszs_app, pszs]
  have := ksz_cut ks (posK ks key) (hK ks key)
  have := pszs_cut l (posK ks key) (hK ks key)
  have := nesc_le key
  omega
theorem put_pr {v x : V} {key : List UInt8} (h6 : v.k = 6) (hm : mayV v = true) (hk : key.length ≤ 2000) (hn : Nums x) (hx : decide (4000 < partsV x 20) = false) (hf : fieldsV (putV v key x) = true) : (prV (putV v key x)).length ≤ 1000000000 := by
  rw [prV_len _ hf]
  have h1 := put_size (x := x) h6 hm hk
  have hfx : fieldsV x = true := by
    obtain ⟨k, n, t, l, ks⟩ := v
    have h6' : k = 6 := h6
    subst h6'
    exact fields_el hf (put_mem (may_fields hm).1)
  have h2 := prV_parts x 20 hfx hn (by simpa using hx)
  have h3 : partsV x 20 ≤ 4000 := by simpa using hx
  rw [prV_len _ hfx] at h2
  omega
theorem put_sm {v x : V} {key : List UInt8} (h6 : v.k = 6) (hm : mayV v = true) (hs : Sm v) (hx : Sm x) (hk : key.length ≤ 2000) : Sm (putV v key x) := by
  obtain ⟨k, n, t, l, ks⟩ := v
  have h6' : k = 6 := h6
  subst h6'
  have hkl := may_kl hm
  rw [putV_ptk (may_fields hm).1]
  have hs' := hs.inv
  refine .mk (Nat.zero_le _) ?_ ?_ ?_ ?_
  · simp only [List.length_append, List.length_cons, List.length_take, List.length_drop]
    omega
  · simp only [List.length_append, List.length_cons, List.length_take, List.length_drop]
    omega
  · intro s hs2
    rcases List.mem_append.1 hs2 with h | h
    · exact hs'.ks s (List.mem_of_mem_take h)
    · rcases List.mem_cons.1 h with rfl | h
      · omega
      · exact hs'.ks s (List.mem_of_mem_drop h)
  · intro y hy
    rcases List.mem_append.1 hy with h | h
    · exact hs'.el y (List.mem_of_mem_take h)
    · rcases List.mem_cons.1 h with rfl | h
      · exact hx
      · exact hs'.el y (List.mem_of_mem_drop h)
end Go.Proofs.YtnkfkicabgajmaaGreatDoor
