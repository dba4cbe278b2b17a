/-
  THE WALK OF 'tidewracklaw02.CodeWrites': what any items write is the document's, at each moment.
-/
import Derived.Test.YtokhebplmldfkaaItem4
import Derived.Test.YtokhebplmldfkaaAgain
import Derived.Deep.RegionHeld3
namespace Go.Proofs.Ytokhebplmldfkaa
set_option linter.unusedSimpArgs false
set_option linter.unusedVariables false
open Go Go.RowKit

/-- The Writer, and the row of the document's bytes beside it. -/
structure Two (w : World) (b : Nat) (av : Value) (l : List UInt8) (wr : World) : Prop where
  wn : ∃ v, WN w b v l wr ∧ ∀ j, av.ownBlock = some j → v.ownBlock ≠ some j
  own : wr.ownsRow w.heap.size 5 1 av l.length (bv l)
theorem Two.far {w wr wj : World} {b : Nat} {av : Value} {l : List UInt8} (h : Two w b av l wr) (hf : Fr (fun _ => False) wr wj) : Two w b av l wj := by
  obtain ⟨⟨v, h1, h2⟩, h3⟩ := h
  exact ⟨⟨v, h1.far hf, h2⟩, own_fr h3 hf (fun _ _ h => h)⟩
theorem Two.fr {w wr : World} {b : Nat} {av : Value} {l : List UInt8} (h : Two w b av l wr) : Fr (fun _ => False) w wr := by
  obtain ⟨⟨v, h1, _⟩, _⟩ := h
  exact h1.fr
theorem len_le : ∀ ts : List It, ts.length ≤ (ts.map fun t => 1 + t.s.size / 16).sum
  | [] => by simp
  | t :: r => by have := len_le r; simp only [List.length_cons, List.map_cons, List.sum_cons]; omega
theorem hR_len {w : World} {A : Option Addr} {n : Nat} {ts : List It} (h : RdI w A n ts) : ts.length = n := h.1
/-- Blocks that are new: what happens in them alone. -/
theorem Two.new {w w0 wr wj : World} {b : Nat} {av : Value} {l : List UInt8} {fp : Nat → Prop} (h : Two w b av l w0) (hf0 : Fr (fun _ => False) w0 wr) (hf : Fr fp wr wj) (hn : ∀ k, fp k → w0.heap.size ≤ k) : Two w b av l wj := by
  obtain ⟨⟨v, h1, h2⟩, h3⟩ := h
  have hl := h1.wr.lt
  have hs := h1.fr.size
  refine ⟨⟨v, (h1.far hf0).by hf (fun k hk hq => by have := hn k hq; omega) (fun hq => by have := hn b hq; omega) (fun k hk hq => by have := hn k hq; have := hl.2 k hk; omega), h2⟩, ?_⟩
  exact own_fr (own_fr h3 hf0 (fun _ _ h => h)) hf (fun k hk hq => by have := hn k hq; have := (h3.lt k hk).2; omega)
theorem Two.own_ne {w wr : World} {b : Nat} {av : Value} {l : List UInt8} (h : Two w b av l wr) : av.ownBlock ≠ some b := by
  obtain ⟨⟨v, h1, _⟩, h3⟩ := h
  exact own_blk_ne h3 h1.wr.1 (by decide)

/-- An item's cells, in every world behind. -/
theorem RdI.at_ {w : World} {a off n : Nat} {ts : List It} (h : RdI w (some ⟨a, off, none⟩) n ts) (k : Nat) (hk : k < ts.length) : ∀ W, Fr (fun _ => False) w W →
    W.cell? ⟨a, off + k * 4, none⟩ = some (.int .i64 ts[k].kind) ∧ W.cell? ⟨a, off + k * 4 + 1, none⟩ = some (.int .i64 ts[k].most) ∧ W.cell? ⟨a, off + k * 4 + 2, none⟩ = some (.int .u64 (ts[k].x : Int)) ∧ W.cell? ⟨a, off + k * 4 + 3, none⟩ = some (.string ts[k].s) := by
  intro W hW
  have h1 := h.far hW
  obtain ⟨b, o, he, hc⟩ := h1.2 (by have := h.1; omega)
  injection he with he
  injection he with e1 e2
  subst e1 e2
  exact hc k hk
/-- The bytes that were put behind, and the Writer has. -/
theorem two_of {w w2 wj : World} {b : Nat} {av av' v : Value} {l m : List UInt8} (h2 : WN w b v (l ++ m) w2) (n2 : ∀ j, av.ownBlock = some j → v.ownBlock ≠ some j) (o2 : w2.ownsRow w.heap.size 5 1 av l.length (bv l))
    {w4 : World} (f24 : Fr (fun _ => False) w2 w4) {N : Nat} (hN : N = m.length) (o5 : wj.ownsRow w.heap.size 5 1 av' (l.length + N) (bv l ++ bv m)) (f45 : Fr (fun k => av.ownBlock = some k) w4 wj) (hn : av'.ownBlock = av.ownBlock ∨ av'.ownBlock = some w4.heap.size) :
    Two w b av' (l ++ m) wj := by
  have hl := h2.wr.lt
  have hne : av.ownBlock ≠ some b := own_blk_ne o2 h2.wr.1 (by decide)
  refine ⟨⟨v, (h2.far f24).by f45 (fun k hk hq => by have := (o2.lt k hq).1; omega) hne (fun k hk hq => n2 k hq hk), fun j hj hv => ?_⟩, ?_⟩
  · rcases hn with hn | hn
    · exact n2 j (hn ▸ hj) hv
    · rw [hn] at hj
      injection hj with hj
      have := hl.2 j hv
      have := f24.size
      omega
  · rw [List.length_append, bv_append, ← hN]
    exact o5

/-- One item more: into the Writer. -/
theorem two_write {w wr : World} {b : Nat} {av : Value} {l : List UInt8} (h : Two w b av l wr) (t : It) (ht : t.Ok) (hb : l.length + 9 + t.s.size ≤ 140737488355328) :
    Calls Try.prog 12 #[.pointer (some ⟨b, 0, none⟩), t.val] wr fun e w' => e = .returned (.tuple #[]) ∧
      (∃ v, WN w b v (l ++ encItem t) w' ∧ ∀ j, av.ownBlock = some j → v.ownBlock ≠ some j) ∧ w'.ownsRow w.heap.size 5 1 av l.length (bv l) := by
  have hne := h.own_ne
  obtain ⟨⟨v, h1, h2⟩, h3⟩ := h
  refine (write_c wr b v l t ht h1.wr hb).mono ?_
  rintro e w' ⟨rfl, hs⟩
  obtain ⟨v', k1, k2, k3⟩ := h1.step hs
  refine ⟨rfl, ⟨v', k1, fun j hj hv => ?_⟩, own_fr h3 k2 (fun k hk hq => ?_)⟩
  · rcases k3 j hv with h4 | h4
    · exact h2 j hj h4
    · have := (h3.lt j hj).2; omega
  · rcases hq with rfl | hq
    · exact hne hk
    · exact h2 k hk hq

set_option maxRecDepth 100000 in
set_option maxHeartbeats 4000000 in
theorem codeWrites_c (w : World) (A : Option Addr) (n c : Nat) (ts : List It) (hr : RdI w A n ts) (hok : ∀ t ∈ ts, t.Ok) (hn : n ≤ 9223372036854775807) :
    Calls Try.prog 3 #[.slice A n c] w fun e w' => e = .returned (.bool true) ∧ Fr (fun _ => False) w w' := by
  have hlc := long_c w A n c ts hr hok hn
  have LC := Lib.hid hlc
  have HR := Lib.hid hr
  have HOK := Lib.hid hok
  clear hlc hr hok
  cases hlong : long ts with
  | true =>
    rw [hlong] at LC
    clear hlong
    go_enter Try.func3, Try.ntmps3
    go_wp2_with fail
    refine LC.out.mono ?_
    rintro e w1 ⟨rfl, rfl⟩
    go_wp2_with fail
    refine (awake_c _).mono ?_
    rintro e w1 ⟨rfl, f1⟩
    have F1 := Lib.hid f1
    clear f1
    go_wp2_with fail
    go_ret
    exact ⟨rfl, F1.out⟩
  | false =>
    have hsh := short_all hlong
    have hwl : n ≤ 2000 := by
      have h1 := longAt_false ts 0 hlong (by omega)
      have h2 : ts.length ≤ (ts.map fun t => 1 + t.s.size / 16).sum := len_le ts
      have := hR_len HR.out
      omega
    rw [hlong] at LC
    have SH := Lib.hid hsh
    clear hlong hsh hn
    go_enter Try.func3, Try.ntmps3
    go_wp2_with fail
    refine LC.out.mono ?_
    rintro e w1 ⟨rfl, rfl⟩
    go_wp2_with fail
    refine (newWriter_n _).mono ?_
    rintro e w1 ⟨b, v, rfl, h1⟩
    have H1 : Hid (Two w b (.slice none 0 0) [] w1) := ⟨⟨v, h1, fun j hj => by simp [Value.ownBlock] at hj⟩, World.ownsRow_nil _ _ _ _⟩
    clear h1
    go_wp2_with fail
    go_loopw [5, 6] (fun av i wr => ∃ (k : Nat) (aA : Option Addr) (ac : Nat), k ≤ n ∧ i = .int .i64 k ∧ av = .slice aA (encAll (ts.take k)).length ac ∧ (k ≤ 41 ∨ n ≤ k + 3) ∧ Hid (Two w b av (encAll (ts.take k)) wr)) (fun _ i _ => n - (intOf i).toNat)
    case atStart => exact ⟨0, none, 0, Nat.zero_le _, rfl, rfl, .inl (by omega), H1.out⟩
    case round =>
      obtain ⟨k, aA, ac, hk, rfl, rfl, hk41, htw⟩ := hrel
      by_cases hlt : k < n
      · obtain ⟨a, off, rfl, -⟩ := HR.out.2 (by omega)
        have hkl : k < ts.length := by rw [HR.out.1]; exact hlt
        have hcl := HR.out.at_ k hkl
        have hOK := HOK.out ts[k] (List.getElem_mem _)
        have hsz := SH.out.2 ts[k] (List.getElem_mem _)
        have hsu := encAll_succ ts k hkl
        have hsp := encAll_split ts (k + 1)
        have hlen : (encAll (ts.take (k + 1))).length ≤ 48000 := by
          have h1 := congrArg List.length hsp
          rw [List.length_append] at h1
          have := SH.out.1
          omega
        obtain ⟨l, hl⟩ : ∃ l, l = encAll (ts.take k) := ⟨_, rfl⟩
        rw [← hl] at htw hsu
        rw [← hl]
        generalize ts[k] = t at *
        rw [hsu, List.length_append] at hlen
        have OK := Lib.hid hOK
        have SU := Lib.hid hsu
        have CL := Lib.hid hcl
        clear hOK hsu hsp hl hcl
        obtain ⟨L, hL⟩ : ∃ L, l.length = L := ⟨_, rfl⟩
        rw [hL]
        rw [hL] at hlen htw
        have HL := Lib.hid hL
        clear hL
        obtain ⟨N, hN⟩ : ∃ N, (encItem t).length = N := ⟨_, rfl⟩
        rw [hN] at hlen
        have HN := Lib.hid hN
        clear hN
        obtain ⟨c0, c1, c2, c3⟩ := CL.out _ htw.out.fr
        go_wp2_with fail
        refine (two_write htw.out t OK.out (by rw [HL.out]; omega)).mono ?_
        rintro e w2 ⟨rfl, ⟨v2, h2, n2⟩, o2⟩
        have H2 := Lib.hid h2
        have N2 := Lib.hid n2
        have O2 := Lib.hid o2
        clear h2 n2 o2 c0 c1 c2 c3
        obtain ⟨c0, c1, c2, c3⟩ := CL.out _ H2.out.fr
        go_wp2_with fail
        refine (write_nil _ t OK.out).mono ?_
        rintro e w3 ⟨rfl, f3⟩
        have F3 := Lib.hid f3
        clear f3 c0 c1 c2 c3
        obtain ⟨c0, c1, c2, c3⟩ := CL.out _ (H2.out.fr.trans F3.out (fun _ _ h => h))
        go_wp2_with fail
        refine (bytes_c _ t OK.out hsz).mono ?_
        rintro e w4 ⟨A4, n4, c4, rfl, r4, f4⟩
        have F4 := Lib.hid (F3.out.trans f4 (fun _ _ h => h))
        obtain rfl : n4 = N := by rw [← r4.1, bv_length, HN.out]
        have R4 := Lib.hid r4
        clear f4 r4 c0 c1 c2 c3
        obtain ⟨i0, hi, hz0, hz1, hz2⟩ := info_parts u8_info
        have O4 := Lib.hid (own_fr O2.out F4.out (fun _ _ h => h))
        rw [HL.out] at O4
        go_wp2_with (
          (at_builtin
           go_loud (refine wpList_app rfl _ _ _ _ rfl w.heap.size 5 i0 _ 1 1 Try.underlying27 hi hz0 hz1 hz2 rfl (.slice aA L ac) L _ rfl O4.out _ n4 _ rfl (Src.rd Try.underlying27 _ R4.out (bv_one _)) (by omega) (by unfold maxLen; omega) (H2.out.fr.trans F4.out (fun _ _ h => h)).size ?_; intro v5 w5 hown5 hf5 hn5; have T5 := Lib.hid (two_of H2.out N2.out O2.out F4.out HN.out.symm (by rw [HL.out]; exact hown5) hf5 hn5); obtain ⟨A5, c5, rfl, _, _⟩ := own_slice hown5; clear hown5 hf5 hn5)))
        obtain ⟨v6, h6, -⟩ := T5.out.wn
        have H6 := Lib.hid h6
        clear h6
        refine (wbytes_c _ b v6 _ H6.out.wr (by rw [List.length_append, HL.out, HN.out]; omega)).mono ?_
        rintro e w7 ⟨v7, rfl, h7, f7⟩
        rw [List.length_append, HL.out, HN.out] at h7
        obtain ⟨A7, c7, rfl, _, _⟩ := own_slice h7
        have O7 := Lib.hid h7
        have F7 := Lib.hid f7
        have T7 := Lib.hid (T5.out.far f7)
        clear h7 f7
        go_wp2_with fail
        have FW := Lib.hid T7.out.fr
        have g7 := (CL.out _ FW.out).2.2.1
        have o7 := T7.out.own
        rw [List.length_append, HL.out, HN.out] at o7
        have RA := Lib.hid (Rd.of_own (own_base o7 (base' := 0) (fun _ _ => Nat.zero_le _)))
        have RB := Lib.hid (Rd.of_own (own_base O7.out (base' := 0) (fun _ _ => Nat.zero_le _)))
        have ca := conv_str w7.drew A5 (L + n4) c5 (l ++ encItem t) RA.out.drew
        have cb := conv_str w7.drew A7 (L + n4) c7 (l ++ encItem t) RB.out.drew
        have k0 : (0 : Int) ≤ (k : Int) := by omega
        have k1 : (k : Int) < (n : Int) := by omega
        have hx := OK.out.x1
        clear o7
        go_region_held3 (fun w' => w'.cell? ⟨a, off + k * 4 + 2, none⟩ = some (.int .u64 (t.x : Int)) ∧ (convert 27 9 (.slice A5 (L + n4) c5)).run Try.prog w' = .ok (.string (strOf (l ++ encItem t))) w' ∧ (convert 27 9 (.slice A7 (L + n4) c7)).run Try.prog w' = .ok (.string (strOf (l ++ encItem t))) w') (first | exact ⟨g7, ca, cb⟩ | exact ⟨g8, ca8, cb8⟩)
          (first
            | (go_at_call 14; refine (wbytes_nil _).mono ?_; rintro e w8 ⟨rfl, rfl⟩)
            | (go_at_call 15; refine (size_c _ _ (by omega) (by omega)).mono ?_; rintro e w8 ⟨rfl, rfl⟩)
            | (go_at_call 16; refine (short_c _ t.x hx).mono ?_; rintro e w8 ⟨v8, rfl, h8, f8⟩; obtain ⟨A8, c8, rfl, _, _⟩ := own_slice h8; have F8 := Lib.hid ((Fr.refl (fun _ => False) w7).drew.trans f8 (fun _ _ h => h)); have g8 := (CL.out _ (FW.out.trans F8.out (fun _ _ h => h))).2.2.1; have ca8 := conv_str w8 A5 (L + n4) c5 (l ++ encItem t) (RA.out.far F8.out); have cb8 := conv_str w8 A7 (L + n4) c7 (l ++ encItem t) (RB.out.far F8.out); clear h8 f8))
        have hnum : ∀ u ∈ bv (l ++ encItem t), ∃ x : Nat, x ≤ 255 ∧ u = .int .u8 (x : Int) := by
          intro u hu
          obtain ⟨x, _, rfl⟩ := List.mem_map.1 hu
          have := x.toNat_lt
          exact ⟨x.toNat, by omega, rfl⟩
        have NUM := Lib.hid hnum
        have CL9 := Lib.hid (fun W (hW : Fr (fun _ => False) w W) => CL.out W hW)
        clear hnum ca cb ca8 cb8 g7 g8
        go_wp2_with fail
        go_loopw [8] (fun i wq => ∃ q : Nat, q ≤ L + n4 ∧ i = .int .i64 q ∧ Hid (∃ xs, wq.ownsRow w5.heap.size 5 1 (.slice A7 (L + n4) c7) (L + n4) xs ∧ (∀ u ∈ xs, ∃ x : Nat, x ≤ 255 ∧ u = .int .u8 (x : Int)) ∧ Fr (fun j => (Value.slice A7 (L + n4) c7).ownBlock = some j) w8 wq)) (fun i _ => L + n4 - (intOf i).toNat)
        case atStart => exact ⟨0, Nat.zero_le _, rfl, _, own_fr O7.out F8.out (fun _ _ h => h), NUM.out, Fr.refl _ _⟩
        case round =>
          obtain ⟨q, hq, rfl, hst⟩ := hrel
          by_cases hql : q < L + n4
          · obtain ⟨xs, ho, hx9, hf9⟩ := hst.out
            obtain ⟨g, cap, hv, _, _⟩ := ho.form (by omega)
            injection hv with hv _ hv2
            subst hv hv2
            have hxl : xs.length = (L + n4) * 1 := ho.1
            obtain ⟨x, hx255, hxe⟩ := hx9 (xs[q]'(by omega)) (List.getElem_mem _)
            have d0 := ho.cellAt q (by omega)
            rw [List.getElem?_eq_getElem (by omega), hxe] at d0
            have e0 := ho.frozenAt q
            have HO := Lib.hid ho
            have HX := Lib.hid hx9
            have HF := Lib.hid hf9
            clear hst ho hx9 hf9 hxl hxe
            go_wp2_with fail
            refine ⟨⟨q + 1, hql, by go_num, _, (HO.out.stored q _).1, fun u hu => ?_, HF.out.setCell (p := ⟨g, q, none⟩) (fun _ => rfl) _⟩, by simp [intOf]; omega⟩
            rcases List.mem_or_eq_of_mem_set hu with h | rfl
            · exact HX.out u h
            · exact ⟨(x + 1) % 256, by omega, by congr 1⟩
          · have T9 : Hid (Two w b (.slice A5 (L + n4) c5) (l ++ encItem t) wr) := by
              obtain ⟨xs, ho, hx9, hf9⟩ := hst.out
              exact T5.out.new (F7.out.trans F8.out (fun _ _ h => h)) hf9 (fun j hj => (O7.out.lt j hj).1)
            clear hst
            by_cases hbig : 40 < k ∧ k + 3 < n
            · obtain ⟨hb1, hb2⟩ := hbig
              have b1 : (40 : Int) < (k : Int) := by omega
              have b2 : (k : Int) < (n : Int) - 3 := by omega
              have hs42 : encAll (ts.take 42) = l ++ encItem t := by have := SU.out; rw [show k + 1 = 42 from by omega] at this; exact this
              have he : L + n4 = (encAll (ts.take 42)).length := by rw [hs42, List.length_append, HL.out, HN.out]
              have HE := Lib.hid he
              have T9' : Hid (Two w b (.slice A5 (L + n4) c5) (encAll (ts.take 42)) wr) := by rw [hs42]; exact T9.out
              clear he hs42 hsz hx CL SU H2 N2 O2 F3 F4 R4 O4 T5 O7 F7 T7 FW RA RB F8 NUM CL9 T9
              go_wp2_with fail
              go_loopw [5, 9] (fun av i wr => ∃ (q : Nat) (aA : Option Addr) (ac : Nat), 42 ≤ q ∧ q + 3 ≤ n ∧ i = .int .i64 q ∧ av = .slice aA (encAll (ts.take q)).length ac ∧ Hid (Two w b av (encAll (ts.take q)) wr)) (fun _ i _ => n - (intOf i).toNat)
              case atStart => exact ⟨42, A5, c5, by omega, by omega, rfl, by rw [← HE.out], T9'.out⟩
              case round =>
                obtain ⟨q, aB, bc, hq1, hq2, rfl, rfl, htw2⟩ := hrel
                by_cases hql : q + 3 < n
                · have hkl : q < ts.length := by rw [HR.out.1]; omega
                  have hcl := HR.out.at_ q hkl
                  have hOK := HOK.out ts[q] (List.getElem_mem _)
                  have hsz := SH.out.2 ts[q] (List.getElem_mem _)
                  have hsu := encAll_succ ts q hkl
                  have hsp := encAll_split ts (q + 1)
                  have hlen : (encAll (ts.take (q + 1))).length ≤ 48000 := by
                    have h1 := congrArg List.length hsp
                    rw [List.length_append] at h1
                    have := SH.out.1
                    omega
                  obtain ⟨l, hl⟩ : ∃ l, l = encAll (ts.take q) := ⟨_, rfl⟩
                  rw [← hl] at htw2 hsu
                  rw [← hl]
                  generalize ts[q] = t at *
                  rw [hsu, List.length_append] at hlen
                  have OK := Lib.hid hOK
                  have SU := Lib.hid hsu
                  have CL := Lib.hid hcl
                  clear hOK hsu hsp hl hcl
                  obtain ⟨L, hL⟩ : ∃ L, l.length = L := ⟨_, rfl⟩
                  rw [hL]
                  rw [hL] at hlen htw2
                  have HL := Lib.hid hL
                  clear hL
                  obtain ⟨N, hN⟩ : ∃ N, (encItem t).length = N := ⟨_, rfl⟩
                  rw [hN] at hlen
                  have HN := Lib.hid hN
                  clear hN
                  have k0 : (0 : Int) ≤ (q : Int) := by omega
                  have k1 : (q : Int) < (n : Int) := by omega
                  have k2 : (q : Int) ≤ (n : Int) - 4 := by omega
                  obtain ⟨c0, c1, c2, c3⟩ := CL.out _ htw2.out.fr
                  go_wp2_with fail
                  refine (two_write htw2.out t OK.out (by rw [HL.out]; omega)).mono ?_
                  rintro e w2 ⟨rfl, ⟨v2, h2, n2⟩, o2⟩
                  have H2 := Lib.hid h2
                  have N2 := Lib.hid n2
                  have O2 := Lib.hid o2
                  clear h2 n2 o2 c0 c1 c2 c3
                  obtain ⟨c0, c1, c2, c3⟩ := CL.out _ H2.out.fr
                  go_wp2_with fail
                  refine (bytes_c _ t OK.out hsz).mono ?_
                  rintro e w4 ⟨A4, n4, c4, rfl, r4, f4⟩
                  have F4 := Lib.hid f4
                  obtain rfl : n4 = N := by rw [← r4.1, bv_length, HN.out]
                  have R4 := Lib.hid r4
                  clear f4 r4 c0 c1 c2 c3
                  obtain ⟨i0, hi, hz0, hz1, hz2⟩ := info_parts u8_info
                  have O4 := Lib.hid (own_fr O2.out F4.out (fun _ _ h => h))
                  rw [HL.out] at O4
                  go_wp2_with (
                    (at_builtin
                     refine wpList_app rfl _ _ _ _ rfl w.heap.size 5 i0 _ 1 1 Try.underlying27 hi hz0 hz1 hz2 rfl (.slice aB L bc) L _ rfl O4.out _ n4 _ rfl (Src.rd Try.underlying27 _ R4.out (bv_one _)) (by omega) (by unfold maxLen; omega) (H2.out.fr.trans F4.out (fun _ _ h => h)).size ?_
                     intro v5 w5 hown5 hf5 hn5
                     have T5 := Lib.hid (two_of H2.out N2.out O2.out F4.out HN.out.symm (by rw [HL.out]; exact hown5) hf5 hn5)
                     obtain ⟨A5, c5, rfl, _, _⟩ := own_slice hown5
                     clear hown5 hf5 hn5))
                  have he : L + n4 = (encAll (ts.take (q + 1))).length := by rw [SU.out, List.length_append, HL.out, HN.out]
                  exact ⟨⟨q + 1, A5, c5, by omega, by omega, by go_num, by rw [← he], by rw [SU.out]; exact T5.out⟩, by simp [intOf]; omega⟩
                · have k2 : ¬ (q : Int) ≤ (n : Int) - 4 := by omega
                  go_wp2_with fail
                  exact ⟨⟨n - 3, aB, bc, by omega, by congr 1; omega, by rw [show n - 3 = q from by omega], .inr (by omega), by rw [show n - 3 = q from by omega]; exact htw2.out⟩, by simp [intOf]; omega⟩
            · have hcase : k ≤ 40 ∨ (40 < k ∧ n ≤ k + 3) := by omega
              have he : L + n4 = (encAll (ts.take (k + 1))).length := by rw [SU.out, List.length_append, HL.out, HN.out]
              have HE := Lib.hid he
              clear he hbig
              rcases hcase with hcase | ⟨hcase, hcase2⟩
              · have b1 : ¬ (40 : Int) < (k : Int) := by omega
                go_wp2_with fail
                exact ⟨⟨k + 1, A5, c5, hlt, by go_num, by rw [← HE.out], .inl (by omega), by rw [SU.out]; exact T9.out⟩, by simp [intOf]; omega⟩
              · have b1 : (40 : Int) < (k : Int) := by omega
                have b2 : ¬ (k : Int) < (n : Int) - 3 := by omega
                go_wp2_with fail
                exact ⟨⟨k + 1, A5, c5, hlt, by go_num, by rw [← HE.out], .inr (by omega), by rw [SU.out]; exact T9.out⟩, by simp [intOf]; omega⟩
      · obtain rfl : k = n := by omega
        rw [List.take_of_length_le (by rw [HR.out.1]; exact Nat.le_refl _)] at htw
        rw [List.take_of_length_le (by rw [HR.out.1]; exact Nat.le_refl _)]
        obtain ⟨v6, h6, -⟩ := htw.out.wn
        have H6 := Lib.hid h6
        obtain ⟨M, hM⟩ : ∃ M, (encAll ts).length = M := ⟨_, rfl⟩
        rw [hM] at htw
        rw [hM]
        have o6 := htw.out.own
        rw [hM] at o6
        have HM := Lib.hid hM
        have hM2 := SH.out.1
        rw [hM] at hM2
        clear h6 hM
        go_wp2_with fail
        have RA := Lib.hid (Rd.of_own (own_base o6 (base' := 0) (fun _ _ => Nat.zero_le _)))
        have ca := conv_str wr.drew aA M ac (encAll ts) RA.out.drew
        clear o6
        go_region_with (first
          | (go_at_call 14; refine (wbytes_c _ b v6 (encAll ts) (H6.out.wr.fr (Fr.refl (fun _ => False) wr).drew (fun h => h) (fun _ _ h => h)) (by rw [HM.out]; omega)).mono ?_; rintro e w9 ⟨v9, rfl, h9, f9⟩; rw [HM.out] at h9; obtain ⟨A9, c9, rfl, _, _⟩ := own_slice h9; have cb := conv_str w9 A9 M c9 (encAll ts) (Rd.of_own (own_base h9 (base' := 0) (fun _ _ => Nat.zero_le _))); have F9 := Lib.hid ((Fr.refl (fun _ => False) wr).drew.trans f9 (fun _ _ h => h)); have ca9 := conv_str w9 aA M ac (encAll ts) (RA.out.far F9.out); clear h9 f9)
          | (go_at_call 10; refine (awake_c _).mono ?_; rintro e w10 ⟨rfl, f10⟩; have F10 := Lib.hid ((H6.out.fr.trans F9.out (fun _ _ h => h)).trans f10 (fun _ _ h => h)); clear f10))
        all_goals
          go_wp2_with fail
          go_ret
          exact ⟨rfl, F10.out⟩
end Go.Proofs.Ytokhebplmldfkaa
