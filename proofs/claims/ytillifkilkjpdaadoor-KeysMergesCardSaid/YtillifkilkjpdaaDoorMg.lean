/-
  KeysMerges.
-/
import Derived.Test.YtillifkilkjpdaaDoorMg1
namespace Go.Proofs.YtillifkilkjpdaaDoor
set_option linter.unusedSimpArgs false
set_option linter.unusedVariables false
open Go Go.RowKit

theorem OwR.of_drew {w : World} {B : Nat} {v : Value} {m : Ents} (h : OwR w B v m) : OwR w.drew B v m := own_fr h ((Fr.refl (fun _ => False) w).drew) (fun _ _ h => h)
set_option maxRecDepth 100000 in
set_option maxHeartbeats 4000000 in
theorem keysMerges_c (w : World) (A0 : Option Addr) (n c0 : Nat) (vs0 : List Value) (ms0 : List Ents) (u : Int) (hr : Rd w A0 n vs0) (hl : vs0.length = n) (hrr : RRs w vs0 ms0) (hke : ∀ m ∈ ms0, ∀ e ∈ m, e.1.length ≤ 140737488355328) (hme : ∀ m ∈ ms0, m.length ≤ 140737488355328) (hn : n ≤ 140737488355328) (hu0 : -9223372036854775808 ≤ u) (hu1 : u ≤ 9223372036854775807) (htab : TabOk w) :
    Calls Tryd.prog 4 #[.slice A0 n c0, .int .i64 u] w fun e w' => e = .returned (.bool true) ∧ Fr (fun _ => False) w w' := by
  obtain ⟨i1, hi1, hz10, hz11, hz12⟩ := info_parts pIndex_info
  obtain ⟨i2, hi2, hz20, hz21, hz22⟩ := info_parts ents_info
  have HI1 := Lib.hid hi1
  have HI2 := Lib.hid hi2
  have HR := Lib.hid hr
  have HL := Lib.hid hl
  have HRR := Lib.hid hrr
  have HKE := Lib.hid hke
  have HME := Lib.hid hme
  have HT := Lib.hid htab
  have HU0 := Lib.hid hu0
  have HU1 := Lib.hid hu1
  clear hi1 hi2 hr hl hrr hke hme htab hu0 hu1
  obtain ⟨S0, hS0⟩ : ∃ S0, w.heap.size = S0 := ⟨_, rfl⟩
  have HS0 := Lib.hid hS0
  clear hS0
  go_enter Tryd.func4, Tryd.ntmps4
  by_cases hn40 : n ≤ 40
  · have hd1 : decide ((n : Int) > 40) = false := decide_eq_false (by omega)
    have hd2 : decide ((40 : Int) < (n : Int)) = false := decide_eq_false (by omega)
    go_wp2_with fail
    clear hd1 hd2
    go_loopw [8, 5, 6, 7] (fun iv av rv nv wr => ∃ (i : Nat) (ps vs : List Value) (ms : List Ents) (A1 A2 : Option Addr) (c1 c2 cnt : Nat), iv = .int .i64 i ∧ i ≤ n ∧ av = .slice A1 i c1 ∧ rv = .slice A2 i c2 ∧ nv = .int .i64 cnt ∧ cnt ≤ 400 ∧ Hid (ms.length = i) ∧ Hid (tot ms ≤ cnt) ∧ Hid (wr.ownsRow S0 25 1 (.slice A1 i c1) i ps) ∧ Hid (wr.ownsRow S0 27 1 (.slice A2 i c2) i vs) ∧ Hid (IXs wr S0 ps ms) ∧ Hid (ORs wr S0 vs ms) ∧ Hid (Fr (fun _ => False) w wr)) (fun iv _ _ _ _ => n - (intOf iv).toNat)
    case atStart => exact ⟨0, [], [], [], none, none, 0, 0, 0, rfl, Nat.zero_le _, rfl, rfl, rfl, by omega, rfl, Nat.le_refl _, World.ownsRow_nil _ _ _ _, World.ownsRow_nil _ _ _ _, IXs.nil _ _, ORs.nil _ _, Fr.refl _ _⟩
    case round =>
      obtain ⟨i, ps, vs, ms, A1, A2, c1, c2, cnt, rfl, hi, rfl, rfl, rfl, hcnt, hml, htm, ho1, ho2, hxs, hos, hf⟩ := hrel
      by_cases hlt : i < n
      · have hdl : decide ((i : Int) < (n : Int)) = true := decide_eq_true (by omega)
        have hdn : decide (i < n) = true := decide_eq_true hlt
        have hI : (i : Int) < n := by omega
        obtain ⟨b0, o0, rfl, hcl⟩ := HR.out.lit (by omega)
        have hbl : b0 < w.heap.size := HR.out.lt (by omega) ⟨_, rfl, rfl⟩
        have hil : i < vs0.length := by rw [HL.out]; exact hlt
        have him : i < ms0.length := by rw [← HRR.out.len]; exact hil
        obtain ⟨mi, hmi⟩ : ∃ mi, ms0[i]? = some mi := ⟨_, List.getElem?_eq_getElem him⟩
        obtain ⟨Am, cm, hvm, hrm, hcm⟩ := HRR.out.at_ i _ mi (List.getElem?_eq_getElem hil) hmi
        have x1w : w.cell? ⟨b0, o0 + i, none⟩ = some (.slice Am mi.length cm) := by
          rw [hcl _ hlt, List.getElem?_eq_getElem hil, hvm]
        obtain ⟨q, hq⟩ : ∃ q, mi.length = q := ⟨_, rfl⟩
        rw [hq] at x1w hcm
        have HX1 := Lib.hid x1w
        have HRM := Lib.hid hrm
        have HQ := Lib.hid hq
        have hqb : q ≤ 140737488355328 := by rw [← hq]; exact HME.out mi (List.mem_of_getElem? hmi)
        have HKM := Lib.hid (HKE.out mi (List.mem_of_getElem? hmi))
        have hwr : w.heap.size ≤ wr.heap.size := hf.out.size
        obtain ⟨wT, rfl⟩ : ∃ wT, wT = wr := ⟨_, rfl⟩
        obtain ⟨T, hT⟩ : ∃ T, wT.heap.size = T := ⟨_, rfl⟩
        have HTT := Lib.hid hT
        have hST : S0 ≤ T := by have := HS0.out; omega
        clear hcl x1w hrm hq hvm hmi hT
        go_wp2_with fail
        refine (new_c wT).mono ?_
        rintro e w3 ⟨rfl, xa, f3⟩
        rw [show wT.heap.size = T from HTT.out] at xa ⊢
        have X3 := Lib.hid xa
        have F3 := Lib.hid f3
        clear xa f3
        go_wp2_with fail
        go_loopw [11, 10, 7] (fun kv rv nv wq => ∃ (k : Nat) (v : Value) (m : Ents) (A3 : Option Addr) (c3 mn cnt : Nat), kv = .int .i64 k ∧ k ≤ q ∧ rv = .slice A3 mn c3 ∧ nv = .int .i64 cnt ∧ cnt ≤ 400 ∧ Hid (m.length = mn) ∧ Hid (tot ms + m.length ≤ cnt) ∧ Hid (IX wq T T v m) ∧ Hid (OwR wq T (.slice A3 mn c3) m) ∧ Hid (Fr (fun _ => False) wT wq)) (fun kv _ _ _ => q - (intOf kv).toNat)
        case atStart => exact ⟨0, _, [], none, 0, 0, cnt, rfl, Nat.zero_le _, rfl, rfl, hcnt, rfl, htm.out, X3.out, World.ownsRow_nil _ _ _ _, F3.out⟩
        case round =>
          clear X3 F3 htm hcnt
          obtain ⟨k, v, m, A3, c3, mn, cnt, rfl, hk, rfl, rfl, hcnt, hmn, htm, xa, hrow, hfq⟩ := hrel
          have hfw : Hid (Fr (fun _ => False) w wr) := hf.out.trans hfq.out (fun _ _ h => h)
          have x1 := (hfw.out.cell hbl (fun h => h)).trans HX1.out
          by_cases hkt : k < q
          · have hkl : decide ((k : Int) < (q : Int)) = true := decide_eq_true (by omega)
            have hkn : decide (k < q) = true := decide_eq_true hkt
            have hkI : (k : Int) < q := by omega
            obtain ⟨b2, o2, rfl, hcl2⟩ := HRM.out.lit (by rw [HQ.out]; omega)
            have hbl2 : b2 < w.heap.size := HRM.out.lt (by rw [HQ.out]; omega) ⟨_, rfl, rfl⟩
            have hkm : k < mi.length := by rw [HQ.out]; exact hkt
            have x2w : w.cell? ⟨b2, o2 + k * 2, none⟩ = some (.string (strOf mi[k].1)) := by rw [hcl2 _ (by omega)]; exact ec_key mi k hkm
            have x3w : w.cell? ⟨b2, o2 + k * 2 + 1, none⟩ = some (.int .i64 mi[k].2) := by rw [Nat.add_assoc, hcl2 _ (by omega)]; exact ec_val mi k hkm
            have hkb := HKM.out mi[k] (List.getElem_mem hkm)
            obtain ⟨kk, hkk⟩ : ∃ kk, mi[k].1 = kk := ⟨_, rfl⟩
            rw [hkk] at x2w hkb
            generalize mi[k].2 = uu at *
            have x2 := (hfw.out.cell hbl2 (fun h => h)).trans x2w
            have x3 := (hfw.out.cell hbl2 (fun h => h)).trans x3w
            have HX2 := Lib.hid x2w
            have HX3 := Lib.hid x3w
            obtain ⟨kn, hkn2⟩ : ∃ kn, kk.length = kn := ⟨_, rfl⟩
            rw [hkn2] at hkb
            have s1 : (strOf kk).size = kn := by rw [strOf_size, hkn2]
            obtain ⟨qq, hqq⟩ : ∃ qq : Nat, kn / 64 = qq := ⟨_, rfl⟩
            have e2 : ((kn : Int) / 64) = (qq : Int) := by omega
            have hqqb : qq ≤ 140737488355328 := by omega
            clear hcl2 hkk x2w x3w hkn2 hqq
            by_cases hc4 : cnt + (1 + qq) ≤ 400
            · have hd4 : decide ((400 : Int) < (cnt : Int) + (1 + (qq : Int))) = false := decide_eq_false (by omega)
              go_wp2_with fail
              clear hd4 s1 e2
              have hSX : Hid ((m.length ≤ 100000)) := by have := htm.out; show _ ≤ _; omega
              go_region_held3 (fun W => W.cell? ⟨b0, o0 + i, none⟩ = some (.slice (some ⟨b2, o2, none⟩) q cm) ∧ W.cell? ⟨b2, o2 + k * 2, none⟩ = some (.string (strOf kk)) ∧ W.cell? ⟨b2, o2 + k * 2 + 1, none⟩ = some (.int .i64 uu)) (first | exact ⟨x1, x2, x3⟩ | exact ⟨z1, z2, z3⟩)
                (first
                | (go_at_call 13; refine (set_c wr.drew T T v m kk uu (xa.out.far ((Fr.refl _ wr).drew)) hSX.out).mono ?_; rintro e w6 ⟨rfl, v6, x6, f6, n6⟩; have X6 := Lib.hid x6; have XF6 := Lib.hid f6; have HF6 := Lib.hid (IX.up (w := wT) (w' := wr.drew) hfq.out.drew (B := T) (m := m) (xa.out.far ((Fr.refl _ wr).drew)) (by rw [HTT.out]; exact Nat.le_refl _) f6); have HW6 := Lib.hid (hf.out.trans HF6.out (fun _ _ h => h)); have z1 := (HW6.out.cell hbl (fun h => h)).trans HX1.out; have z2 := (HW6.out.cell hbl2 (fun h => h)).trans HX2.out; have z3 := (HW6.out.cell hbl2 (fun h => h)).trans HX3.out; clear x6 f6 n6))
              have HROW6 : Hid (OwR w6 T (.slice A3 mn c3) m) := own_fr (hrow.out.of_drew) XF6.out (by
                rintro k' hk' (h | h)
                · exact own_blk_ne hrow.out.of_drew (xa.out.far ((Fr.refl _ wr).drew)).blk (by decide) (h ▸ hk')
                · exact own_own_ne hrow.out.of_drew (xa.out.far ((Fr.refl _ wr).drew)).own (by decide) hk' h)
              obtain ⟨hrd6, hpc6⟩ : Rd w6 A3 (mn * 2) (ec m) ∧ mn ≤ c3 := by
                obtain ⟨A', c', he, h1, h2⟩ := HROW6.out.rd
                injection he with q1 q2 q3
                rw [q1, q3, q2]
                exact ⟨h1, h2⟩
              have HRD6 := Lib.hid hrd6
              have HPC6 := Lib.hid hpc6
              have HSRT : Hid (Srt m) := xa.out.srt
              have hfw6 := HW6
              clear hrd6 hpc6 x1 x2 x3 XF6
              go_wp2_with fail
              have hrs := rset_c w6.drew A3 c3 m kk uu (by rw [hmn.out]; exact HRD6.out.drew) (by rw [hmn.out]; exact HPC6.out) hSX.out HSRT.out
              rw [hmn.out] at hrs
              have HRS := Lib.hid hrs
              clear hrs
              go_region_held3 (fun W => W.cell? ⟨b0, o0 + i, none⟩ = some (.slice (some ⟨b2, o2, none⟩) q cm) ∧ W.cell? ⟨b2, o2 + k * 2, none⟩ = some (.string (strOf kk)) ∧ W.cell? ⟨b2, o2 + k * 2 + 1, none⟩ = some (.int .i64 uu)) (first | exact ⟨z1, z2, z3⟩ | exact ⟨y1, y2, y3⟩)
                (first
                | (go_at_call 17; refine HRS.out.mono ?_; rintro e w7 ⟨rv7, rfl, ro, rf⟩; have RO := Lib.hid ro; have RF := Lib.hid rf; have HF7 := Lib.hid (HF6.out.drew.trans rf (fun _ _ h => h)); have HW7 := Lib.hid (hf.out.trans HF7.out (fun _ _ h => h)); have y1 := (HW7.out.cell hbl (fun h => h)).trans HX1.out; have y2 := (HW7.out.cell hbl2 (fun h => h)).trans HX2.out; have y3 := (HW7.out.cell hbl2 (fun h => h)).trans HX3.out; clear ro rf))
              obtain ⟨A7, c7, hv7, -⟩ := RO.out.rd
              have X7 : Hid (IX w7 T T v6 (mset m kk uu)) := X6.out.far ((Fr.refl (fun _ => False) w6).drew.trans RF.out (fun _ _ h => h))
              have R7 : Hid (OwR w7 T rv7 (mset m kk uu)) := own_base RO.out (fun k' hk' => by
                have h1 := (World.ownsRow.lt RO.out k' hk').1
                have h2 : wT.heap.size ≤ w6.drew.heap.size := HF6.out.size
                have := HTT.out
                omega)
              have htm7 : Hid (tot ms + (mset m kk uu).length ≤ cnt + (1 + qq)) := by
                have h1 := mset_len m kk uu
                have h2 := htm.out
                show _ ≤ _
                omega
              clear y1 y2 y3 z1 z2 z3
              subst hv7
              go_wp2_with fail
              refine ⟨⟨k + 1, v6, mset m kk uu, A7, c7, _, cnt + (1 + qq), by push_cast; rfl, by omega, rfl, by push_cast; rfl, hc4, rfl, htm7.out, X7.out, R7.out, HF7.out⟩, by simp only [intOf]; omega⟩
            · have hd4 : decide ((400 : Int) < (cnt : Int) + (1 + (qq : Int))) = true := decide_eq_true (by omega)
              go_wp2_with fail
              refine (awake_c wr (HT.out.far hfw.out)).mono ?_
              rintro e wz ⟨rfl, fz⟩
              have FZ := Lib.hid (hfw.out.trans fz (fun _ _ h => h))
              clear fz
              go_wp2_with fail
              go_ret
              exact ⟨rfl, FZ.out⟩
          · have hkl : decide ((k : Int) < (q : Int)) = false := decide_eq_false (by omega)
            have hkn : decide (k < q) = false := decide_eq_false hkt
            have HO1 := Lib.hid (own_fr ho1.out hfq.out (fun _ _ h => h))
            have HO2 := Lib.hid (own_fr ho2.out hfq.out (fun _ _ h => h))
            have hsr : S0 ≤ wr.heap.size := by have := hfq.out.size; have := HTT.out; omega
            go_wp2_with (first
            | (at_builtin
               refine wpList_app rfl _ _ _ _ rfl S0 27 i2 _ 1 24 Tryd.underlying37 HI2.out hz20 hz21 hz22 (by kernel_rfl) _ i _ rfl (own_fr O29.out ((Fr.refl (fun _ => False) w9).alloc (.cells #[.slice A3 mn c3] 27)) (fun _ _ h => h)) _ 1 [.slice A3 mn c3] rfl
                 (Src.ofSlice _ Tryd.underlying37 ⟨w9.heap.size, 0, none⟩ 1 1 [.slice A3 mn c3] rfl (fun j u' hj => by rw [Addr.add_lit, (Blk.new w9 27 #[.slice A3 mn c3]).cell, ← Array.getElem?_toList, Nat.zero_add]; exact hj) (fun u' hu' => by rw [List.mem_singleton.1 hu']; rfl))
                 (by omega) (by unfold maxLen; omega) (by rw [World.size_alloc]; omega) ?_
               intro w10v w10 w10o w10f w10n
               obtain ⟨A10, c10, rfl, -, -⟩ := own_slice w10o
               have O10 := Lib.hid w10o
               have F10 : Hid (Fr (fun k => (Value.slice A2 i c2).ownBlock = some k) w9 w10) := (((Fr.refl (fun _ => False) w9).alloc (.cells #[.slice A3 mn c3] 27)).mono (fun _ _ h => h.elim)).trans w10f (fun _ _ h => h)
               clear w10o w10f w10n)
            | (at_builtin
               refine wpList_app rfl _ _ _ _ rfl S0 25 i1 _ 1 8 Tryd.underlying36 HI1.out hz10 hz11 hz12 (by kernel_rfl) _ i _ rfl (own_fr HO1.out ((Fr.refl (fun _ => False) wr).alloc (.cells #[.pointer (some ⟨T, 0, none⟩)] 25)) (fun _ _ h => h)) _ 1 [.pointer (some ⟨T, 0, none⟩)] rfl
                 (Src.ofSlice _ Tryd.underlying36 ⟨wr.heap.size, 0, none⟩ 1 1 [.pointer (some ⟨T, 0, none⟩)] rfl (fun j u' hj => by rw [Addr.add_lit, (Blk.new wr 25 #[.pointer (some ⟨T, 0, none⟩)]).cell, ← Array.getElem?_toList, Nat.zero_add]; exact hj) (fun u' hu' => by rw [List.mem_singleton.1 hu']; rfl))
                 (by omega) (by unfold maxLen; omega) (by rw [World.size_alloc]; omega) ?_
               intro w9v w9 w9o w9f w9n
               obtain ⟨A9, c9, rfl, -, -⟩ := own_slice w9o
               have O9 := Lib.hid w9o
               have F9 : Hid (Fr (fun k => (Value.slice A1 i c1).ownBlock = some k) wr w9) := (((Fr.refl (fun _ => False) wr).alloc (.cells #[.pointer (some ⟨T, 0, none⟩)] 25)).mono (fun _ _ h => h.elim)).trans w9f (fun _ _ h => h)
               have O29 : Hid (w9.ownsRow S0 27 1 (.slice A2 i c2) i vs) := own_fr HO2.out F9.out (fun k' hk' h => own_own_ne HO2.out HO1.out (by decide) hk' h)
               have hs9 : S0 ≤ w9.heap.size := by have := F9.out.size; omega
               clear w9o w9f w9n))
            have IX1 : Hid (IXs wr S0 (ps ++ [.pointer (some ⟨T, 0, none⟩)]) (ms ++ [m])) := (hxs.out.far hfq.out).snoc (xa.out.base_ hST)
            have OR1 : Hid (ORs wr S0 (vs ++ [.slice A3 mn c3]) (ms ++ [m])) := (hos.out.far hfq.out).snoc (own_base hrow.out (fun k' hk' => Nat.le_trans hST (World.ownsRow.lt hrow.out k' hk').1))
            have IX2 : Hid (IXs w9 S0 (ps ++ [.pointer (some ⟨T, 0, none⟩)]) (ms ++ [m])) := IX1.out.fr F9.out (fun k' cur h hk' => own_blk_ne HO1.out h (by decide) hk') (fun k' cur h hk' => own_blk_ne HO1.out h (by decide) hk')
            have OR2 : Hid (ORs w9 S0 (vs ++ [.slice A3 mn c3]) (ms ++ [m])) := OR1.out.fr F9.out (fun k' cur h hk' => own_blk_ne HO1.out h (by decide) hk')
            have IX3 : Hid (IXs w10 S0 (ps ++ [.pointer (some ⟨T, 0, none⟩)]) (ms ++ [m])) := IX2.out.fr F10.out (fun k' cur h hk' => own_blk_ne O29.out h (by decide) hk') (fun k' cur h hk' => own_blk_ne O29.out h (by decide) hk')
            have OR3 : Hid (ORs w10 S0 (vs ++ [.slice A3 mn c3]) (ms ++ [m])) := OR2.out.fr F10.out (fun k' cur h hk' => own_blk_ne O29.out h (by decide) hk')
            have O93 : Hid (w10.ownsRow S0 25 1 (.slice A9 (i + 1) c9) (i + 1) (ps ++ [.pointer (some ⟨T, 0, none⟩)])) := own_fr O9.out F10.out (fun k' hk' h => own_own_ne O9.out O29.out (by decide) hk' h)
            have FT : Hid (Fr (fun _ => False) w w10) := ((hfw.out.mono (fp := fun k => S0 ≤ k) (fun _ _ h => h.elim)).trans F9.out (fun k' hk' h => (World.ownsRow.lt HO1.out k' h).1)).trans F10.out (fun k' hk' h => (World.ownsRow.lt O29.out k' h).1) |>.mono (fun k' hk' h => by have := HS0.out; omega)
            refine ⟨⟨i + 1, ps ++ [.pointer (some ⟨T, 0, none⟩)], vs ++ [.slice A3 mn c3], ms ++ [m], A9, A10, c9, c10, cnt, by push_cast; rfl, by omega, rfl, rfl, rfl, hcnt, ?_, ?_, O93, O10, IX3, OR3, FT⟩, by simp only [intOf]; omega⟩
            · show _ = _
              rw [List.length_append, hml.out]; rfl
            · show _ ≤ _
              rw [tot_snoc]; exact htm.out
      · have hdl : decide ((i : Int) < (n : Int)) = false := decide_eq_false (by omega)
        have hdn : decide (i < n) = false := decide_eq_false hlt
        have hin : i = n := by omega
        subst hin
        have hsr : S0 ≤ wr.heap.size := by have := hf.out.size; have := HS0.out; omega
        have HVL : Hid (vs.length = i) := by have := ho2.out.1; show _ = _; omega
        have HPS : Hid (ps.length = i) := by have := ho1.out.1; show _ = _; omega
        have HTM : Hid (tot ms ≤ 400) := Nat.le_trans htm.out hcnt
        have HML := hml
        go_wp2_with (first
        | (at_builtin
           refine wpList_app rfl _ _ _ _ rfl S0 25 i1 _ 1 8 Tryd.underlying36 HI1.out hz10 hz11 hz12 (by kernel_rfl) _ i _ rfl (own_fr ho1.out ((Fr.refl (fun _ => False) wr).alloc (.cells #[.pointer none] 25)) (fun _ _ h => h)) _ 1 [.pointer none] rfl
             (Src.ofSlice _ Tryd.underlying36 ⟨wr.heap.size, 0, none⟩ 1 1 [.pointer none] rfl (fun j u' hj => by rw [Addr.add_lit, (Blk.new wr 25 #[.pointer none]).cell, ← Array.getElem?_toList, Nat.zero_add]; exact hj) (fun u' hu' => by rw [List.mem_singleton.1 hu']; rfl))
             (by omega) (by unfold maxLen; omega) (by rw [World.size_alloc]; omega) ?_
           intro w9v w9 w9o w9f w9n
           obtain ⟨A9, c9, rfl, -, -⟩ := own_slice w9o
           have O9 := Lib.hid w9o
           have F9 : Hid (Fr (fun k => (Value.slice A1 i c1).ownBlock = some k) wr w9) := (((Fr.refl (fun _ => False) wr).alloc (.cells #[.pointer none] 25)).mono (fun _ _ h => h.elim)).trans w9f (fun _ _ h => h)
           clear w9o w9f w9n))
        have O29 : w9.ownsRow S0 27 1 (.slice A2 i c2) i vs := own_fr ho2.out F9.out (fun k' hk' h => own_own_ne ho2.out ho1.out (by decide) hk' h)
        have IX2 : IXs w9 S0 ps ms := hxs.out.fr F9.out (fun k' cur h hk' => own_blk_ne ho1.out h (by decide) hk') (fun k' cur h hk' => own_blk_ne ho1.out h (by decide) hk')
        have OR2 : ORs w9 S0 vs ms := hos.out.fr F9.out (fun k' cur h hk' => own_blk_ne ho1.out h (by decide) hk')
        have FT : Fr (fun _ => False) w w9 := ((hf.out.mono (fp := fun k => S0 ≤ k) (fun _ _ h => h.elim)).trans F9.out (fun k' hk' h => (World.ownsRow.lt ho1.out k' h).1)).mono (fun k' hk' h => by have := HS0.out; omega)
        have RB9 : Rd w9 A2 i vs := Rd.of_own O29
        have RA9 : Rd w9 A9 (i + 1) (ps ++ [.pointer none]) := Rd.of_own O9.out
        have IX9 := Lib.hid IX2
        have OR9 := Lib.hid OR2
        have FW9 := Lib.hid FT
        have HRB9 := Lib.hid RB9
        have HRA9 := Lib.hid RA9
        have hrm := rmerge_c w9 A2 c2 vs ms (by rw [HVL.out]; exact RB9) OR2.rrs (by rw [HVL.out]; omega) (by have := HTM.out; omega)
        rw [HVL.out] at hrm
        clear O29 IX2 OR2 FT RB9 RA9
        refine hrm.mono ?_
        rintro e w10 ⟨rv, rfl, ro, rf⟩
        obtain ⟨A10, c10, rfl, rr, hc10⟩ := OwR.rd ro
        have RR := Lib.hid rr
        have F10 := Lib.hid rf
        clear hrm ro rr rf
        clear ho1 ho2 hxs hos hf htm F9 O9 hsr
        obtain ⟨G, hG⟩ : ∃ G, mrg ms = G := ⟨_, rfl⟩
        have hgl : G.length ≤ 100000 := by rw [← hG]; have := mrg_len ms; have := HTM.out; omega
        rw [hG] at RR hc10 ⊢
        have HG := Lib.hid hG
        obtain ⟨sl, hsl⟩ : ∃ sl, G.length = sl := ⟨_, rfl⟩
        rw [hsl] at RR hc10 ⊢
        have HSL := Lib.hid hsl
        have HGL := Lib.hid hgl
        obtain ⟨n1, hn1⟩ : ∃ n1, i + 1 = n1 := ⟨_, rfl⟩
        rw [hn1] at HRA9 ⊢
        have HPL : Hid ((ps ++ [Value.pointer none]).length = n1) := by show _ = _; rw [List.length_append, HPS.out]; exact hn1
        have hn1b : n1 ≤ 41 := by omega
        have hkn1 : (i : Int) < n1 := by omega
        have IX10 := Lib.hid (IX9.out.far F10.out)
        have OR10 := Lib.hid (OR9.out.far F10.out)
        have RA10 := Lib.hid (HRA9.out.far F10.out)
        have RB10 := Lib.hid (HRB9.out.far F10.out)
        have FW10 := Lib.hid (FW9.out.trans F10.out (fun _ _ h => h))
        have HSRS : Hid (∀ m ∈ ms ++ [[]], Srt m) := fun m hm => by
          rcases List.mem_append.1 hm with h | h
          · exact IX9.out.srt m h
          · rw [List.mem_singleton.1 h]; exact List.Pairwise.nil
        have HLENS : Hid (∀ m ∈ ms ++ [[]], m.length ≤ 100000) := fun m hm => by
          rcases List.mem_append.1 hm with h | h
          · have := tot_at h; have := HTM.out; omega
          · rw [List.mem_singleton.1 h]; simp
        obtain ⟨ul, hul⟩ : ∃ ul, (upto u G).length = ul := ⟨_, rfl⟩
        have HUQ := Lib.hid hul
        have HUL : Hid ((upto u G).length ≤ 100000) := Nat.le_trans (upto_len u G) hgl
        have RU : Hid (Rd w10 A10 ((upto u G).length * 2) (ec (upto u G))) := by
          show Rd _ _ _ _
          have rr := RR.out
          unfold upto
          split
          · have h1 := rr.take (k := (G.take u.toNat).length * 2) (by rw [List.length_take]; omega)
            rw [← ec_take] at h1
            have h2 : G.take (G.take u.toNat).length = G.take u.toNat := by
              rw [List.length_take]
              by_cases hle : u.toNat ≤ G.length
              · rw [Nat.min_eq_left hle]
              · rw [Nat.min_eq_right (by omega), List.take_of_length_le (Nat.le_refl _), List.take_of_length_le (by omega)]
            rw [h2] at h1
            exact h1
          · rw [hsl]; exact rr
        have hmn : 0 ≤ u → min u (sl : Int) = (ul : Int) := fun h => by
          rw [← hul]
          unfold upto
          rw [if_pos h, List.length_take, hsl]
          omega
        have hmn2 : u < 0 → sl = ul := fun h => by
          rw [← hul]
          unfold upto
          rw [if_neg (by omega), hsl]
        have hulc : ul ≤ c10 := by rw [← hul]; have := upto_len u G; omega
        have HM1 := Lib.hid hmn
        have HM2 := Lib.hid hmn2
        clear hsl hgl hul hG hmn hmn2 hn1 IX9 OR9 HRA9 HRB9 FW9 F10 RR
        by_cases hu0 : 0 ≤ u
        · have hd1 : decide (u ≥ 0) = true := decide_eq_true hu0
          have hd2 : decide ((0 : Int) ≤ u) = true := decide_eq_true hu0
          have hmn := HM1.out hu0
          go_wp2_with fail
          clear hmn hd1 hd2
          have hmg := merge_c w10 A9 c9 (ps ++ [.pointer none]) (ms ++ [[]]) (by rw [HPL.out]; exact RA10.out) IX10.out.xrs HSRS.out HLENS.out (by rw [HPL.out]; omega)
          rw [HPL.out, mrg_nil_snoc, HG.out] at hmg
          go_wp2_with fail
          refine hmg.mono ?_
          rintro e w11 ⟨sv, rfl, hs11, f11⟩
          have HS11 := Lib.hid hs11
          have F11 := Lib.hid f11
          clear hmg hs11 f11
          go_wp2_with fail
          refine (rows2_c w11 sv u G HS11.out HGL.out HU1.out).mono ?_
          rintro e w12 ⟨r12, rfl, hr12, f12⟩
          obtain ⟨A12, c12, rfl, hrd12, -⟩ := OwR.rd hr12
          have RD12 := Lib.hid hrd12
          have F12 := Lib.hid (F11.out.trans f12 (fun _ _ h => h))
          clear hr12 hrd12 f12 HS11 F11
          rw [HUQ.out]
          go_wp2_with fail
          have hsm := same_c w12 A12 A10 c12 c10 (upto u G) (upto u G) RD12.out (RU.out.far F12.out) HUL.out HUL.out
          rw [HUQ.out, decide_eq_true (rfl : upto u G = upto u G)] at hsm
          refine hsm.mono ?_
          rintro e w13 ⟨rfl, f13⟩
          have F13 := Lib.hid (F12.out.trans f13 (fun _ _ h => h))
          have IX13 := Lib.hid (IX10.out.far F13.out)
          have OR13 := Lib.hid (OR10.out.far F13.out)
          have RA13 := Lib.hid (RA10.out.far F13.out)
          have RB13 := Lib.hid (RB10.out.far F13.out)
          have FW13 := Lib.hid (FW10.out.trans F13.out (fun _ _ h => h))
          clear hsm f13 RD12 F12 F13 IX10 OR10 RA10 RB10 FW10
          go_wp2_with fail
          go_loopw [14] (fun kv wq => ∃ k : Nat, kv = .int .i64 k ∧ k ≤ i ∧ Hid (Fr (fun _ => False) w13 wq)) (fun kv _ => i - (intOf kv).toNat)
          case atStart => exact ⟨0, rfl, Nat.zero_le _, Fr.refl _ _⟩
          case round =>
            obtain ⟨k, rfl, hk, hfk⟩ := hrel
            by_cases hkt : k < i
            · have hkl : decide ((k : Int) < (i : Int)) = true := decide_eq_true (by omega)
              have hkn : decide (k < i) = true := decide_eq_true hkt
              have hkI : (k : Int) < i := by omega
              have hkI1 : (k : Int) < n1 := by omega
              obtain ⟨ba, oa, rfl, hca⟩ := (RA13.out.far hfk.out).lit (by omega)
              obtain ⟨bb, ob, rfl, hcb⟩ := (RB13.out.far hfk.out).lit (by omega)
              have hkp : k < ps.length := by have := HPL.out; rw [List.length_append, List.length_singleton] at this; omega
              have hkv : k < vs.length := by rw [HVL.out]; exact hkt
              have hkm : k < ms.length := by rw [HML.out]; exact hkt
              obtain ⟨gk, vk, hpk, hik⟩ := IX13.out.at_ k _ _ (List.getElem?_eq_getElem hkp) (List.getElem?_eq_getElem hkm)
              obtain ⟨Ak, ck, hvk, hrk, hck⟩ := OwR.rd (OR13.out.at_ k _ _ (List.getElem?_eq_getElem hkv) (List.getElem?_eq_getElem hkm))
              have y1 : wr.cell? ⟨ba, oa + k, none⟩ = some (.pointer (some ⟨gk, 0, none⟩)) := by
                rw [hca k (by omega), List.getElem?_append_left hkp, List.getElem?_eq_getElem hkp, hpk]
              have y2 : wr.cell? ⟨bb, ob + k, none⟩ = some (.slice Ak ms[k].length ck) := by
                rw [hcb k hkt, List.getElem?_eq_getElem hkv, hvk]
              have hlk : ms[k].length ≤ 100000 := by have := tot_at (List.getElem_mem hkm); have := HTM.out; omega
              have HST := Lib.hid (stands_c wr.drew (.pointer (some ⟨gk, 0, none⟩)) ms[k] Ak ck ((hik.far hfk.out).far ((Fr.refl _ wr).drew)).xr hik.srt hlk ((hrk.far hfk.out).far ((Fr.refl _ wr).drew)) hck)
              clear hca hcb hpk hik hvk hrk hck hlk
              generalize ms[k].length = mk at *
              go_wp2_with fail
              go_region_held3 (fun W => W.cell? ⟨ba, oa + k, none⟩ = some (.pointer (some ⟨gk, 0, none⟩)) ∧ W.cell? ⟨bb, ob + k, none⟩ = some (.slice Ak mk ck)) (first | exact ⟨y1, y2⟩ | exact ⟨z1, z2⟩)
                (first
                | (go_at_call 16; refine HST.out.mono ?_; rintro e w14 ⟨rfl, f14⟩; have F14 := Lib.hid f14; have z1 := (f14.cell (World.block_lt_of_cell? wr _ y1) (fun h => h)).trans y1; have z2 := (f14.cell (World.block_lt_of_cell? wr _ y2) (fun h => h)).trans y2; clear f14))
              have HF14 : Hid (Fr (fun _ => False) w13 w14) := (hfk.out.drew).trans F14.out (fun _ _ h => h)
              clear y1 y2 z1 z2
              go_wp2_with fail
              exact ⟨⟨k + 1, by push_cast; rfl, by omega, HF14.out⟩, by simp only [intOf]; omega⟩
            · have hkl : decide ((k : Int) < (i : Int)) = false := decide_eq_false (by omega)
              have hkn : decide (k < i) = false := decide_eq_false hkt
              have HFZ := Lib.hid (FW13.out.trans hfk.out (fun _ _ h => h))
              go_wp2_with fail
              refine (awake_c wr (HT.out.far HFZ.out)).mono ?_
              rintro e wz ⟨rfl, fz⟩
              have FZ := Lib.hid (HFZ.out.trans fz (fun _ _ h => h))
              clear fz
              go_wp2_with fail
              go_ret
              exact ⟨rfl, FZ.out⟩
        · have hd1 : decide (u ≥ 0) = false := decide_eq_false hu0
          have hd2 : decide ((0 : Int) ≤ u) = false := decide_eq_false hu0
          have hsu := HM2.out (by omega)
          subst hsu
          go_wp2_with fail
          clear hd1 hd2
          have hmg := merge_c w10 A9 c9 (ps ++ [.pointer none]) (ms ++ [[]]) (by rw [HPL.out]; exact RA10.out) IX10.out.xrs HSRS.out HLENS.out (by rw [HPL.out]; omega)
          rw [HPL.out, mrg_nil_snoc, HG.out] at hmg
          go_wp2_with fail
          refine hmg.mono ?_
          rintro e w11 ⟨sv, rfl, hs11, f11⟩
          have HS11 := Lib.hid hs11
          have F11 := Lib.hid f11
          clear hmg hs11 f11
          go_wp2_with fail
          refine (rows2_c w11 sv u G HS11.out HGL.out HU1.out).mono ?_
          rintro e w12 ⟨r12, rfl, hr12, f12⟩
          obtain ⟨A12, c12, rfl, hrd12, -⟩ := OwR.rd hr12
          have RD12 := Lib.hid hrd12
          have F12 := Lib.hid (F11.out.trans f12 (fun _ _ h => h))
          clear hr12 hrd12 f12 HS11 F11
          rw [HUQ.out]
          go_wp2_with fail
          have hsm := same_c w12 A12 A10 c12 c10 (upto u G) (upto u G) RD12.out (RU.out.far F12.out) HUL.out HUL.out
          rw [HUQ.out, decide_eq_true (rfl : upto u G = upto u G)] at hsm
          refine hsm.mono ?_
          rintro e w13 ⟨rfl, f13⟩
          have F13 := Lib.hid (F12.out.trans f13 (fun _ _ h => h))
          have IX13 := Lib.hid (IX10.out.far F13.out)
          have OR13 := Lib.hid (OR10.out.far F13.out)
          have RA13 := Lib.hid (RA10.out.far F13.out)
          have RB13 := Lib.hid (RB10.out.far F13.out)
          have FW13 := Lib.hid (FW10.out.trans F13.out (fun _ _ h => h))
          clear hsm f13 RD12 F12 F13 IX10 OR10 RA10 RB10 FW10
          go_wp2_with fail
          go_loopw [14] (fun kv wq => ∃ k : Nat, kv = .int .i64 k ∧ k ≤ i ∧ Hid (Fr (fun _ => False) w13 wq)) (fun kv _ => i - (intOf kv).toNat)
          case atStart => exact ⟨0, rfl, Nat.zero_le _, Fr.refl _ _⟩
          case round =>
            obtain ⟨k, rfl, hk, hfk⟩ := hrel
            by_cases hkt : k < i
            · have hkl : decide ((k : Int) < (i : Int)) = true := decide_eq_true (by omega)
              have hkn : decide (k < i) = true := decide_eq_true hkt
              have hkI : (k : Int) < i := by omega
              have hkI1 : (k : Int) < n1 := by omega
              obtain ⟨ba, oa, rfl, hca⟩ := (RA13.out.far hfk.out).lit (by omega)
              obtain ⟨bb, ob, rfl, hcb⟩ := (RB13.out.far hfk.out).lit (by omega)
              have hkp : k < ps.length := by have := HPL.out; rw [List.length_append, List.length_singleton] at this; omega
              have hkv : k < vs.length := by rw [HVL.out]; exact hkt
              have hkm : k < ms.length := by rw [HML.out]; exact hkt
              obtain ⟨gk, vk, hpk, hik⟩ := IX13.out.at_ k _ _ (List.getElem?_eq_getElem hkp) (List.getElem?_eq_getElem hkm)
              obtain ⟨Ak, ck, hvk, hrk, hck⟩ := OwR.rd (OR13.out.at_ k _ _ (List.getElem?_eq_getElem hkv) (List.getElem?_eq_getElem hkm))
              have y1 : wr.cell? ⟨ba, oa + k, none⟩ = some (.pointer (some ⟨gk, 0, none⟩)) := by
                rw [hca k (by omega), List.getElem?_append_left hkp, List.getElem?_eq_getElem hkp, hpk]
              have y2 : wr.cell? ⟨bb, ob + k, none⟩ = some (.slice Ak ms[k].length ck) := by
                rw [hcb k hkt, List.getElem?_eq_getElem hkv, hvk]
              have hlk : ms[k].length ≤ 100000 := by have := tot_at (List.getElem_mem hkm); have := HTM.out; omega
              have HST := Lib.hid (stands_c wr.drew (.pointer (some ⟨gk, 0, none⟩)) ms[k] Ak ck ((hik.far hfk.out).far ((Fr.refl _ wr).drew)).xr hik.srt hlk ((hrk.far hfk.out).far ((Fr.refl _ wr).drew)) hck)
              clear hca hcb hpk hik hvk hrk hck hlk
              generalize ms[k].length = mk at *
              go_wp2_with fail
              go_region_held3 (fun W => W.cell? ⟨ba, oa + k, none⟩ = some (.pointer (some ⟨gk, 0, none⟩)) ∧ W.cell? ⟨bb, ob + k, none⟩ = some (.slice Ak mk ck)) (first | exact ⟨y1, y2⟩ | exact ⟨z1, z2⟩)
                (first
                | (go_at_call 16; refine HST.out.mono ?_; rintro e w14 ⟨rfl, f14⟩; have F14 := Lib.hid f14; have z1 := (f14.cell (World.block_lt_of_cell? wr _ y1) (fun h => h)).trans y1; have z2 := (f14.cell (World.block_lt_of_cell? wr _ y2) (fun h => h)).trans y2; clear f14))
              have HF14 : Hid (Fr (fun _ => False) w13 w14) := (hfk.out.drew).trans F14.out (fun _ _ h => h)
              clear y1 y2 z1 z2
              go_wp2_with fail
              exact ⟨⟨k + 1, by push_cast; rfl, by omega, HF14.out⟩, by simp only [intOf]; omega⟩
            · have hkl : decide ((k : Int) < (i : Int)) = false := decide_eq_false (by omega)
              have hkn : decide (k < i) = false := decide_eq_false hkt
              have HFZ := Lib.hid (FW13.out.trans hfk.out (fun _ _ h => h))
              go_wp2_with fail
              refine (awake_c wr (HT.out.far HFZ.out)).mono ?_
              rintro e wz ⟨rfl, fz⟩
              have FZ := Lib.hid (HFZ.out.trans fz (fun _ _ h => h))
              clear fz
              go_wp2_with fail
              go_ret
              exact ⟨rfl, FZ.out⟩
  · have hd1 : decide ((n : Int) > 40) = true := decide_eq_true (by omega)
    have hd2 : decide ((40 : Int) < (n : Int)) = true := decide_eq_true (by omega)
    go_wp2_with fail
    refine (awake_c w HT.out).mono ?_
    rintro e wz ⟨rfl, fz⟩
    have FZ := Lib.hid fz
    clear fz
    go_wp2_with fail
    go_ret
    exact ⟨rfl, FZ.out⟩
end Go.Proofs.YtillifkilkjpdaaDoor
