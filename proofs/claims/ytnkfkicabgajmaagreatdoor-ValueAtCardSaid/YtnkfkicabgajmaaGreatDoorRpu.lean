/-
  CONTRACT of the reference's Put. Written by gen_rpu.py.
-/
import Derived.Test.YtnkfkicabgajmaaGreatDoorAtP
import Derived.Test.YtnkfkicabgajmaaGreatDoorRcy
import Derived.Test.YtnkfkicabgajmaaGreatDoorRmay
import Derived.Test.YtnkfkicabgajmaaGreatDoorPut
import Derived.Deep.CutRange
namespace Go.Proofs.YtnkfkicabgajmaaGreatDoor
set_option linter.unusedSimpArgs false
set_option linter.unusedVariables false
open Go Go.RowKit

/-- What is being made: rows of the call's own, of elements that others own. -/
structure ROut (Dv : Nat → Prop) (w : World) (g : Nat) (W : World) (ol : List V) (ok : List (List UInt8)) (A : Option Addr) (c : Nat) (K : Option Addr) (kc : Nat) (css : List (Array Value)) : Prop where
  kr : W.ownsRow 0 9 1 (.slice K ok.length kc) ok.length (strs ok)
  kf : ∀ q, (Value.slice K ok.length kc).ownBlock = some q → g < q
  lr : W.ownsRow 0 25 5 (.slice A ol.length c) ol.length (flat css)
  lf : ∀ q, (Value.slice A ol.length c).ownBlock = some q → g < q
  cn : css.length = ol.length
  c5 : ∀ C ∈ css, C.size = 5
  el : ∀ (i : Nat) (C : Array Value) (x : V), css[i]? = some C → ol[i]? = some x → RdV Dv W C x
  box : Blk W g 25 (vcs 6 0 [] A ol.length c K ok.length kc)
  fr : Fr (fun _ => False) w W
  ml : ∀ s ∈ ok, s.length ≤ 140737488355328
section
variable {Dv : Nat → Prop} {w W W1 W2 W3 : World} {g : Nat} {ol : List V} {ok : List (List UInt8)} {A : Option Addr} {c : Nat} {K : Option Addr} {kc : Nat} {css : List (Array Value)}
theorem ROut.far (h : ROut Dv w g W ol ok A c K kc css) (hf : Fr (fun _ => False) W W1) : ROut Dv w g W1 ol ok A c K kc css :=
  ⟨own_fr h.kr hf (fun _ _ h => h), h.kf, own_fr h.lr hf (fun _ _ h => h), h.lf, h.cn, h.c5, fun i C x h1 h2 => (h.el i C x h1 h2).far hf, keepB h.box hf, h.fr.trans hf (fun _ _ h => h), h.ml⟩
theorem ROut.addK {K' : Option Addr} {kc' : Nat} {s : List UInt8} (h : ROut Dv w g W ol ok A c K kc css) (hD : ∀ q, Dv q → q < w.heap.size) (hg : w.heap.size ≤ g) (hf : Fr (fun _ => False) W W1) (hs : s.length ≤ 140737488355328)
    (o : W2.ownsRow 0 9 1 (.slice K' (ok.length + 1) kc') (ok.length + 1) (strs ok ++ [.string (strOf s)])) (f : Fr (fun q => (Value.slice K ok.length kc).ownBlock = some q) W1 W2)
    (hn : (Value.slice K' (ok.length + 1) kc').ownBlock = (Value.slice K ok.length kc).ownBlock ∨ (Value.slice K' (ok.length + 1) kc').ownBlock = some W1.heap.size)
    (b2 : Blk W3 g 25 (vcs 6 0 [] A ol.length c K' (ok.length + 1) kc')) (f2 : Fr (fun q => q = g) W2 W3) : ROut Dv w g W3 ol (ok ++ [s]) A c K' kc' css := by
  have h1 := h.far hf
  have s0 := h.box.lt
  have s1 := hf.size
  have hkf : ∀ q, (Value.slice K' (ok.length + 1) kc').ownBlock = some q → g < q := fun q hq => by
    rcases hn with e | e
    · exact h.kf q (e ▸ hq)
    · rw [e] at hq
      injection hq with hq
      omega
  have hlen : (ok ++ [s]).length = ok.length + 1 := by simp
  have hrow : ∀ q, (Value.slice A ol.length c).ownBlock = some q → ¬ (Value.slice K ok.length kc).ownBlock = some q := fun q hq => own_ty h1.lr h1.kr (fun e => ty_ne e.symm) hq
  have hlow : ∀ q, q < w.heap.size → ¬ (Value.slice K ok.length kc).ownBlock = some q := fun q hq e => by have := h.kf q e; omega
  refine ⟨?_, ?_, own_fr (own_fr h1.lr f hrow) f2 (fun q hq e => by have := h.lf q hq; omega), h.lf, h.cn, h.c5, fun i C x h1' h2' => ((h1.el i C x h1' h2').fr f (fun q hq => hlow q (hD q hq))).fr f2 (fun q hq e => by have hq' : q < w.heap.size := hD q hq; omega), ?_, (h1.fr.trans f (fun q hq e => hlow q hq e)).trans f2 (fun q hq e => by omega), ?_⟩
  · rw [hlen, strs_append]
    exact own_fr o f2 (fun q hq e => by have := hkf q hq; omega)
  · rw [hlen]; exact hkf
  · rw [hlen]; exact b2
  · intro y hy
    rcases List.mem_append.1 hy with hy | hy
    · exact h.ml y hy
    · rw [List.mem_singleton.1 hy]; exact hs
theorem ROut.addL {A' : Option Addr} {c' : Nat} {C' : Array Value} {x : V} (h : ROut Dv w g W ol ok A c K kc css) (hD : ∀ q, Dv q → q < w.heap.size) (hg : w.heap.size ≤ g) (hf : Fr (fun _ => False) W W1) (hx : RdV Dv w C' x)
    (o : W2.ownsRow 0 25 5 (.slice A' (ol.length + 1) c') (ol.length + 1) (flat css ++ C'.toList)) (f : Fr (fun q => (Value.slice A ol.length c).ownBlock = some q) W1 W2)
    (hn : (Value.slice A' (ol.length + 1) c').ownBlock = (Value.slice A ol.length c).ownBlock ∨ (Value.slice A' (ol.length + 1) c').ownBlock = some W1.heap.size)
    (b2 : Blk W3 g 25 (vcs 6 0 [] A' (ol.length + 1) c' K ok.length kc)) (f2 : Fr (fun q => q = g) W2 W3) : ROut Dv w g W3 (ol ++ [x]) ok A' c' K kc (css ++ [C']) := by
  have h1 := h.far hf
  have s0 := h.box.lt
  have s1 := hf.size
  have hkf : ∀ q, (Value.slice A' (ol.length + 1) c').ownBlock = some q → g < q := fun q hq => by
    rcases hn with e | e
    · exact h.lf q (e ▸ hq)
    · rw [e] at hq
      injection hq with hq
      omega
  have hlen : (ol ++ [x]).length = ol.length + 1 := by simp
  have hrow : ∀ q, (Value.slice K ok.length kc).ownBlock = some q → ¬ (Value.slice A ol.length c).ownBlock = some q := fun q hq => own_ty h1.kr h1.lr ty_ne hq
  have hlow : ∀ q, q < w.heap.size → ¬ (Value.slice A ol.length c).ownBlock = some q := fun q hq e => by have := h.lf q e; omega
  have hfr : Fr (fun _ => False) w W3 := (h1.fr.trans f (fun q hq e => hlow q hq e)).trans f2 (fun q hq e => by omega)
  refine ⟨own_fr (own_fr h1.kr f hrow) f2 (fun q hq e => by have := h.kf q hq; omega), h.kf, ?_, ?_, by simp [h.cn], ?_, ?_, ?_, hfr, h.ml⟩
  · rw [hlen, flat_append, flat_one]
    exact own_fr o f2 (fun q hq e => by have := hkf q hq; omega)
  · rw [hlen]; exact hkf
  · intro C hC
    rcases List.mem_append.1 hC with hC | hC
    · exact h.c5 C hC
    · rw [List.mem_singleton.1 hC]; exact hx.size
  · intro i C y e1 e2
    by_cases hi : i < ol.length
    · rw [List.getElem?_append_left (by rw [h.cn]; exact hi)] at e1
      rw [List.getElem?_append_left hi] at e2
      exact ((h1.el i C y e1 e2).fr f (fun q hq => hlow q (hD q hq))).fr f2 (fun q hq e => by have hq' : q < w.heap.size := hD q hq; omega)
    · have hi2 : i = ol.length := by
        have := (List.getElem?_eq_some_iff.1 e2).1
        rw [hlen] at this
        omega
      subst hi2
      rw [List.getElem?_append_right (by rw [h.cn]; exact Nat.le_refl _)] at e1
      rw [List.getElem?_append_right (Nat.le_refl _)] at e2
      rw [h.cn] at e1
      simp at e1 e2
      subst e1 e2
      exact hx.far hfr
  · rw [hlen]; exact b2
theorem ROut.rd (h : ROut Dv w g W ol ok A c K kc css) (h1 : ol.length ≤ 140737488355328) (h2 : ok.length ≤ 140737488355328) : RdV (fun b => Dv b ∨ g < b) W (vcs 6 0 [] A ol.length c K ok.length kc) (.mk 6 0 [] ol ok) :=
  .mk css ⟨by decide, by decide, by decide, by decide, Nat.zero_le _, h1, h2, h.ml⟩ (Rd.of_own h.kr) (fun hn b hb => .inr (h.kf b (own_in h.kr hn hb))) (own_cap h.kr) h.cn h.c5 (own_rd5 h.lr) (fun hn b hb => .inr (h.lf b (own_in h.lr hn hb))) (own_cap h.lr) (fun i C x e1 e2 => (h.el i C x e1 e2).mono (fun _ hb => .inl hb))
theorem blk_low {q : Nat} {t : TypeId} {C : Array Value} {v : Value} (h : Blk W q t C) (hq : q < g) (hf : Fr (fun _ => False) W W1) (f : Fr (fun k => v.ownBlock = some k) W1 W2) (hv : ∀ k, v.ownBlock = some k → g < k) (f2 : Fr (fun k => k = g) W2 W3) : Blk W3 q t C :=
  ((keepB h hf).fr f (fun e => by have := hv q e; omega)).fr f2 (fun e => by omega)
end

set_option maxRecDepth 100000 in
set_option maxHeartbeats 8000000 in
theorem rput_c (v x : V) (w : World) {D : Nat → Prop} {C1 C3 : Array Value} (r1 : RdV D w C1 v) (r3 : RdV D w C3 x) (h6 : v.k = 6) (hm : mayV v = true) (key : List UInt8) (hk : key.length ≤ 140737488355328) :
    Calls Tryz.prog 15 #[.agg C1, .string (strOf key), .agg C3] w fun e w' => ∃ C, e = .returned (.agg C) ∧ RdV (fun b => D b ∨ w.heap.size ≤ b) w' C (putV v key x) ∧ Fr (fun _ => False) w w' := by
  have hres := results_one (P := Tryz.prog) (fn := Tryz.f15) (p := 6) (ty := 25) Tryz.results15
  obtain ⟨i0, hi0, hz0', hz1', hz2'⟩ := info_parts v_info
  have HI0 := Lib.hid hi0
  obtain ⟨j0, hj0, jz0', jz1', jz2'⟩ := info_parts s_info0
  have HJ0 := Lib.hid hj0
  obtain ⟨k3, n3, t3, l3, ks3, A3, p3, K3, d3, cs3, e3, rfl, -⟩ := r3.inv
  have R3 := Lib.hid r3.lts
  have HS3 := Lib.hid (szV r3)
  have HO3 := Lib.hid (oneV r3)
  have R1 := Lib.hid r1.lts
  obtain ⟨Dv, hDv⟩ : ∃ Dv : Nat → Prop, (fun b => D b ∧ b < w.heap.size) = Dv := ⟨_, rfl⟩
  have HD : Hid (∀ q, Dv q → q < w.heap.size) := Lib.hid (fun q hq => by rw [← hDv] at hq; exact hq.2)
  have HDD : Hid (∀ q, Dv q → D q) := Lib.hid (fun q hq => by rw [← hDv] at hq; exact hq.1)
  rw [hDv] at R1 R3
  clear hDv
  have HS1 := Lib.hid (szV r1)
  have SRC := Lib.hid (fun (W : World) (g : Nat) (hb : Blk W g 25 (vcs k3 n3 t3 A3 l3.length p3 K3 ks3.length d3)) => Src.one (Blk.rng hb) r3.size r3.one)
  clear hi0 hj0 r3 e3
  obtain ⟨k, n, t, l, ks, Al, cl, Ak, ck, css0, rfl, rfl, vp⟩ := R1.out.inv
  have h6' : k = 6 := h6
  subst h6'
  have hml := may_kl hm
  have hfd := (may_fields hm).1
  have hobj := (uses_iff.1 (fields_kids hfd).1).obj rfl
  have hob1 : ks.length ≤ l.length := Nat.le_of_eq hobj
  have hob2 : l.length ≤ ks.length := Nat.le_of_eq hobj.symm
  clear hobj
  have hrise := (fields_kids hfd).2.2.1
  have HPV := Lib.hid (putV_ptk (key := key) (x := x) hfd)
  have HPS := Lib.hid (posK_spec hrise key)
  have hhk : ∀ (h : posK ks key < ks.length), hK ks key = if ks[posK ks key] = key then 1 else 0 := fun h => by
    unfold hK hasK
    by_cases e : ks[posK ks key] = key
    · rw [if_pos e, if_pos (by simp [h, e])]
    · rw [if_neg e, if_neg (by simp [h, e])]
  have HHK := Lib.hid hhk
  obtain ⟨P, hP⟩ : ∃ P, posK ks key = P := ⟨_, rfl⟩
  obtain ⟨hh, hhe⟩ : ∃ h, hK ks key = h := ⟨_, rfl⟩
  rw [hP] at HPS HPV HHK
  rw [hhe] at HPV HHK
  have hP1 : P ≤ ks.length := HPS.out.1
  have hnl := hml.1
  have hll := hml.2
  have HVP := Lib.hid vp
  have HKS := Lib.hid vp.b.ks
  clear r1 vp hm h6 hfd hrise hml hP hhe hhk
  obtain ⟨bx, hbx⟩ : ∃ bx, w.heap.size = bx := ⟨_, rfl⟩
  have HBX := Lib.hid hbx
  clear hbx
  go_enter Tryz.func15, Tryz.ntmps15
  go_upto_region 1 with fail
  refine abs_world (fun W => Hid (Blk W w.heap.size 25 (vcs 6 n t Al l.length cl Ak ks.length ck)) ∧ Hid (Blk W (w.heap.size + 1) 25 (vcs k3 n3 t3 A3 l3.length p3 K3 ks3.length d3)) ∧ Hid (Blk W (w.heap.size + 2) 25 (vcs 0 0 [] none 0 0 none 0 0)) ∧ W.heap.size = w.heap.size + 3 ∧ Hid (Fr (fun _ => False) w W)) ⟨((Blk.new w _ _).alloc _).alloc _, (Blk.new1 w _ _ _).alloc _, Blk.new2 w _ _ _ _, by simp, (((Fr.refl _ w).alloc _).alloc _).alloc _⟩ ?_
  rintro W1 ⟨B1, B3, RR, S1, F1⟩
  rw [HBX.out] at B1 B3 RR S1 ⊢
  go_upto_region 2 with fail
  have BN : Hid (Blk (W1.alloc (.cells (vcs 6 0 [] none 0 0 none 0 0) 25)) (bx + 3) 25 (vcs 6 0 [] none 0 0 none 0 0)) := Lib.hid (by have := Blk.new W1 25 (vcs 6 0 [] none 0 0 none 0 0); rw [S1] at this; exact this)
  refine abs_world (fun W => Hid (ROut Dv w (bx + 3) W [] [] none 0 none 0 []) ∧ Hid (Blk W bx 25 (vcs 6 n t Al l.length cl Ak ks.length ck)) ∧ Hid (Blk W (bx + 1) 25 (vcs k3 n3 t3 A3 l3.length p3 K3 ks3.length d3)) ∧ Hid (Blk W (bx + 2) 25 (vcs 0 0 [] none 0 0 none 0 0))) ⟨⟨World.ownsRow_nil _ _ _ _, fun q h => by simp [Value.ownBlock] at h, World.ownsRow_nil _ _ _ _, fun q h => by simp [Value.ownBlock] at h, rfl, fun _ h => by (cases h), fun i C x h => by simp at h, BN.out, F1.out.alloc _, fun _ h => by cases h⟩, B1.out.alloc _, B3.out.alloc _, RR.out.alloc _⟩ ?_
  clear BN B1 B3 RR F1 S1
  clear W1
  rintro W1 ⟨RO, B1, B3, RR⟩
  obtain ⟨g, hg⟩ : ∃ g, bx + 3 = g := ⟨_, rfl⟩
  rw [hg] at RO ⊢
  have hgw : w.heap.size ≤ g := by have := HBX.out; omega
  have HKL := Lib.hid hk
  clear hk
  go_wp2_with fail
  go_loopw [8, 9] (fun dv iv W => ∃ (i : Nat) (dn : Bool) (ol : List V) (ok : List (List UInt8)) (A : Option Addr) (c : Nat) (K : Option Addr) (kc : Nat) (css : List (Array Value)), i ≤ ks.length ∧ dv = .bool dn ∧ iv = .int .i64 (i : Int) ∧ Hid (dn = decide (P < i)) ∧ Hid (ol = ptk P hh x l i) ∧ Hid (ok = ptk P hh key ks i) ∧ Hid (ROut Dv w g W ol ok A c K kc css) ∧ Hid (Blk W bx 25 (vcs 6 n t Al l.length cl Ak ks.length ck)) ∧ Hid (Blk W (bx + 1) 25 (vcs k3 n3 t3 A3 l3.length p3 K3 ks3.length d3)) ∧ Hid (Blk W (bx + 2) 25 (vcs 0 0 [] none 0 0 none 0 0))) (fun _ iv _ => ks.length - (intOf iv).toNat)
  case atStart => exact ⟨0, false, [], [], none, 0, none, 0, [], Nat.zero_le _, rfl, rfl, Lib.hid (by simp), ptk_0.symm, ptk_0.symm, RO.out, B1.out, B3.out, RR.out⟩
  case round =>
    clear RO B1 B3 RR
    obtain ⟨i, dn, ol, ok, A, c, K, kc, css, hi, rfl, rfl, hdn, hol, hok, RO, B1, B3, RR⟩ := hrel
    have holl : ol.length ≤ 600 := by rw [hol.out]; have := ptk_len_le (P := P) (h := hh) (x := x) (l := l) (i := i) (by omega); omega
    have hokl : ok.length ≤ 600 := by rw [hok.out]; have := ptk_len_le (P := P) (h := hh) (x := key) (l := ks) (i := i) (by omega); omega
    have c4 : wr.cell? ⟨bx, 4, none⟩ = some (.slice Ak ks.length ck) := B1.out.cell 4
    by_cases hlt : i < ks.length
    case pos =>
      have d1 : decide ((i : Int) < (ks.length : Int)) = true := decide_eq_true (by omega)
      have d1' : decide (i < ks.length) = true := decide_eq_true hlt
      obtain ⟨wd, hwd⟩ : ∃ wd : World, wd = wr := ⟨_, rfl⟩
      rcases Nat.lt_trichotomy i P with hip | hip | hip
      · obtain rfl : dn = false := by rw [hdn.out]; exact decide_eq_false (by omega)
        have hkl := HPS.out.2.1 i hip
        rw [show ks.getD i [] = ks[i] by simp [hlt], kl_cmpT] at hkl
        have hz := cmpT_neg key ks[i]
        have TX := Lib.hid (rtexts_c wr key ks[i] HKL.out (HKS.out _ (List.getElem_mem hlt)))
        obtain ⟨z, hzz⟩ : ∃ z, cmpT key ks[i] = z := ⟨_, rfl⟩
        rw [hzz] at TX hz
        have hz0 : ¬ z ≤ 0 := by have := of_decide_eq_true hkl; omega
        have e2 : decide (z ≤ 0) = false := decide_eq_false hz0
        obtain ⟨bk0, ofk0, hAk0, c1⟩ := (HVP.out.far RO.out.fr).key hlt
        rw [hAk0] at c4
        clear hkl hz hzz hz0 hAk0 hwd
        clear wd
        go_wp2_with fail
        refine TX.out.mono ?_
        rintro e wd ⟨rfl, f6⟩
        replace RO := Lib.hid (RO.out.far f6)
        replace B1 := Lib.hid (keepB B1.out f6)
        replace B3 := Lib.hid (keepB B3.out f6)
        replace RR := Lib.hid (keepB RR.out f6)
        clear f6 TX c4 c1
        have c4 : wd.cell? ⟨bx, 4, none⟩ = some (.slice Ak ks.length ck) := B1.out.cell 4
        have c3 : wd.cell? ⟨bx, 3, none⟩ = some (.slice Al l.length cl) := B1.out.cell 3
        obtain ⟨bk, ofk, hAk, c1⟩ := (HVP.out.far RO.out.fr).key hlt
        subst hAk
        have hsi : (ks[i]).length ≤ 140737488355328 := HKS.out _ (List.getElem_mem hlt)
        have HKI := Lib.hid hsi
        clear hsi
        have k4 : ∀ o, (wd.alloc o).cell? ⟨g, 4, none⟩ = some (.slice K ok.length kc) := fun o => (RO.out.box.alloc o).cell 4
        have k4b : wd.cell? ⟨g, 4, none⟩ = some (.slice K ok.length kc) := RO.out.box.cell 4
        have k4c : ∀ o, (wd.drew.alloc o).cell? ⟨g, 4, none⟩ = some (.slice K ok.length kc) := fun o => (RO.out.box.drew.alloc o).cell 4
        have FA := Lib.hid (((Fr.refl (fun _ => False) wd).drew).alloc (.cells #[.string (strOf ks[i])] 9))
        have KO : Hid (∀ o, (wd.drew.alloc o).ownsRow 0 9 1 (.slice K ok.length kc) ok.length (strs ok)) := Lib.hid (fun o => own_fr RO.out.kr (((Fr.refl (fun _ => False) wd).drew).alloc o) (fun _ _ h => h))
        go_upto_region 11 with fail
        go_cut [57] from 11 to 68 (fun pv W => ∃ (K7 : Option Addr) (kc7 : Nat), pv = .slice K7 (ok.length + 1) kc7 ∧ Hid (ROut Dv w g W ol (ok ++ [ks[i]]) A c K7 kc7 css) ∧ Hid (Blk W bx 25 (vcs 6 n t Al l.length cl (some ⟨bk, ofk, none⟩) ks.length ck)) ∧ Hid (Blk W (bx + 1) 25 (vcs k3 n3 t3 A3 l3.length p3 K3 ks3.length d3)) ∧ Hid (Blk W (bx + 2) 25 (vcs 0 0 [] none 0 0 none 0 0)))
        case first =>
          go_region_law (first
            | (refine oper_app_p rfl (.tmp 50) (.tmp 56) _ _ rfl 0 9 j0 _ 1 16 Tryz.underlying23 HJ0.out jz0' jz1' jz2' rfl (.slice K ok.length kc) ok.length (strs ok) (by simp [Act.eval, Act.put]) (KO.out _) _ 1 _ (by simp [Act.eval, Act.put]) (src_s (Blk.new wd.drew _ _)) (by omega) (by unfold maxLen; omega) (Nat.zero_le _) ?_
               intro v7 W7 o7 f7 hn7
               obtain ⟨K7, kc7, rfl, -, -⟩ := own_slice o7
               have O7 := Lib.hid o7
               have F7 := Lib.hid f7
               have N7 := Lib.hid hn7
               have B7 : Hid (Blk W7 g 25 (vcs 6 0 [] A ol.length c K ok.length kc)) := Lib.hid (Blk.fr (keepB RO.out.box FA.out) f7 (fun he => by have := RO.out.kf g he; omega))
               have k4' : W7.cell? ⟨g, 4, none⟩ = some (.slice K ok.length kc) := B7.out.cell 4
               have z4' : W7.frozen? ⟨g, 4, none⟩ = false := B7.out.frozen 4
               clear o7 f7 hn7))
          all_goals
            go_wp2_with fail
            go_meet
            exact ⟨K7, kc7, rfl, ROut.addK RO.out HD.out hgw FA.out HKI.out O7.out F7.out N7.out (B7.out.set_ 4 _) ((Fr.refl (fun q => q = g) W7).setCell (p := ⟨g, 4, none⟩) (fun _ => rfl) _), blk_low B1.out (by omega) FA.out F7.out RO.out.kf ((Fr.refl (fun q => q = g) W7).setCell (p := ⟨g, 4, none⟩) (fun _ => rfl) _), blk_low B3.out (by omega) FA.out F7.out RO.out.kf ((Fr.refl (fun q => q = g) W7).setCell (p := ⟨g, 4, none⟩) (fun _ => rfl) _), blk_low RR.out (by omega) FA.out F7.out RO.out.kf ((Fr.refl (fun q => q = g) W7).setCell (p := ⟨g, 4, none⟩) (fun _ => rfl) _)⟩
        case rest =>
          obtain ⟨K7, kc7, rfl, RO, B1, B3, RR⟩ := hcut
          clear c4 c3 k4 k4b k4c FA KO c1
          obtain ⟨we, hwe⟩ : ∃ we : World, we = wc := ⟨_, rfl⟩
          subst hwe
          obtain ⟨ok2, hok2⟩ : ∃ q, ok ++ [ks[i]] = q := ⟨_, rfl⟩
          have HOK2 := Lib.hid hok2
          have hokl2 : ok2.length ≤ 700 := by rw [← hok2]; simp; omega
          have hokl3 : ok.length + 1 = ok2.length := by rw [← hok2]; simp
          rw [hok2] at RO
          clear hok2
          have c3 : we.cell? ⟨bx, 3, none⟩ = some (.slice Al l.length cl) := B1.out.cell 3
          obtain ⟨be, ofe, Ce, hAe, hce, hre, hge, h5e⟩ := (HVP.out.far RO.out.fr).at_ (i := i) (by omega)
          subst hAe
          obtain ⟨k5, n5, t5, l5, ks5, A5, c5, K5, d5, cs5, e5, rfl, -⟩ := hre.inv
          have y0 : we.cell? ⟨be, ofe + i * 5, none⟩ = some (.int .i64 k5) := hge 0 _ rfl
          have y1 : we.cell? ⟨be, ofe + i * 5 + 1, none⟩ = some (.int .i64 n5) := hge 1 _ rfl
          have y2 : we.cell? ⟨be, ofe + i * 5 + 2, none⟩ = some (.string (strOf t5)) := hge 2 _ rfl
          have y3 : we.cell? ⟨be, ofe + i * 5 + 3, none⟩ = some (.slice A5 l5.length c5) := hge 3 _ rfl
          have y4 : we.cell? ⟨be, ofe + i * 5 + 4, none⟩ = some (.slice K5 ks5.length d5) := hge 4 _ rfl
          have HRE0 : Hid (RdV Dv w (vcs k5 n5 t5 A5 l5.length c5 K5 ks5.length d5) l[i]) := Lib.hid (HVP.out.el i _ _ (hce) (List.getElem?_eq_getElem (by omega)))
          have N5 := Lib.hid hre.one
          have hil : i < l.length := by omega
          clear hce hre hge h5e e5
          have k4 : ∀ o, (we.alloc o).cell? ⟨g, 3, none⟩ = some (.slice A ol.length c) := fun o => (RO.out.box.alloc o).cell 3
          have k4b : we.cell? ⟨g, 3, none⟩ = some (.slice A ol.length c) := RO.out.box.cell 3
          have k4c : ∀ o, (we.drew.alloc o).cell? ⟨g, 3, none⟩ = some (.slice A ol.length c) := fun o => (RO.out.box.drew.alloc o).cell 3
          have FA := Lib.hid (((Fr.refl (fun _ => False) we).drew).alloc (.cells (vcs k5 n5 t5 A5 l5.length c5 K5 ks5.length d5) 25))
          have KO : Hid (∀ o, (we.drew.alloc o).ownsRow 0 25 5 (.slice A ol.length c) ol.length (flat css)) := Lib.hid (fun o => own_fr RO.out.lr (((Fr.refl (fun _ => False) we).drew).alloc o) (fun _ _ h => h))
          go_upto_region 12 with fail
          go_region_law (first
            | (refine oper_app_p rfl (.tmp 60) (.tmp 66) _ _ rfl 0 25 i0 _ 5 80 Tryz.underlying22 HI0.out hz0' hz1' hz2' rfl (.slice A ol.length c) ol.length (flat css) (by simp [Act.eval, Act.put]) (KO.out _) _ 1 _ (by simp [Act.eval, Act.put]) (Src.one (Blk.rng (Blk.new we.drew 25 (vcs k5 n5 t5 A5 l5.length c5 K5 ks5.length d5))) rfl N5.out) (by omega) (by unfold maxLen; omega) (Nat.zero_le _) ?_
               intro v7 W7 o7 f7 hn7
               obtain ⟨A7, c7, rfl, -, -⟩ := own_slice o7
               have O7 := Lib.hid o7
               have F7 := Lib.hid f7
               have N7 := Lib.hid hn7
               have B7 : Hid (Blk W7 g 25 (vcs 6 0 [] A ol.length c K7 ok2.length kc7)) := Lib.hid (Blk.fr (keepB RO.out.box FA.out) f7 (fun he => by have := RO.out.lf g he; omega))
               have k4' : W7.cell? ⟨g, 3, none⟩ = some (.slice A ol.length c) := B7.out.cell 3
               have z4' : W7.frozen? ⟨g, 3, none⟩ = false := B7.out.frozen 3
               clear o7 f7 hn7))
          all_goals
            refine abs_inb (fun W => Hid (ROut Dv w g W (ol ++ [l[i]]) ok2 A7 c7 K7 kc7 (css ++ [vcs k5 n5 t5 A5 l5.length c5 K5 ks5.length d5])) ∧ Hid (Blk W bx 25 (vcs 6 n t (some ⟨be, ofe, none⟩) l.length cl (some ⟨bk, ofk, none⟩) ks.length ck)) ∧ Hid (Blk W (bx + 1) 25 (vcs k3 n3 t3 A3 l3.length p3 K3 ks3.length d3)) ∧ Hid (Blk W (bx + 2) 25 (vcs 0 0 [] none 0 0 none 0 0))) ⟨ROut.addL RO.out HD.out hgw FA.out HRE0.out O7.out F7.out N7.out (B7.out.set_ 3 _) ((Fr.refl (fun q => q = g) W7).setCell (p := ⟨g, 3, none⟩) (fun _ => rfl) _), blk_low B1.out (by omega) FA.out F7.out RO.out.lf ((Fr.refl (fun q => q = g) W7).setCell (p := ⟨g, 3, none⟩) (fun _ => rfl) _), blk_low B3.out (by omega) FA.out F7.out RO.out.lf ((Fr.refl (fun q => q = g) W7).setCell (p := ⟨g, 3, none⟩) (fun _ => rfl) _), blk_low RR.out (by omega) FA.out F7.out RO.out.lf ((Fr.refl (fun q => q = g) W7).setCell (p := ⟨g, 3, none⟩) (fun _ => rfl) _)⟩ ?_
            clear c3 k4 k4b k4c FA KO y0 y1 y2 y3 y4 O7 F7 N7 B7 k4' z4' RO B1 B3 RR
            clear W7
            rintro wf ⟨RO, B1, B3, RR⟩
            go_wp2_with fail
            go_roundw
            case rel =>
              refine ⟨i + 1, false, _, _, A7, c7, K7, kc7, _, by omega, rfl, by go_num, Lib.hid (decide_eq_false (by omega)).symm, ?_, ?_, RO.out, B1.out, B3.out, RR.out⟩
              · refine Lib.hid ?_
                rw [hol.out, ptk_lt hip hil]
              · refine Lib.hid ?_
                rw [← HOK2.out, hok.out, ptk_lt hip hlt]
            case measure => simp [intOf]; omega
      · subst hip
        obtain rfl : dn = false := by rw [hdn.out]; exact decide_eq_false (by omega)
        have hkl := HPS.out.2.2 i (Nat.le_refl _) hlt
        rw [show ks.getD i [] = ks[i] by simp [hlt], kl_cmpT] at hkl
        have hz := cmpT_neg key ks[i]
        have TX := Lib.hid (rtexts_c wr key ks[i] HKL.out (HKS.out _ (List.getElem_mem hlt)))
        obtain ⟨z, hzz⟩ : ∃ z, cmpT key ks[i] = z := ⟨_, rfl⟩
        rw [hzz] at TX hz
        have hz0 : z ≤ 0 := by have := of_decide_eq_false hkl; omega
        have e2 : decide (z ≤ 0) = true := decide_eq_true hz0
        obtain ⟨bk0, ofk0, hAk0, c1⟩ := (HVP.out.far RO.out.fr).key hlt
        rw [hAk0] at c4
        clear hkl hz hzz hz0 hwd hAk0
        clear wd
        go_wp2_with fail
        refine TX.out.mono ?_
        rintro e wd ⟨rfl, f6⟩
        replace RO := Lib.hid (RO.out.far f6)
        replace B1 := Lib.hid (keepB B1.out f6)
        replace B3 := Lib.hid (keepB B3.out f6)
        replace RR := Lib.hid (keepB RR.out f6)
        clear f6 TX c4 c1
        have k4 : ∀ o, (wd.alloc o).cell? ⟨g, 4, none⟩ = some (.slice K ok.length kc) := fun o => (RO.out.box.alloc o).cell 4
        have k4b : wd.cell? ⟨g, 4, none⟩ = some (.slice K ok.length kc) := RO.out.box.cell 4
        have FA := Lib.hid ((Fr.refl (fun _ => False) wd).alloc (.cells #[.string (strOf key)] 9))
        have KO : Hid ((wd.alloc (.cells #[.string (strOf key)] 9)).ownsRow 0 9 1 (.slice K ok.length kc) ok.length (strs ok)) := Lib.hid (own_fr RO.out.kr FA.out (fun _ _ h => h))
        go_upto_region 8 with (
          at_builtin
          refine wpList_app rfl (.tmp 31) (.tmp 33) _ _ rfl 0 9 j0 _ 1 16 Tryz.underlying23 HJ0.out jz0' jz1' jz2' rfl (.slice K ok.length kc) ok.length (strs ok) rfl KO.out _ 1 _ rfl (src_s (Blk.new wd _ _)) (by omega) (by unfold maxLen; omega) (Nat.zero_le _) ?_
          intro v7 W7 o7 f7 hn7
          obtain ⟨K7, kc7, rfl, -, -⟩ := own_slice o7
          have O7 := Lib.hid o7
          have F7 := Lib.hid f7
          have N7 := Lib.hid hn7
          have B7 : Hid (Blk W7 g 25 (vcs 6 0 [] A ol.length c K ok.length kc)) := Lib.hid (Blk.fr (keepB RO.out.box FA.out) f7 (fun he => by have := RO.out.kf g he; omega))
          have k4' : W7.cell? ⟨g, 4, none⟩ = some (.slice K ok.length kc) := B7.out.cell 4
          have z4' : W7.frozen? ⟨g, 4, none⟩ = false := B7.out.frozen 4
          clear o7 f7 hn7)
        refine abs_world (fun W => Hid (ROut Dv w g W ol (ok ++ [key]) A c K7 kc7 css) ∧ Hid (Blk W bx 25 (vcs 6 n t Al l.length cl Ak ks.length ck)) ∧ Hid (Blk W (bx + 1) 25 (vcs k3 n3 t3 A3 l3.length p3 K3 ks3.length d3)) ∧ Hid (Blk W (bx + 2) 25 (vcs 0 0 [] none 0 0 none 0 0))) ⟨ROut.addK RO.out HD.out hgw FA.out HKL.out O7.out F7.out N7.out (B7.out.set_ 4 _) ((Fr.refl (fun q => q = g) W7).setCell (p := ⟨g, 4, none⟩) (fun _ => rfl) _), blk_low B1.out (by omega) FA.out F7.out RO.out.kf ((Fr.refl (fun q => q = g) W7).setCell (p := ⟨g, 4, none⟩) (fun _ => rfl) _), blk_low B3.out (by omega) FA.out F7.out RO.out.kf ((Fr.refl (fun q => q = g) W7).setCell (p := ⟨g, 4, none⟩) (fun _ => rfl) _), blk_low RR.out (by omega) FA.out F7.out RO.out.kf ((Fr.refl (fun q => q = g) W7).setCell (p := ⟨g, 4, none⟩) (fun _ => rfl) _)⟩ ?_
        clear k4 k4b FA KO k4' z4' O7 F7 N7 B7 RO B1 B3 RR
        clear W7
        rintro wd7 ⟨RO, B1, B3, RR⟩
        obtain ⟨ok, hok1⟩ : ∃ q, q = ok ++ [key] := ⟨_, rfl⟩
        have HOK1 := Lib.hid hok1
        have hokl : ok.length ≤ 601 := by rw [hok1]; simp; omega
        rw [← hok1] at RO
        clear hok1
        obtain ⟨K, rfl⟩ : ∃ q, q = K7 := ⟨_, rfl⟩
        obtain ⟨kc, rfl⟩ : ∃ q, q = kc7 := ⟨_, rfl⟩
        have k4 : ∀ o, (wd7.alloc o).cell? ⟨g, 3, none⟩ = some (.slice A ol.length c) := fun o => (RO.out.box.alloc o).cell 3
        have k4b : wd7.cell? ⟨g, 3, none⟩ = some (.slice A ol.length c) := RO.out.box.cell 3
        have FA := Lib.hid ((Fr.refl (fun _ => False) wd7).alloc (.cells (vcs k3 n3 t3 A3 l3.length p3 K3 ks3.length d3) 25))
        have KO : Hid ((wd7.alloc (.cells (vcs k3 n3 t3 A3 l3.length p3 K3 ks3.length d3) 25)).ownsRow 0 25 5 (.slice A ol.length c) ol.length (flat css)) := Lib.hid (own_fr RO.out.lr FA.out (fun _ _ h => h))
        have BX3 := Lib.hid (blk_all B3.out)
        go_upto_region 9 with (first
          | (refine wpList_load_val rfl 25 _ rfl (bx + 1) _ rfl _ BX3.out _ Tryz.underlying25 rfl HS3.out ?_)
          | (at_builtin
             refine wpList_app rfl (.tmp 37) (.tmp 39) _ _ rfl 0 25 i0 _ 5 80 Tryz.underlying22 HI0.out hz0' hz1' hz2' rfl (.slice A ol.length c) ol.length (flat css) rfl KO.out _ 1 _ rfl (SRC.out _ _ (Blk.new wd7 _ _)) (by omega) (by unfold maxLen; omega) (Nat.zero_le _) ?_
             intro v7 W7 o7 f7 hn7
             obtain ⟨A7, c7, rfl, -, -⟩ := own_slice o7
             have O7 := Lib.hid o7
             have F7 := Lib.hid f7
             have N7 := Lib.hid hn7
             have B7 : Hid (Blk W7 g 25 (vcs 6 0 [] A ol.length c K ok.length kc)) := Lib.hid (Blk.fr (keepB RO.out.box FA.out) f7 (fun he => by have := RO.out.lf g he; omega))
             have k4' : W7.cell? ⟨g, 3, none⟩ = some (.slice A ol.length c) := B7.out.cell 3
             have z4' : W7.frozen? ⟨g, 3, none⟩ = false := B7.out.frozen 3
             clear o7 f7 hn7))
        refine abs_world (fun W => Hid (ROut Dv w g W (ol ++ [x]) ok A7 c7 K kc (css ++ [vcs k3 n3 t3 A3 l3.length p3 K3 ks3.length d3])) ∧ Hid (Blk W bx 25 (vcs 6 n t Al l.length cl Ak ks.length ck)) ∧ Hid (Blk W (bx + 1) 25 (vcs k3 n3 t3 A3 l3.length p3 K3 ks3.length d3)) ∧ Hid (Blk W (bx + 2) 25 (vcs 0 0 [] none 0 0 none 0 0))) ⟨ROut.addL RO.out HD.out hgw FA.out R3.out O7.out F7.out N7.out (B7.out.set_ 3 _) ((Fr.refl (fun q => q = g) W7).setCell (p := ⟨g, 3, none⟩) (fun _ => rfl) _), blk_low B1.out (by omega) FA.out F7.out RO.out.lf ((Fr.refl (fun q => q = g) W7).setCell (p := ⟨g, 3, none⟩) (fun _ => rfl) _), blk_low B3.out (by omega) FA.out F7.out RO.out.lf ((Fr.refl (fun q => q = g) W7).setCell (p := ⟨g, 3, none⟩) (fun _ => rfl) _), blk_low RR.out (by omega) FA.out F7.out RO.out.lf ((Fr.refl (fun q => q = g) W7).setCell (p := ⟨g, 3, none⟩) (fun _ => rfl) _)⟩ ?_
        clear k4 k4b FA KO k4' z4' O7 F7 N7 B7 RO B1 B3 RR BX3
        clear W7
        rintro wd ⟨RO, B1, B3, RR⟩
        obtain ⟨ol, hol1⟩ : ∃ q, q = ol ++ [x] := ⟨_, rfl⟩
        have HOL1 := Lib.hid hol1
        have holl : ol.length ≤ 601 := by rw [hol1]; simp; omega
        rw [← hol1] at RO
        clear hol1
        obtain ⟨A, rfl⟩ : ∃ q, q = A7 := ⟨_, rfl⟩
        obtain ⟨c, rfl⟩ : ∃ q, q = c7 := ⟨_, rfl⟩
        obtain ⟨css, hcss⟩ : ∃ q, q = css ++ [vcs k3 n3 t3 A3 l3.length p3 K3 ks3.length d3] := ⟨_, rfl⟩
        rw [← hcss] at RO
        clear hcss
        have hst : ((strOf key).toList == (strOf ks[i]).toList) = (key == ks[i]) := by rw [strOf_toList, strOf_toList]
        by_cases he : key = ks[i]
        · have HE := Lib.hid he
          have he2 : (key == ks[i]) = true := by simpa using he
          rw [he2] at hst
          have c4 : wd.cell? ⟨bx, 4, none⟩ = some (.slice Ak ks.length ck) := B1.out.cell 4
          obtain ⟨bk1, ofk1, hAk1, c1⟩ := (HVP.out.far RO.out.fr).key hlt
          rw [hAk1] at c4
          clear he he2 hAk1
          go_wp2_with fail
          go_roundw
          case rel =>
            have h1 : hh = 1 := by rw [HHK.out hlt, if_pos HE.out.symm]
            refine ⟨i + 1, true, _, _, A, c, K, kc, _, by omega, rfl, by go_num, Lib.hid (decide_eq_true (by omega)).symm, ?_, ?_, RO.out, B1.out, B3.out, RR.out⟩
            · refine Lib.hid ?_
              rw [HOL1.out, hol.out, h1, ptk_at1]
            · refine Lib.hid ?_
              rw [HOK1.out, hok.out, h1, ptk_at1]
          case measure => simp [intOf]; omega
        · have he2 : (key == ks[i]) = false := by simpa using he
          have h0 : hh = 0 := by rw [HHK.out hlt, if_neg (fun e => he e.symm)]
          have H0 := Lib.hid h0
          rw [he2] at hst
          clear he he2 h0
          have c4 : wd.cell? ⟨bx, 4, none⟩ = some (.slice Ak ks.length ck) := B1.out.cell 4
          have c3 : wd.cell? ⟨bx, 3, none⟩ = some (.slice Al l.length cl) := B1.out.cell 3
          obtain ⟨bk, ofk, hAk, c1⟩ := (HVP.out.far RO.out.fr).key hlt
          subst hAk
          have hsi : (ks[i]).length ≤ 140737488355328 := HKS.out _ (List.getElem_mem hlt)
          have HKI := Lib.hid hsi
          clear hsi
          have k4 : ∀ o, (wd.alloc o).cell? ⟨g, 4, none⟩ = some (.slice K ok.length kc) := fun o => (RO.out.box.alloc o).cell 4
          have k4b : wd.cell? ⟨g, 4, none⟩ = some (.slice K ok.length kc) := RO.out.box.cell 4
          have k4c : ∀ o, (wd.drew.alloc o).cell? ⟨g, 4, none⟩ = some (.slice K ok.length kc) := fun o => (RO.out.box.drew.alloc o).cell 4
          have FA := Lib.hid (((Fr.refl (fun _ => False) wd).drew).alloc (.cells #[.string (strOf ks[i])] 9))
          have KO : Hid (∀ o, (wd.drew.alloc o).ownsRow 0 9 1 (.slice K ok.length kc) ok.length (strs ok)) := Lib.hid (fun o => own_fr RO.out.kr (((Fr.refl (fun _ => False) wd).drew).alloc o) (fun _ _ h => h))
          go_upto_region 11 with fail
          go_cut [57] from 11 to 68 (fun pv W => ∃ (K7 : Option Addr) (kc7 : Nat), pv = .slice K7 (ok.length + 1) kc7 ∧ Hid (ROut Dv w g W ol (ok ++ [ks[i]]) A c K7 kc7 css) ∧ Hid (Blk W bx 25 (vcs 6 n t Al l.length cl (some ⟨bk, ofk, none⟩) ks.length ck)) ∧ Hid (Blk W (bx + 1) 25 (vcs k3 n3 t3 A3 l3.length p3 K3 ks3.length d3)) ∧ Hid (Blk W (bx + 2) 25 (vcs 0 0 [] none 0 0 none 0 0)))
          case first =>
            go_region_law (first
              | (refine oper_app_p rfl (.tmp 50) (.tmp 56) _ _ rfl 0 9 j0 _ 1 16 Tryz.underlying23 HJ0.out jz0' jz1' jz2' rfl (.slice K ok.length kc) ok.length (strs ok) (by simp [Act.eval, Act.put]) (KO.out _) _ 1 _ (by simp [Act.eval, Act.put]) (src_s (Blk.new wd.drew _ _)) (by omega) (by unfold maxLen; omega) (Nat.zero_le _) ?_
                 intro v7 W7 o7 f7 hn7
                 obtain ⟨K7, kc7, rfl, -, -⟩ := own_slice o7
                 have O7 := Lib.hid o7
                 have F7 := Lib.hid f7
                 have N7 := Lib.hid hn7
                 have B7 : Hid (Blk W7 g 25 (vcs 6 0 [] A ol.length c K ok.length kc)) := Lib.hid (Blk.fr (keepB RO.out.box FA.out) f7 (fun he => by have := RO.out.kf g he; omega))
                 have k4' : W7.cell? ⟨g, 4, none⟩ = some (.slice K ok.length kc) := B7.out.cell 4
                 have z4' : W7.frozen? ⟨g, 4, none⟩ = false := B7.out.frozen 4
                 clear o7 f7 hn7))
            all_goals
              go_wp2_with fail
              go_meet
              exact ⟨K7, kc7, rfl, ROut.addK RO.out HD.out hgw FA.out HKI.out O7.out F7.out N7.out (B7.out.set_ 4 _) ((Fr.refl (fun q => q = g) W7).setCell (p := ⟨g, 4, none⟩) (fun _ => rfl) _), blk_low B1.out (by omega) FA.out F7.out RO.out.kf ((Fr.refl (fun q => q = g) W7).setCell (p := ⟨g, 4, none⟩) (fun _ => rfl) _), blk_low B3.out (by omega) FA.out F7.out RO.out.kf ((Fr.refl (fun q => q = g) W7).setCell (p := ⟨g, 4, none⟩) (fun _ => rfl) _), blk_low RR.out (by omega) FA.out F7.out RO.out.kf ((Fr.refl (fun q => q = g) W7).setCell (p := ⟨g, 4, none⟩) (fun _ => rfl) _)⟩
          case rest =>
            obtain ⟨K7, kc7, rfl, RO, B1, B3, RR⟩ := hcut
            clear c4 c3 k4 k4b k4c FA KO c1
            obtain ⟨we, hwe⟩ : ∃ we : World, we = wc := ⟨_, rfl⟩
            subst hwe
            obtain ⟨ok2, hok2⟩ : ∃ q, ok ++ [ks[i]] = q := ⟨_, rfl⟩
            have HOK2 := Lib.hid hok2
            have hokl2 : ok2.length ≤ 700 := by rw [← hok2]; simp; omega
            have hokl3 : ok.length + 1 = ok2.length := by rw [← hok2]; simp
            rw [hok2] at RO
            clear hok2
            have c3 : we.cell? ⟨bx, 3, none⟩ = some (.slice Al l.length cl) := B1.out.cell 3
            obtain ⟨be, ofe, Ce, hAe, hce, hre, hge, h5e⟩ := (HVP.out.far RO.out.fr).at_ (i := i) (by omega)
            subst hAe
            obtain ⟨k5, n5, t5, l5, ks5, A5, c5, K5, d5, cs5, e5, rfl, -⟩ := hre.inv
            have y0 : we.cell? ⟨be, ofe + i * 5, none⟩ = some (.int .i64 k5) := hge 0 _ rfl
            have y1 : we.cell? ⟨be, ofe + i * 5 + 1, none⟩ = some (.int .i64 n5) := hge 1 _ rfl
            have y2 : we.cell? ⟨be, ofe + i * 5 + 2, none⟩ = some (.string (strOf t5)) := hge 2 _ rfl
            have y3 : we.cell? ⟨be, ofe + i * 5 + 3, none⟩ = some (.slice A5 l5.length c5) := hge 3 _ rfl
            have y4 : we.cell? ⟨be, ofe + i * 5 + 4, none⟩ = some (.slice K5 ks5.length d5) := hge 4 _ rfl
            have HRE0 : Hid (RdV Dv w (vcs k5 n5 t5 A5 l5.length c5 K5 ks5.length d5) l[i]) := Lib.hid (HVP.out.el i _ _ (hce) (List.getElem?_eq_getElem (by omega)))
            have N5 := Lib.hid hre.one
            have hil : i < l.length := by omega
            clear hce hre hge h5e e5
            have k4 : ∀ o, (we.alloc o).cell? ⟨g, 3, none⟩ = some (.slice A ol.length c) := fun o => (RO.out.box.alloc o).cell 3
            have k4b : we.cell? ⟨g, 3, none⟩ = some (.slice A ol.length c) := RO.out.box.cell 3
            have k4c : ∀ o, (we.drew.alloc o).cell? ⟨g, 3, none⟩ = some (.slice A ol.length c) := fun o => (RO.out.box.drew.alloc o).cell 3
            have FA := Lib.hid (((Fr.refl (fun _ => False) we).drew).alloc (.cells (vcs k5 n5 t5 A5 l5.length c5 K5 ks5.length d5) 25))
            have KO : Hid (∀ o, (we.drew.alloc o).ownsRow 0 25 5 (.slice A ol.length c) ol.length (flat css)) := Lib.hid (fun o => own_fr RO.out.lr (((Fr.refl (fun _ => False) we).drew).alloc o) (fun _ _ h => h))
            go_upto_region 12 with fail
            go_region_law (first
              | (refine oper_app_p rfl (.tmp 60) (.tmp 66) _ _ rfl 0 25 i0 _ 5 80 Tryz.underlying22 HI0.out hz0' hz1' hz2' rfl (.slice A ol.length c) ol.length (flat css) (by simp [Act.eval, Act.put]) (KO.out _) _ 1 _ (by simp [Act.eval, Act.put]) (Src.one (Blk.rng (Blk.new we.drew 25 (vcs k5 n5 t5 A5 l5.length c5 K5 ks5.length d5))) rfl N5.out) (by omega) (by unfold maxLen; omega) (Nat.zero_le _) ?_
                 intro v7 W7 o7 f7 hn7
                 obtain ⟨A7, c7, rfl, -, -⟩ := own_slice o7
                 have O7 := Lib.hid o7
                 have F7 := Lib.hid f7
                 have N7 := Lib.hid hn7
                 have B7 : Hid (Blk W7 g 25 (vcs 6 0 [] A ol.length c K7 ok2.length kc7)) := Lib.hid (Blk.fr (keepB RO.out.box FA.out) f7 (fun he => by have := RO.out.lf g he; omega))
                 have k4' : W7.cell? ⟨g, 3, none⟩ = some (.slice A ol.length c) := B7.out.cell 3
                 have z4' : W7.frozen? ⟨g, 3, none⟩ = false := B7.out.frozen 3
                 clear o7 f7 hn7))
            all_goals
              refine abs_inb (fun W => Hid (ROut Dv w g W (ol ++ [l[i]]) ok2 A7 c7 K7 kc7 (css ++ [vcs k5 n5 t5 A5 l5.length c5 K5 ks5.length d5])) ∧ Hid (Blk W bx 25 (vcs 6 n t (some ⟨be, ofe, none⟩) l.length cl (some ⟨bk, ofk, none⟩) ks.length ck)) ∧ Hid (Blk W (bx + 1) 25 (vcs k3 n3 t3 A3 l3.length p3 K3 ks3.length d3)) ∧ Hid (Blk W (bx + 2) 25 (vcs 0 0 [] none 0 0 none 0 0))) ⟨ROut.addL RO.out HD.out hgw FA.out HRE0.out O7.out F7.out N7.out (B7.out.set_ 3 _) ((Fr.refl (fun q => q = g) W7).setCell (p := ⟨g, 3, none⟩) (fun _ => rfl) _), blk_low B1.out (by omega) FA.out F7.out RO.out.lf ((Fr.refl (fun q => q = g) W7).setCell (p := ⟨g, 3, none⟩) (fun _ => rfl) _), blk_low B3.out (by omega) FA.out F7.out RO.out.lf ((Fr.refl (fun q => q = g) W7).setCell (p := ⟨g, 3, none⟩) (fun _ => rfl) _), blk_low RR.out (by omega) FA.out F7.out RO.out.lf ((Fr.refl (fun q => q = g) W7).setCell (p := ⟨g, 3, none⟩) (fun _ => rfl) _)⟩ ?_
              clear c3 k4 k4b k4c FA KO y0 y1 y2 y3 y4 O7 F7 N7 B7 k4' z4' RO B1 B3 RR
              clear W7
              rintro wf ⟨RO, B1, B3, RR⟩
              go_wp2_with fail
              go_roundw
              case rel =>
                refine ⟨i + 1, true, _, _, A7, c7, K7, kc7, _, by omega, rfl, by go_num, Lib.hid (decide_eq_true (by omega)).symm, ?_, ?_, RO.out, B1.out, B3.out, RR.out⟩
                · refine Lib.hid ?_
                  rw [HOL1.out, hol.out, H0.out, ptk_at0 hil]
                · refine Lib.hid ?_
                  rw [← HOK2.out, HOK1.out, hok.out, H0.out, ptk_at0 hlt]
              case measure => simp [intOf]; omega
      · obtain rfl : dn = true := by rw [hdn.out]; exact decide_eq_true hip
        subst hwd
        have c4 : wd.cell? ⟨bx, 4, none⟩ = some (.slice Ak ks.length ck) := B1.out.cell 4
        have c3 : wd.cell? ⟨bx, 3, none⟩ = some (.slice Al l.length cl) := B1.out.cell 3
        obtain ⟨bk, ofk, hAk, c1⟩ := (HVP.out.far RO.out.fr).key hlt
        subst hAk
        have hsi : (ks[i]).length ≤ 140737488355328 := HKS.out _ (List.getElem_mem hlt)
        have HKI := Lib.hid hsi
        clear hsi
        have k4 : ∀ o, (wd.alloc o).cell? ⟨g, 4, none⟩ = some (.slice K ok.length kc) := fun o => (RO.out.box.alloc o).cell 4
        have k4b : wd.cell? ⟨g, 4, none⟩ = some (.slice K ok.length kc) := RO.out.box.cell 4
        have k4c : ∀ o, (wd.drew.alloc o).cell? ⟨g, 4, none⟩ = some (.slice K ok.length kc) := fun o => (RO.out.box.drew.alloc o).cell 4
        have FA := Lib.hid (((Fr.refl (fun _ => False) wd).drew).alloc (.cells #[.string (strOf ks[i])] 9))
        have KO : Hid (∀ o, (wd.drew.alloc o).ownsRow 0 9 1 (.slice K ok.length kc) ok.length (strs ok)) := Lib.hid (fun o => own_fr RO.out.kr (((Fr.refl (fun _ => False) wd).drew).alloc o) (fun _ _ h => h))
        go_upto_region 11 with fail
        go_cut [57] from 11 to 68 (fun pv W => ∃ (K7 : Option Addr) (kc7 : Nat), pv = .slice K7 (ok.length + 1) kc7 ∧ Hid (ROut Dv w g W ol (ok ++ [ks[i]]) A c K7 kc7 css) ∧ Hid (Blk W bx 25 (vcs 6 n t Al l.length cl (some ⟨bk, ofk, none⟩) ks.length ck)) ∧ Hid (Blk W (bx + 1) 25 (vcs k3 n3 t3 A3 l3.length p3 K3 ks3.length d3)) ∧ Hid (Blk W (bx + 2) 25 (vcs 0 0 [] none 0 0 none 0 0)))
        case first =>
          go_region_law (first
            | (refine oper_app_p rfl (.tmp 50) (.tmp 56) _ _ rfl 0 9 j0 _ 1 16 Tryz.underlying23 HJ0.out jz0' jz1' jz2' rfl (.slice K ok.length kc) ok.length (strs ok) (by simp [Act.eval, Act.put]) (KO.out _) _ 1 _ (by simp [Act.eval, Act.put]) (src_s (Blk.new wd.drew _ _)) (by omega) (by unfold maxLen; omega) (Nat.zero_le _) ?_
               intro v7 W7 o7 f7 hn7
               obtain ⟨K7, kc7, rfl, -, -⟩ := own_slice o7
               have O7 := Lib.hid o7
               have F7 := Lib.hid f7
               have N7 := Lib.hid hn7
               have B7 : Hid (Blk W7 g 25 (vcs 6 0 [] A ol.length c K ok.length kc)) := Lib.hid (Blk.fr (keepB RO.out.box FA.out) f7 (fun he => by have := RO.out.kf g he; omega))
               have k4' : W7.cell? ⟨g, 4, none⟩ = some (.slice K ok.length kc) := B7.out.cell 4
               have z4' : W7.frozen? ⟨g, 4, none⟩ = false := B7.out.frozen 4
               clear o7 f7 hn7))
          all_goals
            go_wp2_with fail
            go_meet
            exact ⟨K7, kc7, rfl, ROut.addK RO.out HD.out hgw FA.out HKI.out O7.out F7.out N7.out (B7.out.set_ 4 _) ((Fr.refl (fun q => q = g) W7).setCell (p := ⟨g, 4, none⟩) (fun _ => rfl) _), blk_low B1.out (by omega) FA.out F7.out RO.out.kf ((Fr.refl (fun q => q = g) W7).setCell (p := ⟨g, 4, none⟩) (fun _ => rfl) _), blk_low B3.out (by omega) FA.out F7.out RO.out.kf ((Fr.refl (fun q => q = g) W7).setCell (p := ⟨g, 4, none⟩) (fun _ => rfl) _), blk_low RR.out (by omega) FA.out F7.out RO.out.kf ((Fr.refl (fun q => q = g) W7).setCell (p := ⟨g, 4, none⟩) (fun _ => rfl) _)⟩
        case rest =>
          obtain ⟨K7, kc7, rfl, RO, B1, B3, RR⟩ := hcut
          clear c4 c3 k4 k4b k4c FA KO c1
          obtain ⟨we, hwe⟩ : ∃ we : World, we = wc := ⟨_, rfl⟩
          subst hwe
          obtain ⟨ok2, hok2⟩ : ∃ q, ok ++ [ks[i]] = q := ⟨_, rfl⟩
          have HOK2 := Lib.hid hok2
          have hokl2 : ok2.length ≤ 700 := by rw [← hok2]; simp; omega
          have hokl3 : ok.length + 1 = ok2.length := by rw [← hok2]; simp
          rw [hok2] at RO
          clear hok2
          have c3 : we.cell? ⟨bx, 3, none⟩ = some (.slice Al l.length cl) := B1.out.cell 3
          obtain ⟨be, ofe, Ce, hAe, hce, hre, hge, h5e⟩ := (HVP.out.far RO.out.fr).at_ (i := i) (by omega)
          subst hAe
          obtain ⟨k5, n5, t5, l5, ks5, A5, c5, K5, d5, cs5, e5, rfl, -⟩ := hre.inv
          have y0 : we.cell? ⟨be, ofe + i * 5, none⟩ = some (.int .i64 k5) := hge 0 _ rfl
          have y1 : we.cell? ⟨be, ofe + i * 5 + 1, none⟩ = some (.int .i64 n5) := hge 1 _ rfl
          have y2 : we.cell? ⟨be, ofe + i * 5 + 2, none⟩ = some (.string (strOf t5)) := hge 2 _ rfl
          have y3 : we.cell? ⟨be, ofe + i * 5 + 3, none⟩ = some (.slice A5 l5.length c5) := hge 3 _ rfl
          have y4 : we.cell? ⟨be, ofe + i * 5 + 4, none⟩ = some (.slice K5 ks5.length d5) := hge 4 _ rfl
          have HRE0 : Hid (RdV Dv w (vcs k5 n5 t5 A5 l5.length c5 K5 ks5.length d5) l[i]) := Lib.hid (HVP.out.el i _ _ (hce) (List.getElem?_eq_getElem (by omega)))
          have N5 := Lib.hid hre.one
          have hil : i < l.length := by omega
          clear hce hre hge h5e e5
          have k4 : ∀ o, (we.alloc o).cell? ⟨g, 3, none⟩ = some (.slice A ol.length c) := fun o => (RO.out.box.alloc o).cell 3
          have k4b : we.cell? ⟨g, 3, none⟩ = some (.slice A ol.length c) := RO.out.box.cell 3
          have k4c : ∀ o, (we.drew.alloc o).cell? ⟨g, 3, none⟩ = some (.slice A ol.length c) := fun o => (RO.out.box.drew.alloc o).cell 3
          have FA := Lib.hid (((Fr.refl (fun _ => False) we).drew).alloc (.cells (vcs k5 n5 t5 A5 l5.length c5 K5 ks5.length d5) 25))
          have KO : Hid (∀ o, (we.drew.alloc o).ownsRow 0 25 5 (.slice A ol.length c) ol.length (flat css)) := Lib.hid (fun o => own_fr RO.out.lr (((Fr.refl (fun _ => False) we).drew).alloc o) (fun _ _ h => h))
          go_upto_region 12 with fail
          go_region_law (first
            | (refine oper_app_p rfl (.tmp 60) (.tmp 66) _ _ rfl 0 25 i0 _ 5 80 Tryz.underlying22 HI0.out hz0' hz1' hz2' rfl (.slice A ol.length c) ol.length (flat css) (by simp [Act.eval, Act.put]) (KO.out _) _ 1 _ (by simp [Act.eval, Act.put]) (Src.one (Blk.rng (Blk.new we.drew 25 (vcs k5 n5 t5 A5 l5.length c5 K5 ks5.length d5))) rfl N5.out) (by omega) (by unfold maxLen; omega) (Nat.zero_le _) ?_
               intro v7 W7 o7 f7 hn7
               obtain ⟨A7, c7, rfl, -, -⟩ := own_slice o7
               have O7 := Lib.hid o7
               have F7 := Lib.hid f7
               have N7 := Lib.hid hn7
               have B7 : Hid (Blk W7 g 25 (vcs 6 0 [] A ol.length c K7 ok2.length kc7)) := Lib.hid (Blk.fr (keepB RO.out.box FA.out) f7 (fun he => by have := RO.out.lf g he; omega))
               have k4' : W7.cell? ⟨g, 3, none⟩ = some (.slice A ol.length c) := B7.out.cell 3
               have z4' : W7.frozen? ⟨g, 3, none⟩ = false := B7.out.frozen 3
               clear o7 f7 hn7))
          all_goals
            refine abs_inb (fun W => Hid (ROut Dv w g W (ol ++ [l[i]]) ok2 A7 c7 K7 kc7 (css ++ [vcs k5 n5 t5 A5 l5.length c5 K5 ks5.length d5])) ∧ Hid (Blk W bx 25 (vcs 6 n t (some ⟨be, ofe, none⟩) l.length cl (some ⟨bk, ofk, none⟩) ks.length ck)) ∧ Hid (Blk W (bx + 1) 25 (vcs k3 n3 t3 A3 l3.length p3 K3 ks3.length d3)) ∧ Hid (Blk W (bx + 2) 25 (vcs 0 0 [] none 0 0 none 0 0))) ⟨ROut.addL RO.out HD.out hgw FA.out HRE0.out O7.out F7.out N7.out (B7.out.set_ 3 _) ((Fr.refl (fun q => q = g) W7).setCell (p := ⟨g, 3, none⟩) (fun _ => rfl) _), blk_low B1.out (by omega) FA.out F7.out RO.out.lf ((Fr.refl (fun q => q = g) W7).setCell (p := ⟨g, 3, none⟩) (fun _ => rfl) _), blk_low B3.out (by omega) FA.out F7.out RO.out.lf ((Fr.refl (fun q => q = g) W7).setCell (p := ⟨g, 3, none⟩) (fun _ => rfl) _), blk_low RR.out (by omega) FA.out F7.out RO.out.lf ((Fr.refl (fun q => q = g) W7).setCell (p := ⟨g, 3, none⟩) (fun _ => rfl) _)⟩ ?_
            clear c3 k4 k4b k4c FA KO y0 y1 y2 y3 y4 O7 F7 N7 B7 k4' z4' RO B1 B3 RR
            clear W7
            rintro wf ⟨RO, B1, B3, RR⟩
            go_wp2_with fail
            go_roundw
            case rel =>
              refine ⟨i + 1, true, _, _, A7, c7, K7, kc7, _, by omega, rfl, by go_num, (decide_eq_true (by omega)).symm, ?_, ?_, RO.out, B1.out, B3.out, RR.out⟩
              · rw [hol.out, ptk_gt hip (by have := HHK.out (by omega); split at this <;> omega) hil]; rfl
              · rw [← HOK2.out, hok.out, ptk_gt hip (by have := HHK.out (by omega); split at this <;> omega) hlt]; rfl
            case measure => simp [intOf]; omega
    case neg =>
      obtain rfl : i = ks.length := by omega
      have d1 : decide ((ks.length : Int) < (ks.length : Int)) = false := decide_eq_false (by omega)
      have d1' : decide (ks.length < ks.length) = false := decide_eq_false (by omega)
      have hkl : ks.length = l.length := by omega
      by_cases hPn : P < ks.length
      · obtain rfl : dn = true := by rw [hdn.out]; exact decide_eq_true hPn
        have HFK : Hid (ok = ks.take P ++ key :: ks.drop (P + hh)) := Lib.hid (by rw [hok.out, ptk_end1 hPn])
        have HFL : Hid (ol = l.take P ++ x :: l.drop (P + hh)) := Lib.hid (by rw [hol.out, hkl, ptk_end1 (by omega)])
        clear hkl
        have RD := Lib.hid (RO.out.rd (by omega) (by omega))
        have BA := Lib.hid (blk_all RO.out.box)
        have BR := Lib.hid RR.out
        have Z2 := Lib.hid (szV RD.out)
        have O2 := Lib.hid (oneV RD.out)
        have hgb : bx + 2 < g := by omega
        go_wp2_with (first
          | (refine wpList_load_val rfl 25 _ rfl g _ rfl _ BA.out _ Tryz.underlying25 rfl Z2.out ?_)
          | (refine wpList_store_blk rfl 25 _ _ rfl (bx + 2) _ rfl rfl BR.out rfl Z2.out O2.out ?_
             intro W9 q9 f9
             have F9 := Lib.hid f9
             have Q9 := Lib.hid q9
             clear q9 f9))
        refine bodyPost_ret (v := .agg (vcs 6 0 [] A ol.length c K ok.length kc)) (hres _ W9 (bx + 2) 25 _ _ rfl Q9.out Tryz.underlying25 rfl Z2.out) rfl ?_
        have hbx := HBX.out
        refine ⟨_, rfl, ?_, RO.out.fr.trans F9.out (fun q hq e => by omega)⟩
        rw [HPV.out, ← HFL.out, ← HFK.out]
        exact (RD.out.fr F9.out (fun q hq e => by rcases hq with hq | hq
                                                  · have := HD.out q hq; omega
                                                  · omega)).mono (fun q hq => hq.elim (fun h => .inl (HDD.out q h)) (fun h => .inr (by omega)))
      · have hPe : P = ks.length := by omega
        obtain rfl : dn = false := by rw [hdn.out]; exact decide_eq_false (by omega)
        have HFK0 : Hid (ok ++ [key] = ks.take P ++ key :: ks.drop (P + hh)) := Lib.hid (by rw [hok.out, ptk_end0 hPe])
        have HFL0 : Hid (ol ++ [x] = l.take P ++ x :: l.drop (P + hh)) := Lib.hid (by rw [hol.out, hkl, ptk_end0 (by omega)])
        clear hkl hPe hPn
        have k4 : ∀ o, (wr.alloc o).cell? ⟨g, 4, none⟩ = some (.slice K ok.length kc) := fun o => (RO.out.box.alloc o).cell 4
        have k4b : wr.cell? ⟨g, 4, none⟩ = some (.slice K ok.length kc) := RO.out.box.cell 4
        have FA := Lib.hid ((Fr.refl (fun _ => False) wr).alloc (.cells #[.string (strOf key)] 9))
        have KO : Hid ((wr.alloc (.cells #[.string (strOf key)] 9)).ownsRow 0 9 1 (.slice K ok.length kc) ok.length (strs ok)) := Lib.hid (own_fr RO.out.kr FA.out (fun _ _ h => h))
        go_upto_region 15 with (
          at_builtin
          refine wpList_app rfl (.tmp 72) (.tmp 74) _ _ rfl 0 9 j0 _ 1 16 Tryz.underlying23 HJ0.out jz0' jz1' jz2' rfl (.slice K ok.length kc) ok.length (strs ok) rfl KO.out _ 1 _ rfl (src_s (Blk.new wr _ _)) (by omega) (by unfold maxLen; omega) (Nat.zero_le _) ?_
          intro v7 W7 o7 f7 hn7
          obtain ⟨K7, kc7, rfl, -, -⟩ := own_slice o7
          have O7 := Lib.hid o7
          have F7 := Lib.hid f7
          have N7 := Lib.hid hn7
          have B7 : Hid (Blk W7 g 25 (vcs 6 0 [] A ol.length c K ok.length kc)) := Lib.hid (Blk.fr (keepB RO.out.box FA.out) f7 (fun he => by have := RO.out.kf g he; omega))
          have k4' : W7.cell? ⟨g, 4, none⟩ = some (.slice K ok.length kc) := B7.out.cell 4
          have z4' : W7.frozen? ⟨g, 4, none⟩ = false := B7.out.frozen 4
          clear o7 f7 hn7)
        refine abs_world (fun W => Hid (ROut Dv w g W ol (ok ++ [key]) A c K7 kc7 css) ∧ Hid (Blk W bx 25 (vcs 6 n t Al l.length cl Ak ks.length ck)) ∧ Hid (Blk W (bx + 1) 25 (vcs k3 n3 t3 A3 l3.length p3 K3 ks3.length d3)) ∧ Hid (Blk W (bx + 2) 25 (vcs 0 0 [] none 0 0 none 0 0))) ⟨ROut.addK RO.out HD.out hgw FA.out HKL.out O7.out F7.out N7.out (B7.out.set_ 4 _) ((Fr.refl (fun q => q = g) W7).setCell (p := ⟨g, 4, none⟩) (fun _ => rfl) _), blk_low B1.out (by omega) FA.out F7.out RO.out.kf ((Fr.refl (fun q => q = g) W7).setCell (p := ⟨g, 4, none⟩) (fun _ => rfl) _), blk_low B3.out (by omega) FA.out F7.out RO.out.kf ((Fr.refl (fun q => q = g) W7).setCell (p := ⟨g, 4, none⟩) (fun _ => rfl) _), blk_low RR.out (by omega) FA.out F7.out RO.out.kf ((Fr.refl (fun q => q = g) W7).setCell (p := ⟨g, 4, none⟩) (fun _ => rfl) _)⟩ ?_
        clear k4 k4b FA KO k4' z4' O7 F7 N7 B7 RO B1 B3 RR
        clear W7
        rintro wd7 ⟨RO, B1, B3, RR⟩
        obtain ⟨ok, hok1⟩ : ∃ q, q = ok ++ [key] := ⟨_, rfl⟩
        have HOK1 := Lib.hid hok1
        have hokl : ok.length ≤ 601 := by rw [hok1]; simp; omega
        rw [← hok1] at RO
        clear hok1
        obtain ⟨K, rfl⟩ : ∃ q, q = K7 := ⟨_, rfl⟩
        obtain ⟨kc, rfl⟩ : ∃ q, q = kc7 := ⟨_, rfl⟩
        have k4 : ∀ o, (wd7.alloc o).cell? ⟨g, 3, none⟩ = some (.slice A ol.length c) := fun o => (RO.out.box.alloc o).cell 3
        have k4b : wd7.cell? ⟨g, 3, none⟩ = some (.slice A ol.length c) := RO.out.box.cell 3
        have FA := Lib.hid ((Fr.refl (fun _ => False) wd7).alloc (.cells (vcs k3 n3 t3 A3 l3.length p3 K3 ks3.length d3) 25))
        have KO : Hid ((wd7.alloc (.cells (vcs k3 n3 t3 A3 l3.length p3 K3 ks3.length d3) 25)).ownsRow 0 25 5 (.slice A ol.length c) ol.length (flat css)) := Lib.hid (own_fr RO.out.lr FA.out (fun _ _ h => h))
        have BX3 := Lib.hid (blk_all B3.out)
        go_upto_region 16 with (first
          | (refine wpList_load_val rfl 25 _ rfl (bx + 1) _ rfl _ BX3.out _ Tryz.underlying25 rfl HS3.out ?_)
          | (at_builtin
             refine wpList_app rfl (.tmp 78) (.tmp 80) _ _ rfl 0 25 i0 _ 5 80 Tryz.underlying22 HI0.out hz0' hz1' hz2' rfl (.slice A ol.length c) ol.length (flat css) rfl KO.out _ 1 _ rfl (SRC.out _ _ (Blk.new wd7 _ _)) (by omega) (by unfold maxLen; omega) (Nat.zero_le _) ?_
             intro v7 W7 o7 f7 hn7
             obtain ⟨A7, c7, rfl, -, -⟩ := own_slice o7
             have O7 := Lib.hid o7
             have F7 := Lib.hid f7
             have N7 := Lib.hid hn7
             have B7 : Hid (Blk W7 g 25 (vcs 6 0 [] A ol.length c K ok.length kc)) := Lib.hid (Blk.fr (keepB RO.out.box FA.out) f7 (fun he => by have := RO.out.lf g he; omega))
             have k4' : W7.cell? ⟨g, 3, none⟩ = some (.slice A ol.length c) := B7.out.cell 3
             have z4' : W7.frozen? ⟨g, 3, none⟩ = false := B7.out.frozen 3
             clear o7 f7 hn7))
        refine abs_world (fun W => Hid (ROut Dv w g W (ol ++ [x]) ok A7 c7 K kc (css ++ [vcs k3 n3 t3 A3 l3.length p3 K3 ks3.length d3])) ∧ Hid (Blk W bx 25 (vcs 6 n t Al l.length cl Ak ks.length ck)) ∧ Hid (Blk W (bx + 1) 25 (vcs k3 n3 t3 A3 l3.length p3 K3 ks3.length d3)) ∧ Hid (Blk W (bx + 2) 25 (vcs 0 0 [] none 0 0 none 0 0))) ⟨ROut.addL RO.out HD.out hgw FA.out R3.out O7.out F7.out N7.out (B7.out.set_ 3 _) ((Fr.refl (fun q => q = g) W7).setCell (p := ⟨g, 3, none⟩) (fun _ => rfl) _), blk_low B1.out (by omega) FA.out F7.out RO.out.lf ((Fr.refl (fun q => q = g) W7).setCell (p := ⟨g, 3, none⟩) (fun _ => rfl) _), blk_low B3.out (by omega) FA.out F7.out RO.out.lf ((Fr.refl (fun q => q = g) W7).setCell (p := ⟨g, 3, none⟩) (fun _ => rfl) _), blk_low RR.out (by omega) FA.out F7.out RO.out.lf ((Fr.refl (fun q => q = g) W7).setCell (p := ⟨g, 3, none⟩) (fun _ => rfl) _)⟩ ?_
        clear k4 k4b FA KO k4' z4' O7 F7 N7 B7 RO B1 B3 RR BX3
        clear W7
        rintro wd ⟨RO, B1, B3, RR⟩
        obtain ⟨ol, hol1⟩ : ∃ q, q = ol ++ [x] := ⟨_, rfl⟩
        have HOL1 := Lib.hid hol1
        have holl : ol.length ≤ 601 := by rw [hol1]; simp; omega
        rw [← hol1] at RO
        clear hol1
        obtain ⟨A, rfl⟩ : ∃ q, q = A7 := ⟨_, rfl⟩
        obtain ⟨c, rfl⟩ : ∃ q, q = c7 := ⟨_, rfl⟩
        obtain ⟨css, hcss⟩ : ∃ q, q = css ++ [vcs k3 n3 t3 A3 l3.length p3 K3 ks3.length d3] := ⟨_, rfl⟩
        rw [← hcss] at RO
        clear hcss
        have HFK : Hid (ok = ks.take P ++ key :: ks.drop (P + hh)) := Lib.hid (HOK1.out.trans HFK0.out)
        have HFL : Hid (ol = l.take P ++ x :: l.drop (P + hh)) := Lib.hid (HOL1.out.trans HFL0.out)
        have RD := Lib.hid (RO.out.rd (by omega) (by omega))
        have BA := Lib.hid (blk_all RO.out.box)
        have BR := Lib.hid RR.out
        have Z2 := Lib.hid (szV RD.out)
        have O2 := Lib.hid (oneV RD.out)
        have hgb : bx + 2 < g := by omega
        go_wp2_with (first
          | (refine wpList_load_val rfl 25 _ rfl g _ rfl _ BA.out _ Tryz.underlying25 rfl Z2.out ?_)
          | (refine wpList_store_blk rfl 25 _ _ rfl (bx + 2) _ rfl rfl BR.out rfl Z2.out O2.out ?_
             intro W9 q9 f9
             have F9 := Lib.hid f9
             have Q9 := Lib.hid q9
             clear q9 f9))
        refine bodyPost_ret (v := .agg (vcs 6 0 [] A ol.length c K ok.length kc)) (hres _ W9 (bx + 2) 25 _ _ rfl Q9.out Tryz.underlying25 rfl Z2.out) rfl ?_
        have hbx := HBX.out
        refine ⟨_, rfl, ?_, RO.out.fr.trans F9.out (fun q hq e => by omega)⟩
        rw [HPV.out, ← HFL.out, ← HFK.out]
        exact (RD.out.fr F9.out (fun q hq e => by rcases hq with hq | hq
                                                  · have := HD.out q hq; omega
                                                  · omega)).mono (fun q hq => hq.elim (fun h => .inl (HDD.out q h)) (fun h => .inr (by omega)))
end Go.Proofs.YtnkfkicabgajmaaGreatDoor
