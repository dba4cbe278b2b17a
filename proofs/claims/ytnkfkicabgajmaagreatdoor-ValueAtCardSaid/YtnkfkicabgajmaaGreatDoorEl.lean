/-
  WHERE THE ELEMENTS STAND, in the parser's loop. No statement is proved here.
-/
import Derived.Test.YtnkfkicabgajmaaGreatDoorPn
namespace Go.Proofs.YtnkfkicabgajmaaGreatDoor
set_option linter.unusedSimpArgs false
set_option linter.unusedVariables false
open Go Go.RowKit

section
variable {P : Program}
/-- append as an operation of a region that draws. -/
theorem oper_app_p {w : World} {ops : Array Oper} {o : Oper} {a : Act} {K : Act → World → Prop} {Q : Exit → Act → World → Prop} {X : Prop} (hgd : o.guard = none) (s x : Operand) (t tx : TypeId)
    (ho : o.op = .call { callee := .builtin .append, args := #[s, x], argTypes := #[t, tx] })
    (base : Nat) (e : TypeId) (i : TypeInfo) (z : Value) (size bytes : Nat) (ht : P.underlying t = some (.slice e)) (hi : P.info? e = some i) (hz : i.zero = some z)
    (hsize : i.size = size) (hby : i.bytes = bytes) (hzs : z.cells.size = size)
    (v : Value) (n : Nat) (xs : List Value) (hv : a.eval s = v) (hown : w.ownsRow base e size v n xs)
    (xv : Value) (m : Nat) (news : List Value) (hx : a.eval x = xv) (hs : Src P size tx xv m news w)
    (hbytes : (n + m) * bytes ≤ 140737488355328) (h63 : n + m ≤ maxLen) (hbase : base ≤ w.heap.size)
    (h : ∀ v' w', w'.ownsRow base e size v' (n + m) (xs ++ news) → Fr (fun k => v.ownBlock = some k) w w' → (v'.ownBlock = v.ownBlock ∨ v'.ownBlock = some w.heap.size) → K (a.put o.dst v') w') :
    if Region.wanted o (yielded ops a.tmps) = true then Oper.wp P o a w K Q else X := by
  simp only [Region.wanted, hgd, if_true]
  obtain ⟨v', w', hr, h2, h3, h4⟩ := run_app (P := P) w base t tx o.type e i z size bytes ht hi hz hsize hby hzs v n xs hown xv m news hs hbytes h63 hbase
  unfold Oper.wp execOp
  simp only [ho, resolve, invoke, builtin, Sem.run_bind, Sem.run_pure, Result.andThen_ok, List.map_toArray, List.map_cons, List.map_nil, hv, hx, hr]
  exact h _ _ h2 h3 h4
end

theorem src_s {W : World} {q : Nat} {a : List UInt8} (hb : Blk W q 9 #[.string (strOf a)]) : Src Tryz.prog 1 23 (.slice (some ⟨q, 0, none⟩) 1 1) 1 [.string (strOf a)] W :=
  Src.ofSlice W Tryz.underlying23 ⟨q, 0, none⟩ 1 1 _ rfl (fun j u hu => by
    cases j with
    | zero =>
      have e : Value.string (strOf a) = u := by simpa using hu
      subst e
      exact hb.cell 0
    | succ j => simp at hu) (fun u hu => by rw [List.mem_singleton.1 hu]; rfl)
/-- How much the parser has ahead. -/
def msr (p : Nat) (W : World) : Nat := match W.cell? ⟨p, 0, none⟩ with
  | some (.string b) => b.size
  | _ => 0
theorem msr_of {p : Nat} {W : World} {s : List UInt8} {b : Bool} (h : Blk W p 66 (pcs s b)) : msr p W = s.length := by
  have : W.cell? ⟨p, 0, none⟩ = some (.string (strOf s)) := h.cell 0
  unfold msr
  rw [this]
  exact strOf_size s
abbrev PIH (p n : Nat) : Prop := ∀ (s : List UInt8), s.length ≤ n → ∀ (W : World) (f : Nat), Blk W p 66 (pcs s false) → LaidOk W → 3 * s.length + 1 ≤ f → Calls Tryz.prog 49 #[.pointer (some ⟨p, 0, none⟩)] W (PvQ (pval f s) p s W)
/-- Where the elements stand. -/
structure Elx (w : World) (p vb rb : Nat) (k : Int) (al : List V) (ak : List (List UInt8)) (A : Option Addr) (c : Nat) (K : Option Addr) (kc : Nat) (css : List (Array Value)) (Fs : Nat → Nat → Prop) (r : List UInt8) (b : Bool) (W : World) : Prop where
  row : OwnL W (fun q => vb + 1 ≤ q ∧ q < W.heap.size) al A c css Fs
  keys : W.ownsRow (vb + 1) 9 1 (.slice K ak.length kc) ak.length (strs ak)
  kf : ∀ i q, i < al.length → Fs i q → (Value.slice K ak.length kc).ownBlock ≠ some q
  box : Blk W vb 25 (vcs k 0 [] A al.length c K ak.length kc)
  res : Blk W rb 25 (vcs 0 0 [] none 0 0 none 0 0)
  par : Blk W p 66 (pcs r b)
  fr : Fr (fun q => q = p) w W
  laid : LaidOk W
  sma : ∀ x ∈ al, Sm x
  smk : ∀ s ∈ ak, s.length ≤ 1000
structure Elp (w : World) (p vb rb : Nat) : Prop where
  hr : w.heap.size = rb
  hv : rb + 1 = vb
  hp : p < rb
  h8 : 8 ≤ p
theorem OwnL.frd {w w' : World} {F fp : Nat → Prop} {l : List V} {A : Option Addr} {c : Nat} {css : List (Array Value)} {Fs : Nat → Nat → Prop} (h : OwnL w F l A c css Fs) (hf : Fr fp w w') (hA : ∀ g, (Value.slice A l.length c).ownBlock = some g → ¬ fp g) (hF : ∀ i b, i < l.length → Fs i b → ¬ fp b) : OwnL w' F l A c css Fs :=
  ⟨own_fr h.row hf hA, h.rf, h.cn, h.c5, h.fs, h.ap, fun i C x h1 h2 => (h.el i C x h1 h2).fr hf (fun b hb => hF i b (List.getElem?_eq_some_iff.1 h2).1 hb)⟩
section
variable {w W W2 W3 W4 : World} {p vb rb : Nat} {k : Int} {al : List V} {ak : List (List UInt8)} {A : Option Addr} {c : Nat} {K : Option Addr} {kc : Nat} {css : List (Array Value)} {Fs : Nat → Nat → Prop} {r r' : List UInt8} {b b' : Bool}
/-- Over what touches the parser alone. -/
theorem Elx.fr_ (h : Elx w p vb rb k al ak A c K kc css Fs r b W) (e : Elp w p vb rb) (hf : Fr (fun q => q = p) W W2) (hp : Blk W2 p 66 (pcs r' b')) : Elx w p vb rb k al ak A c K kc css Fs r' b' W2 := by
  have e1 := e.hr
  have e2 := e.hv
  have e3 := e.hp
  have e4 := e.h8
  have hs := hf.size
  refine ⟨(h.row.frd hf (fun g hg he => ?_) (fun i q hi hq he => ?_)).mono (fun q hq => ⟨hq.1, by omega⟩), own_fr h.keys hf (fun g hg he => ?_), h.kf, h.box.fr hf (by omega), h.res.fr hf (by omega), hp, h.fr.trans hf (fun _ _ h => h), h.laid.fr hf (fun q hq he => by omega), h.sma, h.smk⟩
  · have := (h.row.rf g hg).1; omega
  · have := (h.row.fs i q hi hq).1.1; omega
  · have := (h.keys.lt g hg).1; omega
theorem Elx.far (h : Elx w p vb rb k al ak A c K kc css Fs r b W) (e : Elp w p vb rb) (hf : Fr (fun _ => False) W W2) : Elx w p vb rb k al ak A c K kc css Fs r b W2 :=
  h.fr_ e (hf.mono (fun _ _ h => h.elim)) (h.par.fr hf (fun h => h))
theorem lit_ne {w : World} {base : Nat} {e : TypeId} {n m : Nat} {sz sz' : Nat} {e' : TypeId} {base' : Nat} {v v' : Value} {xs xs' : List Value} (h : w.ownsRow base e sz v n xs) (h' : w.ownsRow base' e' sz' v' m xs') (hne : e ≠ e') {g : Nat} (h1 : v.ownBlock = some g) (h2 : v'.ownBlock = some g) : False := by
  rcases h'.2 with ⟨rfl, _⟩ | ⟨g', cap, cur, rfl, _, hh, _⟩
  · simp [Value.ownBlock] at h2
  · have : g' = g := by simpa [Value.ownBlock] using h2
    subst this
    exact own_blk_ne h (t := e') (cs := cur) hh hne h1
/-- A key more. -/
theorem Elx.key {a : List UInt8} {K' : Option Addr} {kc' : Nat} (h : Elx w p vb rb k al ak A c K kc css Fs r b W2) (e : Elp w p vb rb) (ha : a.length ≤ 1000) (hf : Fr (fun _ => False) W2 W3)
    (o4 : W4.ownsRow (vb + 1) 9 1 (.slice K' (ak.length + 1) kc') (ak.length + 1) (strs ak ++ [.string (strOf a)])) (f4 : Fr (fun q => (Value.slice K ak.length kc).ownBlock = some q) W3 W4)
    (hn : (Value.slice K' (ak.length + 1) kc').ownBlock = (Value.slice K ak.length kc).ownBlock ∨ (Value.slice K' (ak.length + 1) kc').ownBlock = some W3.heap.size) :
    Elx w p vb rb k al (ak ++ [a]) A c K' kc' css Fs r b (W4.setCell ⟨vb, 4, none⟩ (.slice K' (ak.length + 1) kc')) := by
  have e1 := e.hr
  have e2 := e.hv
  have e3 := e.hp
  have e4 := e.h8
  have h3 := h.far e hf
  have s4 := f4.size
  have hl : (ak ++ [a]).length = ak.length + 1 := by simp
  have hlo : ∀ g, (Value.slice K ak.length kc).ownBlock = some g → vb + 1 ≤ g := fun g hg => (h.keys.lt g hg).1
  have hx : strs (ak ++ [a]) = strs ak ++ [.string (strOf a)] := by simp [strs]
  have R4 : OwnL W4 (fun q => vb + 1 ≤ q ∧ q < W4.heap.size) al A c css Fs := (h3.row.frd f4 (fun g hg he => lit_ne h3.row.row h3.keys (show _ ≠ _ by decide) hg he) (fun i q hi hq he => h3.kf i q hi hq he)).mono (fun q hq => ⟨hq.1, by omega⟩)
  have B4 : Blk W4 vb 25 (vcs k 0 [] A al.length c K ak.length kc) := h3.box.fr f4 (fun he => by have := hlo _ he; omega)
  have C4 : Blk W4 rb 25 (vcs 0 0 [] none 0 0 none 0 0) := h3.res.fr f4 (fun he => by have := hlo _ he; omega)
  have P4 : Blk W4 p 66 (pcs r b) := h3.par.fr f4 (fun he => by have := hlo _ he; omega)
  have hset : Fr (fun q => q = vb) W4 (W4.setCell ⟨vb, 4, none⟩ (.slice K' (ak.length + 1) kc')) := (Fr.refl (fun q => q = vb) W4).setCell (p := ⟨vb, 4, none⟩) (fun _ => rfl) _
  have hsz : (W4.setCell ⟨vb, 4, none⟩ (.slice K' (ak.length + 1) kc')).heap.size = W4.heap.size := by simp [World.setCell]
  refine ⟨?_, ?_, ?_, ?_, ?_, ?_, ?_, ?_, h.sma, ?_⟩
  · rw [hsz]
    exact R4.frd hset (fun g hg he => by have := (R4.rf g hg).1; omega) (fun i q hi hq he => by have := (R4.fs i q hi hq).1.1; omega)
  · rw [hl, hx]
    exact own_fr o4 hset (fun g hg he => by have := (o4.lt g hg).1; omega)
  · rw [hl]
    intro i q hi hq he
    rcases hn with hn | hn
    · exact h.kf i q hi hq (hn ▸ he)
    · rw [hn] at he
      injection he with he
      have := (h3.row.fs i q hi hq).1.2
      omega
  · rw [hl]
    exact B4.set_ 4 _
  · exact C4.far (by show rb ≠ vb; omega) _
  · exact P4.far (by show p ≠ vb; omega) _
  · exact (h3.fr.trans f4 (fun q hq he => by have := hlo _ he; omega)).trans hset (fun q hq he => by omega)
  · exact (h3.laid.fr f4 (fun q hq he => by have := hlo _ he; omega)).fr hset (fun q hq he => by omega)
  · intro s hs
    rcases List.mem_append.1 hs with hs | hs
    · exact h.smk s hs
    · rw [List.mem_singleton.1 hs]; exact ha
/-- An element more. -/
theorem Elx.elem {x : V} {C' : Array Value} {A' : Option Addr} {c' : Nat} (h : Elx w p vb rb k al ak A c K kc css Fs r b W) (e : Elp w p vb rb) (hsx : Sm x) (f2 : Fr (fun q => q = p) W W2) (hp2 : Blk W2 p 66 (pcs r' b'))
    (ho : OwnV W2 (fun q => W.heap.size ≤ q ∧ q < W2.heap.size) C' x) (hf : Fr (fun _ => False) W2 W3)
    (o4 : W4.ownsRow 0 25 5 (.slice A' (al.length + 1) c') (al.length + 1) (flat css ++ C'.toList)) (f4 : Fr (fun q => (Value.slice A al.length c).ownBlock = some q) W3 W4)
    (hn : (Value.slice A' (al.length + 1) c').ownBlock = (Value.slice A al.length c).ownBlock ∨ (Value.slice A' (al.length + 1) c').ownBlock = some W3.heap.size) :
    ∃ Fs', Elx w p vb rb k (al ++ [x]) ak A' c' K kc (css ++ [C']) Fs' r' b' (W4.setCell ⟨vb, 3, none⟩ (.slice A' (al.length + 1) c')) := by
  have e1 := e.hr
  have e2 := e.hv
  have e3 := e.hp
  have e4 := e.h8
  have h2 := h.fr_ e f2 hp2
  have h3 := h2.far e hf
  have s2 := f2.size
  have s3 := hf.size
  have s4 := f4.size
  have sb := h.box.lt
  have hl : (al ++ [x]).length = al.length + 1 := by simp
  have hlo : ∀ g, (Value.slice A al.length c).ownBlock = some g → vb + 1 ≤ g := fun g hg => (h.row.rf g hg).1
  have hwA : ∀ g, (Value.slice A al.length c).ownBlock = some g → g < W.heap.size := fun g hg => (h.row.rf g hg).2
  have hwK : ∀ g, (Value.slice K ak.length kc).ownBlock = some g → g < W.heap.size := fun g hg => (h.keys.lt g hg).2
  have hset : Fr (fun q => q = vb) W4 (W4.setCell ⟨vb, 3, none⟩ (.slice A' (al.length + 1) c')) := (Fr.refl (fun q => q = vb) W4).setCell (p := ⟨vb, 3, none⟩) (fun _ => rfl) _
  have hsz : (W4.setCell ⟨vb, 3, none⟩ (.slice A' (al.length + 1) c')).heap.size = W4.heap.size := by simp [World.setCell]
  have B4 : Blk W4 vb 25 (vcs k 0 [] A al.length c K ak.length kc) := h3.box.fr f4 (fun he => by have := hlo _ he; omega)
  have C4 : Blk W4 rb 25 (vcs 0 0 [] none 0 0 none 0 0) := h3.res.fr f4 (fun he => by have := hlo _ he; omega)
  have P4 : Blk W4 p 66 (pcs r' b') := h3.par.fr f4 (fun he => by have := hlo _ he; omega)
  have K4 : W4.ownsRow (vb + 1) 9 1 (.slice K ak.length kc) ak.length (strs ak) := own_fr h3.keys f4 (fun g hg he => lit_ne h3.keys h3.row.row (show _ ≠ _ by decide) hg he)
  have hfs : ∀ i q, i < al.length → Fs i q → vb + 1 ≤ q ∧ q < W.heap.size := fun i q hi hq => (h.row.fs i q hi hq).1
  have o5 := own_fr o4 hset (fun g hg he => by
    have he : g = vb := he
    rcases hn with hn | hn
    · have := hlo g (hn ▸ hg); omega
    · rw [hn] at hg
      injection hg with hg
      omega)
  have FF : Fr (fun q => (Value.slice A al.length c).ownBlock = some q ∨ q = vb) W3 (W4.setCell ⟨vb, 3, none⟩ (.slice A' (al.length + 1) c')) := (f4.mono (fun _ _ h => Or.inl h)).trans (hset.mono (fun _ _ h => Or.inr h)) (fun _ _ h => h)
  refine ⟨fun i => if i < al.length then Fs i else fun q => W.heap.size ≤ q ∧ q < W2.heap.size, ⟨?_, ?_, ?_, ?_, ?_, ?_, ?_⟩, ?_, ?_, ?_, ?_, ?_, ?_, ?_, ?_, h.smk⟩
  · rw [hl, flat_append, flat_one]
    exact o5
  · rw [hl, hsz]
    intro g hg
    refine ⟨?_, own_lt o4 hg⟩
    rcases hn with hn | hn
    · exact hlo g (hn ▸ hg)
    · rw [hn] at hg
      injection hg with hg
      omega
  · simp [h.row.cn]
  · intro C hC
    rcases List.mem_append.1 hC with hC | hC
    · exact h.row.c5 C hC
    · rw [List.mem_singleton.1 hC]; exact ho.rd.size
  · rw [hl, hsz]
    intro i q hi hq
    by_cases him : i < al.length
    · rw [if_pos him] at hq
      have h1 := hfs i q him hq
      refine ⟨⟨h1.1, by omega⟩, fun he => ?_⟩
      rcases hn with hn | hn
      · exact (h.row.fs i q him hq).2 (hn ▸ he)
      · rw [hn] at he
        injection he with he
        omega
    · rw [if_neg him] at hq
      refine ⟨⟨by omega, by omega⟩, fun he => ?_⟩
      rcases hn with hn | hn
      · have := hwA q (hn ▸ he)
        omega
      · rw [hn] at he
        injection he with he
        omega
  · rw [hl]
    intro i j q hi hj h1 h2
    by_cases him : i < al.length
    · rw [if_pos him] at h1
      by_cases hjm : j < al.length
      · rw [if_pos hjm] at h2
        exact h.row.ap i j q him hjm h1 h2
      · rw [if_neg hjm] at h2
        have := (hfs i q him h1).2
        omega
    · rw [if_neg him] at h1
      by_cases hjm : j < al.length
      · rw [if_pos hjm] at h2
        have := (hfs j q hjm h2).2
        omega
      · omega
  · intro i C y h1 h2
    by_cases him : i < al.length
    · rw [List.getElem?_append_left (by rw [h.row.cn]; exact him)] at h1
      rw [List.getElem?_append_left him] at h2
      simp only [him, if_true]
      refine (h3.row.el i C y h1 h2).fr FF (fun q hq he => ?_)
      rcases he with he | he
      · exact (h.row.fs i q him hq).2 he
      · have := (hfs i q him hq).1; omega
    · have hi : i = al.length := by
        have := (List.getElem?_eq_some_iff.1 h2).1
        rw [hl] at this
        omega
      subst hi
      have hcn := h.row.cn
      rw [List.getElem?_append_right (by omega)] at h1 h2
      rw [show al.length - css.length = 0 by omega] at h1
      simp at h1 h2
      subst h1 h2
      simp only [Nat.lt_irrefl, if_false]
      refine (ho.far hf).fr FF (fun q hq he => ?_)
      rcases he with he | he
      · have := hwA q he; omega
      · omega
  · exact own_fr K4 hset (fun g hg he => by have := (K4.lt g hg).1; omega)
  · rw [hl]
    intro i q hi hq he
    by_cases him : i < al.length
    · rw [if_pos him] at hq
      exact h.kf i q him hq he
    · rw [if_neg him] at hq
      have := hwK q he
      omega
  · rw [hl]
    exact B4.set_ 3 _
  · exact C4.far (by show rb ≠ vb; omega) _
  · exact P4.far (by show p ≠ vb; omega) _
  · exact (h3.fr.trans f4 (fun q hq he => by have := hlo _ he; omega)).trans hset (fun q hq he => by omega)
  · exact (h3.laid.fr f4 (fun q hq he => by have := hlo _ he; omega)).fr hset (fun q hq he => by omega)
  · intro s hs
    rcases List.mem_append.1 hs with hs | hs
    · exact h.sma s hs
    · rw [List.mem_singleton.1 hs]; exact hsx
/-- The way out. -/
theorem Elx.out_ {W5 : World} (h : Elx w p vb rb k al ak A c K kc css Fs r b W) (e : Elp w p vb rb) (f5 : Fr (fun q => q = rb) W W5) : Blk W5 p 66 (pcs r b) ∧ Fr (fun q => q = p) w W5 := by
  have e1 := e.hr
  have e3 := e.hp
  exact ⟨h.par.fr f5 (by omega), h.fr.trans f5 (fun q hq he => by omega)⟩
/-- What is returned. -/
theorem Elx.fin {W5 : World} (h : Elx w p vb rb k al ak A c K kc css Fs r b W) (e : Elp w p vb rb) (hb : VB k 0 [] al.length ak) (f5 : Fr (fun q => q = rb) W W5) :
    OwnV W5 (fun q => w.heap.size ≤ q ∧ q < W5.heap.size) (vcs k 0 [] A al.length c K ak.length kc) (.mk k 0 [] al ak) ∧ Blk W5 p 66 (pcs r b) ∧ Fr (fun q => q = p) w W5 := by
  have e1 := e.hr
  have e2 := e.hv
  have e3 := e.hp
  have s5 := f5.size
  have R5 := (h.row.frd f5 (fun g hg he => by have := (h.row.rf g hg).1; omega) (fun i q hi hq he => by have := (h.row.fs i q hi hq).1.1; omega)).mono (E := fun q => w.heap.size ≤ q ∧ q < W5.heap.size) (fun q hq => ⟨by omega, by omega⟩)
  refine ⟨OwnV.of hb ⟨own_base (own_fr h.keys f5 (fun g hg he => ?_)) (fun _ _ => Nat.zero_le _), fun g hg => ?_⟩ R5 h.kf, h.par.fr f5 (by omega), h.fr.trans f5 (fun q hq he => by omega)⟩
  · have := (h.keys.lt g hg).1; omega
  · have := h.keys.lt g hg; omega
end
end Go.Proofs.YtnkfkicabgajmaaGreatDoor
