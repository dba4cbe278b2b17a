/-
  CONTRACT of readers: the table of the readers.
-/
import Derived.Test.YtimopkmlcjdgfaaDoorLby
import Derived.Laws.EntriesVeiled
namespace Go.Proofs.YtimopkmlcjdgfaaDoor
set_option linter.unusedSimpArgs false
set_option linter.unusedVariables false
open Go Go.RowKit

/-- Which reader takes what begins with this byte. -/
def rdF (x : Nat) : Nat := if ltrN x then 36 else if dgtN x || decide (x = 45) then 38 else if x = 34 then 39 else 40
def rdV (x : Nat) : Value := .func (.func (rdF x)) #[] #[]
set_option maxRecDepth 100000 in
set_option maxHeartbeats 8000000 in
theorem readers_c (w : World) : Calls Tryd.prog 19 #[] w fun e w' => ∃ T : Array Value, e = .returned (.agg T) ∧ T.size = 256 ∧ (∀ x, x < 256 → T[x]? = some (rdV x)) ∧ Fr (fun _ => False) w w' := by
  obtain ⟨g, hg⟩ : ∃ g, w.heap.size = g := ⟨_, rfl⟩
  have HG := Lib.hid hg
  clear hg
  go_enter Tryd.func19, Tryd.ntmps19
  go_upto_region 1 with fail
  have hz : (Tryd.zeroCells42).size = 256 := by kernel_rfl
  refine abs_world (fun W => Hid (∃ cur, Blk W w.heap.size 42 cur ∧ cur.size = 256) ∧ Hid (Fr (fun _ => False) w W)) ⟨⟨_, Blk.new w _ _, hz⟩, (Fr.refl _ w).alloc _⟩ ?_
  rintro W0 ⟨Z0, F0⟩
  obtain ⟨cur0, b0, h0⟩ := Z0.out
  rw [HG.out] at b0 ⊢
  have B0 := Lib.hid b0
  clear Z0 b0 hz
  go_wp2_with fail
  go_loopw [2] (fun iv W => ∃ (x : Nat) (cur : Array Value), x ≤ 256 ∧ iv = .int .i64 (x : Int) ∧ Hid (Blk W g 42 cur) ∧ cur.size = 256 ∧ Hid (∀ j, j < x → cur[j]? = some (rdV j)) ∧ Hid (Fr (fun _ => False) w W)) (fun iv _ => 256 - (intOf iv).toNat)
  case atStart => exact ⟨0, cur0, by omega, rfl, B0.out, h0, Lib.hid (fun j hj => absurd hj (by omega)), F0.out⟩
  case round =>
    clear B0 F0
    clear W0
    obtain ⟨x, cur, hx, rfl, B, hsz, hall, F⟩ := hrel
    by_cases hlt : x < 256
    case neg =>
      obtain rfl : x = 256 := by omega
      have d1 : decide (((256 : Nat) : Int) < 256) = false := decide_eq_false (by omega)
      have BA := Lib.hid (blk_all B.out)
      have Z1 := Lib.hid (show (Tryd.prog.info? 42).map (·.size) = some cur.size by rw [hsz]; kernel_rfl)
      have ONE : Hid (cur.all (·.oneCell') = true) := Lib.hid (by
        rw [Array.all_eq_true]
        intro i hi
        have h1 := hall.out i (by omega)
        rw [Array.getElem?_eq_getElem hi] at h1
        injection h1 with h1
        rw [h1]
        rfl)
      go_wp2_with (first
        | (refine wpList_load_val rfl 42 _ rfl g _ rfl _ BA.out _ Tryd.underlying42 rfl Z1.out ?_)
        | (refine wpList_store_blk rfl 42 _ _ rfl g _ rfl rfl B.out rfl Z1.out ONE.out ?_
           intro W9 q9 f9
           have F9 := Lib.hid f9
           have Q9 := Lib.hid q9
           clear q9 f9))
      have hres := results_one (P := Tryd.prog) (fn := Tryd.f19) (p := 0) (ty := 42) Tryd.results19
      refine bodyPost_ret (v := .agg cur) (hres _ W9 g 42 _ _ rfl Q9.out Tryd.underlying42 rfl Z1.out) rfl ?_
      have hg := HG.out
      exact ⟨cur, rfl, hsz, hall.out, F.out.trans F9.out (fun q hq e => by omega)⟩
    have d1 : decide ((x : Int) < 256) = true := decide_eq_true (by omega)
    have d1' : decide (x < 256) = true := decide_eq_true hlt
    have q1 : (0 : Int) ≤ (x : Int) := by omega
    have q2 : (x : Int) < 256 := by omega
    have hw8 : IntKind.u8.wrap (x : Int) = (x : Int) := by
      show (x : Int) % 256 = x
      omega
    obtain ⟨v0, c0⟩ : ∃ v0, wr.cell? ⟨g, x, none⟩ = some v0 := ⟨_, (B.out.cell x).trans (Array.getElem?_eq_getElem (by omega))⟩
    have z0 : wr.frozen? ⟨g, x, none⟩ = false := B.out.frozen x
    have upd : ∀ v, v = rdV x → Hid (∀ j, j < x + 1 → (cur.setIfInBounds x v)[j]? = some (rdV j)) := fun v hv => Lib.hid (fun j hj => by
      rw [Array.getElem?_setIfInBounds]
      by_cases e : x = j
      · subst e; rw [if_pos rfl, if_pos (by omega), hv]
      · rw [if_neg e]; exact hall.out j (by omega))
    have BG := Lib.hid (fun W => begins_c W x hlt)
    have DG := Lib.hid (fun W => digit_c W x hlt)
    cases h1 : ltrN x with
    | true =>
      have HV : Hid (Value.func (.func 36) #[] #[] = rdV x) := Lib.hid (by unfold rdV rdF; rw [h1]; rfl)
      rw [h1] at BG
      clear h1
      go_wp2_with fail
      refine (BG.out _).mono ?_
      rintro e w' ⟨rfl, rfl⟩
      go_wp2_with fail
      go_roundw
      case rel => exact ⟨x + 1, _, by omega, by go_num, B.out.set_ x _, by rw [Array.size_setIfInBounds]; exact hsz, upd _ HV.out, F.out.setCell (p := ⟨g, x, none⟩) (fun h => by have h2 : g < w.heap.size := h; have := HG.out; omega) _⟩
      case measure => first | (simp [intOf]; done) | (simp [intOf]; omega)
    | false =>
      rw [h1] at BG
      cases h2 : dgtN x with
      | true =>
        have HV : Hid (Value.func (.func 38) #[] #[] = rdV x) := Lib.hid (by unfold rdV rdF; rw [h1, h2]; rfl)
        rw [h2] at DG
        clear h1 h2
        go_wp2_with fail
        refine (BG.out _).mono ?_
        rintro e w' ⟨rfl, rfl⟩
        go_wp2_with fail
        refine (DG.out _).mono ?_
        rintro e w' ⟨rfl, rfl⟩
        go_wp2_with fail
        go_roundw
        case rel => exact ⟨x + 1, _, by omega, by go_num, B.out.set_ x _, by rw [Array.size_setIfInBounds]; exact hsz, upd _ HV.out, F.out.setCell (p := ⟨g, x, none⟩) (fun h => by have h2 : g < w.heap.size := h; have := HG.out; omega) _⟩
        case measure => first | (simp [intOf]; done) | (simp [intOf]; omega)
      | false =>
        rw [h2] at DG
        by_cases h3 : x = 45
        · have HV : Hid (Value.func (.func 38) #[] #[] = rdV x) := Lib.hid (by unfold rdV rdF; rw [h1, h2, decide_eq_true h3]; rfl)
          subst h3
          clear h1 h2
          go_wp2_with fail
          refine (BG.out _).mono ?_
          rintro e w' ⟨rfl, rfl⟩
          go_wp2_with fail
          refine (DG.out _).mono ?_
          rintro e w' ⟨rfl, rfl⟩
          go_wp2_with fail
          go_roundw
          case rel => exact ⟨45 + 1, _, by omega, by go_num, B.out.set_ 45 _, by rw [Array.size_setIfInBounds]; exact hsz, upd _ HV.out, F.out.setCell (p := ⟨g, 45, none⟩) (fun h => by have h2 : g < w.heap.size := h; have := HG.out; omega) _⟩
          case measure => first | (simp [intOf]; done) | (simp [intOf]; omega)
        · have m1 : ((x : Int) == 45) = false := beq_eq_false_iff_ne.2 (by omega)
          by_cases h4 : x = 34
          · have HV : Hid (Value.func (.func 39) #[] #[] = rdV x) := Lib.hid (by unfold rdV rdF; rw [h1, h2, decide_eq_false h3, if_pos h4]; rfl)
            subst h4
            clear h1 h2
            go_wp2_with fail
            refine (BG.out _).mono ?_
            rintro e w' ⟨rfl, rfl⟩
            go_wp2_with fail
            refine (DG.out _).mono ?_
            rintro e w' ⟨rfl, rfl⟩
            go_wp2_with fail
            go_roundw
            case rel => exact ⟨34 + 1, _, by omega, by go_num, B.out.set_ 34 _, by rw [Array.size_setIfInBounds]; exact hsz, upd _ HV.out, F.out.setCell (p := ⟨g, 34, none⟩) (fun h => by have h2 : g < w.heap.size := h; have := HG.out; omega) _⟩
            case measure => first | (simp [intOf]; done) | (simp [intOf]; omega)
          · have m2 : ((x : Int) == 34) = false := beq_eq_false_iff_ne.2 (by omega)
            have HV : Hid (Value.func (.func 40) #[] #[] = rdV x) := Lib.hid (by unfold rdV rdF; rw [h1, h2, decide_eq_false h3, if_neg h4]; rfl)
            clear h1 h2
            go_wp2_with fail
            refine (BG.out _).mono ?_
            rintro e w' ⟨rfl, rfl⟩
            go_wp2_with fail
            refine (DG.out _).mono ?_
            rintro e w' ⟨rfl, rfl⟩
            go_wp2_with fail
            go_roundw
            case rel => exact ⟨x + 1, _, by omega, by go_num, B.out.set_ x _, by rw [Array.size_setIfInBounds]; exact hsz, upd _ HV.out, F.out.setCell (p := ⟨g, x, none⟩) (fun h => by have h2 : g < w.heap.size := h; have := HG.out; omega) _⟩
            case measure => first | (simp [intOf]; done) | (simp [intOf]; omega)
end Go.Proofs.YtimopkmlcjdgfaaDoor
