/-
  KeysNobody.
-/
import Derived.Test.YtillifkilkjpdaaDoorAwk
namespace Go.Proofs.YtillifkilkjpdaaDoor
set_option linter.unusedSimpArgs false
set_option linter.unusedVariables false
open Go Go.RowKit

theorem XR.nil (w : World) : XR w (.pointer none) [] := .inl ⟨rfl, rfl⟩
theorem srt_nil : Srt [] := List.Pairwise.nil
theorem setn_c (w : World) (key : List UInt8) (u : Int) : Calls Tryd.prog 13 #[.pointer none, .string (strOf key), .int .i64 u] w fun e w' => e = .returned (.bool false) ∧ w' = w := by
  go_enter Tryd.func13, Tryd.ntmps13
  go_wp2_with fail
  go_ret
  exact ⟨rfl, rfl⟩
set_option maxRecDepth 100000 in
theorem deln_c (w : World) (key : List UInt8) : Calls Tryd.prog 14 #[.pointer none, .string (strOf key)] w fun e w' => e = .returned (.bool false) ∧ Fr (fun _ => False) w w' := by
  go_enter Tryd.func14, Tryd.ntmps14
  go_wp2_with fail
  refine (find_c w _ [] key (XR.nil w) (by simp) srt_nil).mono ?_
  rintro e w1 ⟨rfl, f1⟩
  rw [show fnd [] key = false from rfl]
  have F1 := Lib.hid f1
  clear f1
  go_wp2_with fail
  go_ret
  exact ⟨rfl, F1.out⟩
theorem copyn_c (w : World) : Calls Tryd.prog 12 #[.pointer none] w fun e w' => e = .returned (.pointer none) ∧ w' = w := by
  go_enter Tryd.func12, Tryd.ntmps12
  go_wp2_with fail
  go_ret
  exact ⟨rfl, rfl⟩

set_option maxRecDepth 100000 in
set_option maxHeartbeats 2000000 in
theorem keysNobody_c (w : World) (d u : Int) (key tt : List UInt8) (htab : TabOk w) :
    Calls Tryd.prog 6 #[.agg #[.int .i64 d, .int .i64 u, .string (strOf key), .string (strOf tt)]] w fun e w' => e = .returned (.bool true) ∧ Fr (fun _ => False) w w' := by
  have HT := Lib.hid htab
  have hb := Blk.new w 29 #[.int .i64 d, .int .i64 u, .string (strOf key), .string (strOf tt)]
  have hf := (Fr.refl (fun _ => False) w).alloc (.cells #[.int .i64 d, .int .i64 u, .string (strOf key), .string (strOf tt)] 29)
  have HB := Lib.hid hb
  have HF := Lib.hid hf
  have a1 : (w.alloc (.cells #[.int .i64 d, .int .i64 u, .string (strOf key), .string (strOf tt)] 29)).cell? ⟨w.heap.size, 1, none⟩ = some (.int .i64 u) := hb.cell 1
  have a2 : (w.alloc (.cells #[.int .i64 d, .int .i64 u, .string (strOf key), .string (strOf tt)] 29)).cell? ⟨w.heap.size, 2, none⟩ = some (.string (strOf key)) := hb.cell 2
  have a3 : (w.alloc (.cells #[.int .i64 d, .int .i64 u, .string (strOf key), .string (strOf tt)] 29)).cell? ⟨w.heap.size, 3, none⟩ = some (.string (strOf tt)) := hb.cell 3
  clear htab hb hf
  go_enter Tryd.func6, Tryd.ntmps6
  go_wp2_with fail
  generalize (w.alloc (.cells #[.int .i64 d, .int .i64 u, .string (strOf key), .string (strOf tt)] 29)) = w0 at *
  have HB0 := HB
  have F0 := HF
  have t0 : (strOf []).toList = [] := strOf_toList _
  clear HB HF
  refine (get_c w0 _ [] key (XR.nil _) (by simp) srt_nil).mono ?_
  rintro e w1 ⟨rfl, f1⟩
  rw [show gv [] key = 0 from rfl, show fnd [] key = false from rfl]
  have HB1 := Lib.hid (HB0.out.fr f1 (fun h => h))
  have F1 := Lib.hid (F0.out.trans f1 (fun _ _ h => h))
  clear HB0 F0 f1 a1 a2 a3
  have a1 : w1.cell? ⟨w.heap.size, 1, none⟩ = some (.int .i64 u) := HB1.out.cell 1
  have a2 : w1.cell? ⟨w.heap.size, 2, none⟩ = some (.string (strOf key)) := HB1.out.cell 2
  have a3 : w1.cell? ⟨w.heap.size, 3, none⟩ = some (.string (strOf tt)) := HB1.out.cell 3
  go_wp2_with fail
  refine (first_c w1 _ [] key (XR.nil _) (by simp) srt_nil).mono ?_
  rintro e w2 ⟨rfl, f2⟩
  rw [show fk [] key = [] from rfl, show decide (pos [] key < ([] : Ents).length) = false from rfl]
  have HB2 := Lib.hid (HB1.out.fr f2 (fun h => h))
  have F2 := Lib.hid (F1.out.trans f2 (fun _ _ h => h))
  clear HB1 F1 f2 a1 a2 a3
  have a1 : w2.cell? ⟨w.heap.size, 1, none⟩ = some (.int .i64 u) := HB2.out.cell 1
  have a2 : w2.cell? ⟨w.heap.size, 2, none⟩ = some (.string (strOf key)) := HB2.out.cell 2
  have a3 : w2.cell? ⟨w.heap.size, 3, none⟩ = some (.string (strOf tt)) := HB2.out.cell 3
  go_wp2_with fail
  refine (setn_c w2 key u).mono ?_
  rintro e wz ⟨rfl, hz⟩
  have hz2 := hz.symm
  subst hz2
  clear hz
  go_wp2_with fail
  refine (deln_c w2 key).mono ?_
  rintro e w3 ⟨rfl, f3⟩
  have HB3 := Lib.hid (HB2.out.fr f3 (fun h => h))
  have F3 := Lib.hid (F2.out.trans f3 (fun _ _ h => h))
  clear HB2 F2 f3 a1 a2 a3
  have a1 : w3.cell? ⟨w.heap.size, 1, none⟩ = some (.int .i64 u) := HB3.out.cell 1
  have a2 : w3.cell? ⟨w.heap.size, 2, none⟩ = some (.string (strOf key)) := HB3.out.cell 2
  have a3 : w3.cell? ⟨w.heap.size, 3, none⟩ = some (.string (strOf tt)) := HB3.out.cell 3
  go_wp2_with fail
  refine (len_c w3 _ [] (XR.nil _)).mono ?_
  rintro e wz ⟨hz, rfl⟩
  have hz2 := hz.symm
  subst hz2
  clear hz
  go_wp2_with fail
  refine (keys_c w3 _ [] (XR.nil _) srt_nil (by simp)).mono ?_
  rintro e w4 ⟨kv, rfl, kk, f4⟩
  obtain ⟨Ak, ck, rfl, -, -⟩ := own_slice kk
  clear kk
  have HB4 := Lib.hid (HB3.out.fr f4 (fun h => h))
  have F4 := Lib.hid (F3.out.trans f4 (fun _ _ h => h))
  clear HB3 F3 f4 a1 a2 a3
  have a1 : w4.cell? ⟨w.heap.size, 1, none⟩ = some (.int .i64 u) := HB4.out.cell 1
  have a2 : w4.cell? ⟨w.heap.size, 2, none⟩ = some (.string (strOf key)) := HB4.out.cell 2
  have a3 : w4.cell? ⟨w.heap.size, 3, none⟩ = some (.string (strOf tt)) := HB4.out.cell 3
  go_wp2_with fail
  refine (scan_c w4 _ [] key tt (XR.nil _) srt_nil (by simp)).mono ?_
  rintro e w5 ⟨sv, rfl, hs, f5⟩
  rw [show scn [] key tt = [] from by unfold scn; simp] at hs
  have HSF := Lib.hid hs
  clear hs
  have HB5 := Lib.hid (HB4.out.fr f5 (fun h => h))
  have F5 := Lib.hid (F4.out.trans f5 (fun _ _ h => h))
  clear HB4 F4 f5 a1 a2 a3
  have a1 : w5.cell? ⟨w.heap.size, 1, none⟩ = some (.int .i64 u) := HB5.out.cell 1
  have a2 : w5.cell? ⟨w.heap.size, 2, none⟩ = some (.string (strOf key)) := HB5.out.cell 2
  have a3 : w5.cell? ⟨w.heap.size, 3, none⟩ = some (.string (strOf tt)) := HB5.out.cell 3
  go_wp2_with fail
  refine (rows_c w5 _ (-1) [] HSF.out (by simp) (by decide)).mono ?_
  rintro e w6 ⟨rv, rfl, hr, f6⟩
  rw [show upto (-1) [] = [] from rfl] at hr
  obtain ⟨Ar, cr, rfl, -, -⟩ := own_slice hr
  clear hr HSF
  have HB6 := Lib.hid (HB5.out.fr f6 (fun h => h))
  have F6 := Lib.hid (F5.out.trans f6 (fun _ _ h => h))
  clear HB5 F5 f6 a1 a2 a3
  have a1 : w6.cell? ⟨w.heap.size, 1, none⟩ = some (.int .i64 u) := HB6.out.cell 1
  have a2 : w6.cell? ⟨w.heap.size, 2, none⟩ = some (.string (strOf key)) := HB6.out.cell 2
  have a3 : w6.cell? ⟨w.heap.size, 3, none⟩ = some (.string (strOf tt)) := HB6.out.cell 3
  go_wp2_with fail
  refine (copyn_c w6).mono ?_
  rintro e wz ⟨rfl, hz⟩
  have hz2 := hz.symm
  subst hz2
  clear hz
  go_wp2_with fail
  obtain ⟨g, hg⟩ : ∃ g, w6.heap.size = g := ⟨_, rfl⟩
  have X7 : Hid (IX (w6.alloc (.cells #[.slice none 0 0] 61)) g g (.slice none 0 0) []) := by
    rw [← hg]
    exact ⟨Blk.new w6 _ _, Nat.le_refl _, World.ownsRow_nil _ _ _ _, srt_nil⟩
  have f7 := (Fr.refl (fun _ => False) w6).alloc (.cells #[.slice none 0 0] 61)
  have E7 := Lib.hid f7
  have G6 := Lib.hid F6.out
  have BA := Lib.hid HB6.out
  have HG := Lib.hid hg
  rw [hg]
  clear hg
  generalize (w6.alloc (.cells #[.slice none 0 0] 61)) = w7 at *
  have HB7 := Lib.hid (HB6.out.fr f7 (fun h => h))
  have F7 := Lib.hid (F6.out.trans f7 (fun _ _ h => h))
  clear HB6 F6 f7 a1 a2 a3
  have a1 : w7.cell? ⟨w.heap.size, 1, none⟩ = some (.int .i64 u) := HB7.out.cell 1
  have a2 : w7.cell? ⟨w.heap.size, 2, none⟩ = some (.string (strOf key)) := HB7.out.cell 2
  have a3 : w7.cell? ⟨w.heap.size, 3, none⟩ = some (.string (strOf tt)) := HB7.out.cell 3
  refine (len_c w7 _ [] X7.out.xr).mono ?_
  rintro e wz ⟨hz, rfl⟩
  have hz2 := hz.symm
  subst hz2
  clear hz
  go_wp2_with fail
  refine (set_c w7 g g _ [] key u X7.out (by simp)).mono ?_
  rintro e w8 ⟨rfl, v8, x8, f8, -⟩
  have X8 : Hid (IX w8 g g v8 [(key, u)]) := x8
  have e8 : Fr (fun _ => False) w6 w8 := IX.step (B := g) E7.out (by rw [HG.out]; exact X7.out) f8
  rw [show (!fnd [] key) = true from rfl]
  clear x8 f8 X7
  clear HB7 F7 a1 a2 a3
  have E8 := Lib.hid e8
  clear e8 E7
  have HB8 := Lib.hid (BA.out.fr E8.out (fun h => h))
  have F8 := Lib.hid (G6.out.trans E8.out (fun _ _ h => h))
  have a1 : w8.cell? ⟨w.heap.size, 1, none⟩ = some (.int .i64 u) := HB8.out.cell 1
  have a2 : w8.cell? ⟨w.heap.size, 2, none⟩ = some (.string (strOf key)) := HB8.out.cell 2
  have a3 : w8.cell? ⟨w.heap.size, 3, none⟩ = some (.string (strOf tt)) := HB8.out.cell 3
  go_wp2_with fail
  refine (len_c w8 _ [(key, u)] X8.out.xr).mono ?_
  rintro e wz ⟨hz, rfl⟩
  have hz2 := hz.symm
  subst hz2
  clear hz
  go_wp2_with fail
  refine (merge_c w8 none 0 [] [] (Rd.none_ _ _) ⟨rfl, fun i x m h => (nomatch h)⟩ (fun m h => (nomatch h)) (fun m h => (nomatch h)) (by simp)).mono ?_
  rintro e w9 ⟨sm, rfl, hs, f9⟩
  have HSF := Lib.hid hs
  have X9 := Lib.hid (X8.out.far f9)
  have e9 := E8.out.trans f9 (fun _ _ h => h)
  clear hs f9 X8
  clear HB8 F8 a1 a2 a3
  have E9 := Lib.hid e9
  clear e9 E8
  have HB9 := Lib.hid (BA.out.fr E9.out (fun h => h))
  have F9 := Lib.hid (G6.out.trans E9.out (fun _ _ h => h))
  have a1 : w9.cell? ⟨w.heap.size, 1, none⟩ = some (.int .i64 u) := HB9.out.cell 1
  have a2 : w9.cell? ⟨w.heap.size, 2, none⟩ = some (.string (strOf key)) := HB9.out.cell 2
  have a3 : w9.cell? ⟨w.heap.size, 3, none⟩ = some (.string (strOf tt)) := HB9.out.cell 3
  go_wp2_with fail
  refine (rows_c w9 _ (-1) (mrg []) HSF.out (by simp [mrg]) (by decide)).mono ?_
  rintro e w10 ⟨rm, rfl, hr, f10⟩
  rw [show upto (-1) (mrg []) = [] from rfl] at hr
  obtain ⟨Am, cm, rfl, -, -⟩ := own_slice hr
  have X10 := Lib.hid (X9.out.far f10)
  have e10 := E9.out.trans f10 (fun _ _ h => h)
  clear hr f10 X9 HSF
  clear HB9 F9 a1 a2 a3
  have E10 := Lib.hid e10
  clear e10 E9
  have HB10 := Lib.hid (BA.out.fr E10.out (fun h => h))
  have F10 := Lib.hid (G6.out.trans E10.out (fun _ _ h => h))
  have a1 : w10.cell? ⟨w.heap.size, 1, none⟩ = some (.int .i64 u) := HB10.out.cell 1
  have a2 : w10.cell? ⟨w.heap.size, 2, none⟩ = some (.string (strOf key)) := HB10.out.cell 2
  have a3 : w10.cell? ⟨w.heap.size, 3, none⟩ = some (.string (strOf tt)) := HB10.out.cell 3
  go_wp2_with fail
  refine (get_c w10 _ [(key, u)] key X10.out.xr (by simp) X10.out.srt).mono ?_
  rintro e w11 ⟨rfl, f11⟩
  rw [show gv [(key, u)] key = u from by rw [gv_lk X10.out.srt, lk_cons, if_pos rfl]; rfl, show fnd [(key, u)] key = true from by rw [fnd_lk, lk_cons, if_pos rfl]; rfl]
  have X11 := Lib.hid (X10.out.far f11)
  have e11 := E10.out.trans f11 (fun _ _ h => h)
  clear f11 X10
  clear HB10 F10 a1 a2 a3
  have E11 := Lib.hid e11
  clear e11 E10
  have HB11 := Lib.hid (BA.out.fr E11.out (fun h => h))
  have F11 := Lib.hid (G6.out.trans E11.out (fun _ _ h => h))
  have a1 : w11.cell? ⟨w.heap.size, 1, none⟩ = some (.int .i64 u) := HB11.out.cell 1
  have a2 : w11.cell? ⟨w.heap.size, 2, none⟩ = some (.string (strOf key)) := HB11.out.cell 2
  have a3 : w11.cell? ⟨w.heap.size, 3, none⟩ = some (.string (strOf tt)) := HB11.out.cell 3
  go_wp2_with fail
  refine (del_c w11 g g _ [(key, u)] key X11.out (by simp)).mono ?_
  rintro e w12 ⟨rfl, v12, x12, f12, -⟩
  have e12 : Fr (fun _ => False) w6 w12 := IX.step (B := g) E11.out (by rw [HG.out]; exact X11.out) f12
  rw [show fnd [(key, u)] key = true from by rw [fnd_lk, lk_cons, if_pos rfl]; rfl]
  clear x12 f12 X11
  clear HB11 F11 a1 a2 a3
  have E12 := Lib.hid e12
  clear e12 E11
  have HB12 := Lib.hid (BA.out.fr E12.out (fun h => h))
  have F12 := Lib.hid (G6.out.trans E12.out (fun _ _ h => h))
  have a1 : w12.cell? ⟨w.heap.size, 1, none⟩ = some (.int .i64 u) := HB12.out.cell 1
  have a2 : w12.cell? ⟨w.heap.size, 2, none⟩ = some (.string (strOf key)) := HB12.out.cell 2
  have a3 : w12.cell? ⟨w.heap.size, 3, none⟩ = some (.string (strOf tt)) := HB12.out.cell 3
  go_wp2_with fail
  refine (awake_c w12 (HT.out.far F12.out)).mono ?_
  rintro e w13 ⟨rfl, f13⟩
  have F13 := Lib.hid (F12.out.trans f13 (fun _ _ h => h))
  clear f13 a1 a2 a3
  go_wp2_with fail
  go_ret
  exact ⟨rfl, F13.out⟩
end Go.Proofs.YtillifkilkjpdaaDoor
