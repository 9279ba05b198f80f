/- Places of the program, way by way. -/
import Derived.Test.YtpbljcjghjbjdaaDoorRoChk
import Derived.Test.YtpbljcjghjbjdaaDoorRoTo
namespace Go.Proofs.YtpbljcjghjbjdaaDoor
open Go.RowKit
attribute [local go_sem ↓] Go.wp_at_zero Go.wp_at_succ

set_option maxHeartbeats 4000000 in
set_option maxRecDepth 100000 in
theorem tp_pad (an : Bool) (ai af : ByteArray) (mode most : Int) (yn : Bool) (yi yf : ByteArray) (c : Int) (w : World) (H1 : (∀ wx : World, Calls Tryd.prog 96 #[(.agg #[.bool an, .string ai, .string af]), .int .i64 0] wx fun e w' => e = .returned (.tuple #[(.agg #[.bool yn, .string yi, .string yf]), .int .i64 c]) ∧ Below wx.heap.size wx w')) (h : (af.size : Int) ≤ most) :
    Calls Tryd.prog 95 #[(.agg #[.bool an, .string ai, .string af]), .int .i64 mode, .int .i64 most] w fun e w' => e = .returned (.tuple #[(.agg #[.bool yn, .string yi, .string yf]), .int .i64 c]) ∧ Below w.heap.size w w' := by
  have D1 := Lib.hid H1
  clear H1
  have q : decide ((af.size : Int) ≤ most) = true := decide_eq_true h
  go_enter Tryd.func95, Tryd.ntmps95
  go_wp2_with fail
  obtain ⟨W0, hW0⟩ : ∃ W0, W0 = ((w.alloc (.cells #[.bool an, .string ai, .string af] 23)).alloc (.cells #[.bool false, .string ⟨#[]⟩, .string ⟨#[]⟩] 23)) := ⟨_, rfl⟩
  obtain ⟨hB, hz, C0, C1, FL⟩ : Below w.heap.size w W0 ∧ w.heap.size + 2 ≤ W0.heap.size ∧ Cells3 W0 w.heap.size (.bool an) (.string ai) (.string af) ∧ Cells3 W0 (w.heap.size + 1) (.bool false) (.string ⟨#[]⟩) (.string ⟨#[]⟩) ∧ ∀ i, W0.frozen? ⟨(w.heap.size + 1), i, none⟩ = false := by rw [hW0]; exact ⟨below_two w _ _, two_boxes w _ _ _ _ _ _ _⟩
  have z0 : w.heap.size + 1 ≤ W0.heap.size := by omega
  have z1 : (w.heap.size + 1) + 1 ≤ W0.heap.size := by omega
  rw [← hW0]
  have HB := Lib.hid hB
  have F1 := Lib.hid FL
  clear hW0 hB hz FL
  (with_reducible refine (D1.out _).mono ?_)
  rintro e V1 ⟨rfl, hb⟩
  replace F1 := Lib.hid (frozen_keep F1.out hb (by omega))
  replace C0 := C0.keep hb (by omega)
  replace z0 : w.heap.size + 1 ≤ V1.heap.size := by have := hb.size; omega
  replace C1 := C1.keep hb (by omega)
  replace z1 : (w.heap.size + 1) + 1 ≤ V1.heap.size := by have := hb.size; omega
  replace HB := Lib.hid (HB.out.trans (hb.mono HB.out.size))
  clear hb
  have o00 := C0.1
  have o10 := C1.1
  have o01 := C0.2.1
  have o02 := C0.2.2
  have o11 := C1.2.1
  have o12 := C1.2.2
  obtain ⟨r0, r1, r2⟩ := C1
  have z0 := F1.out
  obtain ⟨e0, e1, e2⟩ := res_cells r0 r1 r2 (.bool yn) (.string yi) (.string yf)
  go_wp2
  exact bodyPost_ret (v := .tuple #[.agg #[.bool yn, .string yi, .string yf], .int .i64 c]) (by simp [results, Tryd.results95, go_sem, e0, e1, e2]) rfl ⟨rfl, res_below HB.out (by omega) _ _ _⟩

set_option maxHeartbeats 4000000 in
set_option maxRecDepth 100000 in
theorem tp_mult (an : Bool) (ai af : ByteArray) (mode most : Int) (yn : Bool) (yi yf : ByteArray) (c : Int) (tn : Bool) (ti tf : ByteArray) (w : World) (H1 : (∀ wx : World, Calls Tryd.prog 145 #[.int .i64 (-most)] wx fun e w' => e = .returned (.agg #[.bool tn, .string ti, .string tf]) ∧ Below wx.heap.size wx w')) (H2 : (∀ wx : World, Calls Tryd.prog 144 #[(.agg #[.bool an, .string ai, .string af]), .int .i64 mode, (.agg #[.bool tn, .string ti, .string tf])] wx fun e w' => e = .returned (.tuple #[(.agg #[.bool yn, .string yi, .string yf]), .int .i64 c]) ∧ Below wx.heap.size wx w')) (h : ¬ (af.size : Int) ≤ most) (m0 : 0 ≤ most) (m1 : most ≤ 40) :
    Calls Tryd.prog 95 #[(.agg #[.bool an, .string ai, .string af]), .int .i64 mode, .int .i64 most] w fun e w' => e = .returned (.tuple #[(.agg #[.bool yn, .string yi, .string yf]), .int .i64 c]) ∧ Below w.heap.size w w' := by
  have D1 := Lib.hid H1
  have D2 := Lib.hid H2
  clear H1 H2
  have q : decide ((af.size : Int) ≤ most) = false := decide_eq_false h
  have wn : IntKind.i64.wrap (-most) = -most := IntWalk.i64_in _ (by omega)
  go_enter Tryd.func95, Tryd.ntmps95
  go_wp2_with fail
  obtain ⟨W0, hW0⟩ : ∃ W0, W0 = ((w.alloc (.cells #[.bool an, .string ai, .string af] 23)).alloc (.cells #[.bool false, .string ⟨#[]⟩, .string ⟨#[]⟩] 23)) := ⟨_, rfl⟩
  obtain ⟨hB, hz, C0, C1, FL⟩ : Below w.heap.size w W0 ∧ w.heap.size + 2 ≤ W0.heap.size ∧ Cells3 W0 w.heap.size (.bool an) (.string ai) (.string af) ∧ Cells3 W0 (w.heap.size + 1) (.bool false) (.string ⟨#[]⟩) (.string ⟨#[]⟩) ∧ ∀ i, W0.frozen? ⟨(w.heap.size + 1), i, none⟩ = false := by rw [hW0]; exact ⟨below_two w _ _, two_boxes w _ _ _ _ _ _ _⟩
  have z0 : w.heap.size + 1 ≤ W0.heap.size := by omega
  have z1 : (w.heap.size + 1) + 1 ≤ W0.heap.size := by omega
  rw [← hW0]
  have HB := Lib.hid hB
  have F1 := Lib.hid FL
  clear hW0 hB hz FL
  have C0h := Lib.hid C0
  have o00 := C0.1
  have o01 := C0.2.1
  have o02 := C0.2.2
  go_region_held3 (fun w' => (w'.cell? ⟨w.heap.size, 0, none⟩ = some (.bool an) ∧ w'.cell? ⟨w.heap.size, 1, none⟩ = some (.string ai) ∧ w'.cell? ⟨w.heap.size, 2, none⟩ = some (.string af)))
    (first
      | exact ⟨o00, o01, o02⟩
      | (have t := C0h.out.keep hb4 (by omega); exact ⟨t.1, t.2.1, t.2.2⟩)
      | (have t := C0h.out.keep hb4 (by omega); exact ⟨(far3 _ _ _ _ _ _ _ (by omega)).trans t.1, (far3 _ _ _ _ _ _ _ (by omega)).trans t.2.1, (far3 _ _ _ _ _ _ _ (by omega)).trans t.2.2⟩)
      | (have t := C0h.out.keep (undrew hbA) (by omega); exact ⟨t.1, t.2.1, t.2.2⟩)
      | go_keep)
    (first
      | (go_at_call 145; (with_reducible refine (D1.out _).mono ?_); rintro e wA ⟨rfl, hbA⟩)
      | (go_at_call 144; (with_reducible refine (D2.out _).mono ?_); rintro e wB ⟨rfl, hbB⟩
         have hb4 : Below W0.heap.size W0 wB := (undrew hbA).trans (hbB.mono (undrew hbA).size)
         obtain ⟨r0, r1, r2⟩ := C1.keep hb4 (by omega)
         have z0' := frozen_keep F1.out hb4 (by omega)))
  have B4 := Lib.hid (HB.out.trans (hb4.mono HB.out.size))
  obtain ⟨e0, e1, e2⟩ := res_cells r0 r1 r2 (.bool yn) (.string yi) (.string yf)
  go_wp2
  exact bodyPost_ret (v := .tuple #[.agg #[.bool yn, .string yi, .string yf], .int .i64 c]) (by simp [results, Tryd.results95, go_sem, e0, e1, e2]) rfl ⟨rfl, res_below B4.out (by omega) _ _ _⟩

set_option maxHeartbeats 4000000 in
set_option maxRecDepth 100000 in
theorem pl_bad (an : Bool) (ai af : ByteArray) (mode most c : Int) (w : World) (H1 : (∀ wx : World, Calls Tryd.prog 94 #[(.agg #[.bool an, .string ai, .string af]), .int .i64 mode, .int .i64 0, .int .i64 0, .int .i64 most] wx fun e w' => e = .returned (.int .i64 c) ∧ Below wx.heap.size wx w')) (he : (c != 0) = true) :
    Calls Tryd.prog 53 #[(.agg #[.bool an, .string ai, .string af]), .int .i64 mode, .int .i64 most] w fun e w' => e = .returned (.tuple #[.agg #[.bool false, .string ⟨#[]⟩, .string ⟨#[]⟩], .int .i64 c]) ∧ Below w.heap.size w w' := by
  have D1 := Lib.hid H1
  clear H1
  go_enter Tryd.func53, Tryd.ntmps53
  go_wp2_with fail
  obtain ⟨W0, hW0⟩ : ∃ W0, W0 = ((w.alloc (.cells #[.bool an, .string ai, .string af] 23)).alloc (.cells #[.bool false, .string ⟨#[]⟩, .string ⟨#[]⟩] 23)) := ⟨_, rfl⟩
  obtain ⟨hB, hz, C0, C1, FL⟩ : Below w.heap.size w W0 ∧ w.heap.size + 2 ≤ W0.heap.size ∧ Cells3 W0 w.heap.size (.bool an) (.string ai) (.string af) ∧ Cells3 W0 (w.heap.size + 1) (.bool false) (.string ⟨#[]⟩) (.string ⟨#[]⟩) ∧ ∀ i, W0.frozen? ⟨(w.heap.size + 1), i, none⟩ = false := by rw [hW0]; exact ⟨below_two w _ _, two_boxes w _ _ _ _ _ _ _⟩
  have z0 : w.heap.size + 1 ≤ W0.heap.size := by omega
  have z1 : (w.heap.size + 1) + 1 ≤ W0.heap.size := by omega
  rw [← hW0]
  have HB := Lib.hid hB
  have F1 := Lib.hid FL
  clear hW0 hB hz FL
  (with_reducible refine (D1.out _).mono ?_)
  rintro e V1 ⟨rfl, hb⟩
  replace F1 := Lib.hid (frozen_keep F1.out hb (by omega))
  replace C0 := C0.keep hb (by omega)
  replace z0 : w.heap.size + 1 ≤ V1.heap.size := by have := hb.size; omega
  replace C1 := C1.keep hb (by omega)
  replace z1 : (w.heap.size + 1) + 1 ≤ V1.heap.size := by have := hb.size; omega
  replace HB := Lib.hid (HB.out.trans (hb.mono HB.out.size))
  clear hb
  have o00 := C0.1
  have o10 := C1.1
  have o01 := C0.2.1
  have o02 := C0.2.2
  have o11 := C1.2.1
  have o12 := C1.2.2
  obtain ⟨r0, r1, r2⟩ := C1
  have z0 := F1.out
  obtain ⟨e0, e1, e2⟩ := res_cells r0 r1 r2 (.bool false) (.string ⟨#[]⟩) (.string ⟨#[]⟩)
  go_wp2
  exact bodyPost_ret (v := .tuple #[.agg #[.bool false, .string ⟨#[]⟩, .string ⟨#[]⟩], .int .i64 c]) (by simp [results, Tryd.results53, go_sem, e0, e1, e2]) rfl ⟨rfl, res_below HB.out (by omega) _ _ _⟩

set_option maxHeartbeats 4000000 in
set_option maxRecDepth 100000 in
theorem pl_ok (an : Bool) (ai af : ByteArray) (mode most : Int) (yn : Bool) (yi yf : ByteArray) (c : Int) (w : World) (H1 : (∀ wx : World, Calls Tryd.prog 94 #[(.agg #[.bool an, .string ai, .string af]), .int .i64 mode, .int .i64 0, .int .i64 0, .int .i64 most] wx fun e w' => e = .returned (.int .i64 0) ∧ Below wx.heap.size wx w')) (H2 : (∀ wx : World, Calls Tryd.prog 95 #[(.agg #[.bool an, .string ai, .string af]), .int .i64 mode, .int .i64 most] wx fun e w' => e = .returned (.tuple #[(.agg #[.bool yn, .string yi, .string yf]), .int .i64 c]) ∧ Below wx.heap.size wx w'))  :
    Calls Tryd.prog 53 #[(.agg #[.bool an, .string ai, .string af]), .int .i64 mode, .int .i64 most] w fun e w' => e = .returned (.tuple #[(.agg #[.bool yn, .string yi, .string yf]), .int .i64 c]) ∧ Below w.heap.size w w' := by
  have D1 := Lib.hid H1
  have D2 := Lib.hid H2
  clear H1 H2
  have q0 : ((0 : Int) != 0) = false := by decide
  go_enter Tryd.func53, Tryd.ntmps53
  go_wp2_with fail
  obtain ⟨W0, hW0⟩ : ∃ W0, W0 = ((w.alloc (.cells #[.bool an, .string ai, .string af] 23)).alloc (.cells #[.bool false, .string ⟨#[]⟩, .string ⟨#[]⟩] 23)) := ⟨_, rfl⟩
  obtain ⟨hB, hz, C0, C1, FL⟩ : Below w.heap.size w W0 ∧ w.heap.size + 2 ≤ W0.heap.size ∧ Cells3 W0 w.heap.size (.bool an) (.string ai) (.string af) ∧ Cells3 W0 (w.heap.size + 1) (.bool false) (.string ⟨#[]⟩) (.string ⟨#[]⟩) ∧ ∀ i, W0.frozen? ⟨(w.heap.size + 1), i, none⟩ = false := by rw [hW0]; exact ⟨below_two w _ _, two_boxes w _ _ _ _ _ _ _⟩
  have z0 : w.heap.size + 1 ≤ W0.heap.size := by omega
  have z1 : (w.heap.size + 1) + 1 ≤ W0.heap.size := by omega
  rw [← hW0]
  have HB := Lib.hid hB
  have F1 := Lib.hid FL
  clear hW0 hB hz FL
  (with_reducible refine (D1.out _).mono ?_)
  rintro e V1 ⟨rfl, hb⟩
  replace F1 := Lib.hid (frozen_keep F1.out hb (by omega))
  replace C0 := C0.keep hb (by omega)
  replace z0 : w.heap.size + 1 ≤ V1.heap.size := by have := hb.size; omega
  replace C1 := C1.keep hb (by omega)
  replace z1 : (w.heap.size + 1) + 1 ≤ V1.heap.size := by have := hb.size; omega
  replace HB := Lib.hid (HB.out.trans (hb.mono HB.out.size))
  clear hb
  have o00 := C0.1
  have o10 := C1.1
  have o01 := C0.2.1
  have o02 := C0.2.2
  have o11 := C1.2.1
  have o12 := C1.2.2
  go_wp2_with fail
  clear o00 o01 o02 o10 o11 o12
  (with_reducible refine (D2.out _).mono ?_)
  rintro e V2 ⟨rfl, hb⟩
  replace F1 := Lib.hid (frozen_keep F1.out hb (by omega))
  replace C0 := C0.keep hb (by omega)
  replace z0 : w.heap.size + 1 ≤ V2.heap.size := by have := hb.size; omega
  replace C1 := C1.keep hb (by omega)
  replace z1 : (w.heap.size + 1) + 1 ≤ V2.heap.size := by have := hb.size; omega
  replace HB := Lib.hid (HB.out.trans (hb.mono HB.out.size))
  clear hb
  have o00 := C0.1
  have o10 := C1.1
  have o01 := C0.2.1
  have o02 := C0.2.2
  have o11 := C1.2.1
  have o12 := C1.2.2
  obtain ⟨r0, r1, r2⟩ := C1
  have z0 := F1.out
  obtain ⟨e0, e1, e2⟩ := res_cells r0 r1 r2 (.bool yn) (.string yi) (.string yf)
  go_wp2
  exact bodyPost_ret (v := .tuple #[.agg #[.bool yn, .string yi, .string yf], .int .i64 c]) (by simp [results, Tryd.results53, go_sem, e0, e1, e2]) rfl ⟨rfl, res_below HB.out (by omega) _ _ _⟩
end Go.Proofs.YtpbljcjghjbjdaaDoor
