/- The reference's asked and Places of layer 3, way by way. -/
import Derived.Test.YtpbljcjghjbjdaaRoChk
import Derived.Test.YtpbljcjghjbjdaaDRef1
import Derived.Test.YtpbljcjghjbjdaaRrMade
import Derived.Test.YtpbljcjghjbjdaaRrTurn
import Derived.Deep.DeepCutAuto
namespace Go.Proofs.Ytpbljcjghjbjdaa
open Go.RowKit
attribute [local go_sem ↓] Go.wp_at_zero Go.wp_at_succ

set_option maxHeartbeats 4000000 in
set_option maxRecDepth 100000 in
theorem as_bad (an : Bool) (ai af : ByteArray) (mode ec : Int) (w : World) (H1 : (∀ wx : World, Calls Try.prog 22 #[(.agg #[.bool an, .string ai, .string af])] wx fun e w' => e = .returned (.int .i64 ec) ∧ Below wx.heap.size wx w')) (he : (ec != 0) = true) :
    Calls Try.prog 17 #[(.agg #[.bool an, .string ai, .string af]), .int .i64 mode] w fun e w' => e = .returned (.int .i64 ec) ∧ Below w.heap.size w w' := by
  have D1 := Lib.hid H1
  clear H1
  go_enter Try.func17, Try.ntmps17
  go_wp2_with fail
  obtain ⟨W0, hW0⟩ : ∃ W0, W0 = (w.alloc (.cells #[.bool an, .string ai, .string af] 23)) := ⟨_, rfl⟩
  obtain ⟨hB, hz, C0, FL⟩ : Below w.heap.size w W0 ∧ w.heap.size + 1 ≤ W0.heap.size ∧ Cells3 W0 w.heap.size (.bool an) (.string ai) (.string af) ∧ ∀ i, W0.frozen? ⟨w.heap.size, i, none⟩ = false := by rw [hW0]; exact ⟨(Below.refl _ w).alloc (Nat.le_refl _) _, one_box w _ _ _ _⟩
  have z0 : w.heap.size + 1 ≤ W0.heap.size := by omega
  rw [← hW0]
  have HB := Lib.hid hB
  have F0 := Lib.hid FL
  clear hW0 hB hz FL
  (with_reducible refine (D1.out _).mono ?_)
  rintro e V1 ⟨rfl, hb⟩
  replace C0 := C0.keep hb (by omega)
  replace z0 : w.heap.size + 1 ≤ V1.heap.size := by have := hb.size; omega
  replace HB := Lib.hid (HB.out.trans (hb.mono HB.out.size))
  clear hb
  have o00 := C0.1
  have o01 := C0.2.1
  have o02 := C0.2.2
  go_wp2
  go_ret
  exact ⟨rfl, HB.out⟩

set_option maxHeartbeats 4000000 in
set_option maxRecDepth 100000 in
theorem as_lo (an : Bool) (ai af : ByteArray) (mode : Int) (w : World) (H1 : (∀ wx : World, Calls Try.prog 22 #[(.agg #[.bool an, .string ai, .string af])] wx fun e w' => e = .returned (.int .i64 0) ∧ Below wx.heap.size wx w')) (h1 : mode < 1) :
    Calls Try.prog 17 #[(.agg #[.bool an, .string ai, .string af]), .int .i64 mode] w fun e w' => e = .returned (.int .i64 30) ∧ Below w.heap.size w w' := by
  have D1 := Lib.hid H1
  clear H1
  have q0 : ((0 : Int) != 0) = false := by decide
  have q1 : decide (mode < 1) = true := decide_eq_true h1
  go_enter Try.func17, Try.ntmps17
  go_wp2_with fail
  obtain ⟨W0, hW0⟩ : ∃ W0, W0 = (w.alloc (.cells #[.bool an, .string ai, .string af] 23)) := ⟨_, rfl⟩
  obtain ⟨hB, hz, C0, FL⟩ : Below w.heap.size w W0 ∧ w.heap.size + 1 ≤ W0.heap.size ∧ Cells3 W0 w.heap.size (.bool an) (.string ai) (.string af) ∧ ∀ i, W0.frozen? ⟨w.heap.size, i, none⟩ = false := by rw [hW0]; exact ⟨(Below.refl _ w).alloc (Nat.le_refl _) _, one_box w _ _ _ _⟩
  have z0 : w.heap.size + 1 ≤ W0.heap.size := by omega
  rw [← hW0]
  have HB := Lib.hid hB
  have F0 := Lib.hid FL
  clear hW0 hB hz FL
  (with_reducible refine (D1.out _).mono ?_)
  rintro e V1 ⟨rfl, hb⟩
  replace C0 := C0.keep hb (by omega)
  replace z0 : w.heap.size + 1 ≤ V1.heap.size := by have := hb.size; omega
  replace HB := Lib.hid (HB.out.trans (hb.mono HB.out.size))
  clear hb
  have o00 := C0.1
  have o01 := C0.2.1
  have o02 := C0.2.2
  go_wp2
  go_ret
  exact ⟨rfl, HB.out⟩

set_option maxHeartbeats 4000000 in
set_option maxRecDepth 100000 in
theorem as_hi (an : Bool) (ai af : ByteArray) (mode : Int) (w : World) (H1 : (∀ wx : World, Calls Try.prog 22 #[(.agg #[.bool an, .string ai, .string af])] wx fun e w' => e = .returned (.int .i64 0) ∧ Below wx.heap.size wx w')) (h1 : ¬ mode < 1) (h2 : 8 < mode) :
    Calls Try.prog 17 #[(.agg #[.bool an, .string ai, .string af]), .int .i64 mode] w fun e w' => e = .returned (.int .i64 30) ∧ Below w.heap.size w w' := by
  have D1 := Lib.hid H1
  clear H1
  have q0 : ((0 : Int) != 0) = false := by decide
  have q1 : decide (mode < 1) = false := decide_eq_false h1
  have q2 : decide (8 < mode) = true := decide_eq_true h2
  go_enter Try.func17, Try.ntmps17
  go_wp2_with fail
  obtain ⟨W0, hW0⟩ : ∃ W0, W0 = (w.alloc (.cells #[.bool an, .string ai, .string af] 23)) := ⟨_, rfl⟩
  obtain ⟨hB, hz, C0, FL⟩ : Below w.heap.size w W0 ∧ w.heap.size + 1 ≤ W0.heap.size ∧ Cells3 W0 w.heap.size (.bool an) (.string ai) (.string af) ∧ ∀ i, W0.frozen? ⟨w.heap.size, i, none⟩ = false := by rw [hW0]; exact ⟨(Below.refl _ w).alloc (Nat.le_refl _) _, one_box w _ _ _ _⟩
  have z0 : w.heap.size + 1 ≤ W0.heap.size := by omega
  rw [← hW0]
  have HB := Lib.hid hB
  have F0 := Lib.hid FL
  clear hW0 hB hz FL
  (with_reducible refine (D1.out _).mono ?_)
  rintro e V1 ⟨rfl, hb⟩
  replace C0 := C0.keep hb (by omega)
  replace z0 : w.heap.size + 1 ≤ V1.heap.size := by have := hb.size; omega
  replace HB := Lib.hid (HB.out.trans (hb.mono HB.out.size))
  clear hb
  have o00 := C0.1
  have o01 := C0.2.1
  have o02 := C0.2.2
  go_wp2
  go_ret
  exact ⟨rfl, HB.out⟩

set_option maxHeartbeats 4000000 in
set_option maxRecDepth 100000 in
theorem as_ok (an : Bool) (ai af : ByteArray) (mode : Int) (w : World) (H1 : (∀ wx : World, Calls Try.prog 22 #[(.agg #[.bool an, .string ai, .string af])] wx fun e w' => e = .returned (.int .i64 0) ∧ Below wx.heap.size wx w')) (h1 : ¬ mode < 1) (h2 : ¬ 8 < mode) :
    Calls Try.prog 17 #[(.agg #[.bool an, .string ai, .string af]), .int .i64 mode] w fun e w' => e = .returned (.int .i64 0) ∧ Below w.heap.size w w' := by
  have D1 := Lib.hid H1
  clear H1
  have q0 : ((0 : Int) != 0) = false := by decide
  have q1 : decide (mode < 1) = false := decide_eq_false h1
  have q2 : decide (8 < mode) = false := decide_eq_false h2
  go_enter Try.func17, Try.ntmps17
  go_wp2_with fail
  obtain ⟨W0, hW0⟩ : ∃ W0, W0 = (w.alloc (.cells #[.bool an, .string ai, .string af] 23)) := ⟨_, rfl⟩
  obtain ⟨hB, hz, C0, FL⟩ : Below w.heap.size w W0 ∧ w.heap.size + 1 ≤ W0.heap.size ∧ Cells3 W0 w.heap.size (.bool an) (.string ai) (.string af) ∧ ∀ i, W0.frozen? ⟨w.heap.size, i, none⟩ = false := by rw [hW0]; exact ⟨(Below.refl _ w).alloc (Nat.le_refl _) _, one_box w _ _ _ _⟩
  have z0 : w.heap.size + 1 ≤ W0.heap.size := by omega
  rw [← hW0]
  have HB := Lib.hid hB
  have F0 := Lib.hid FL
  clear hW0 hB hz FL
  (with_reducible refine (D1.out _).mono ?_)
  rintro e V1 ⟨rfl, hb⟩
  replace C0 := C0.keep hb (by omega)
  replace z0 : w.heap.size + 1 ≤ V1.heap.size := by have := hb.size; omega
  replace HB := Lib.hid (HB.out.trans (hb.mono HB.out.size))
  clear hb
  have o00 := C0.1
  have o01 := C0.2.1
  have o02 := C0.2.2
  go_wp2
  go_ret
  exact ⟨rfl, HB.out⟩

theorem asked_any (n : Bool) (i f : ByteArray) (mode : Int) (w : World) (hi : i.size ≤ 140737488355328) (hf : f.size ≤ 140737488355328) :
    Calls Try.prog 17 #[.agg #[.bool n, .string i, .string f], .int .i64 mode] w fun e w' => e = .returned (.int .i64 (modeE (okB n i f) mode)) ∧ Below w.heap.size w w' := by
  have H1 := fun wx => refCheck_any n i f wx hi hf
  unfold ckE at H1
  unfold modeE
  cases hk : okB n i f with
  | false => rw [hk] at H1; exact as_bad n i f mode 20 w H1 (by decide)
  | true =>
    rw [hk] at H1
    by_cases h1 : mode < 1
    · rw [show modeB mode = false by unfold modeB; rw [decide_eq_false (show ¬ 1 ≤ mode by omega)]; rfl]
      exact as_lo n i f mode w H1 h1
    by_cases h2 : 8 < mode
    · rw [show modeB mode = false by unfold modeB; rw [decide_eq_false (show ¬ mode ≤ 8 by omega)]; simp]
      exact as_hi n i f mode w H1 h1 h2
    · rw [show modeB mode = true by unfold modeB; rw [decide_eq_true (show mode ≤ 8 by omega), decide_eq_true (show 1 ≤ mode by omega)]; rfl]
      exact as_ok n i f mode w H1 h1 h2

set_option maxHeartbeats 4000000 in
set_option maxRecDepth 100000 in
theorem rp_bad (an : Bool) (ai af : ByteArray) (mode most : Int) (ec : Int) (w : World) (H1 : (∀ wx : World, Calls Try.prog 17 #[(.agg #[.bool an, .string ai, .string af]), .int .i64 mode] wx fun e w' => e = .returned (.int .i64 ec) ∧ Below wx.heap.size wx w')) (he : (ec != 0) = true) :
    Calls Try.prog 6 #[(.agg #[.bool an, .string ai, .string af]), .int .i64 mode, .int .i64 most] w fun e w' => e = .returned (.tuple #[.agg #[.bool false, .string ⟨#[]⟩, .string ⟨#[]⟩], .int .i64 ec]) ∧ Below w.heap.size w w' := by
  have D1 := Lib.hid H1
  clear H1
  go_enter Try.func6, Try.ntmps6
  go_wp2_with fail
  obtain ⟨W0, hW0⟩ : ∃ W0, W0 = ((w.alloc (.cells #[.bool an, .string ai, .string af] 23)).alloc (.cells #[.bool false, .string ⟨#[]⟩, .string ⟨#[]⟩] 23)) := ⟨_, rfl⟩
  obtain ⟨hB, hz, C0, C1, FL⟩ : Below w.heap.size w W0 ∧ w.heap.size + 2 ≤ W0.heap.size ∧ Cells3 W0 w.heap.size (.bool an) (.string ai) (.string af) ∧ Cells3 W0 (w.heap.size + 1) (.bool false) (.string ⟨#[]⟩) (.string ⟨#[]⟩) ∧ ∀ i, W0.frozen? ⟨(w.heap.size + 1), i, none⟩ = false := by rw [hW0]; exact ⟨below_two w _ _, two_boxes w _ _ _ _ _ _ _⟩
  have z0 : w.heap.size + 1 ≤ W0.heap.size := by omega
  have z1 : (w.heap.size + 1) + 1 ≤ W0.heap.size := by omega
  rw [← hW0]
  have HB := Lib.hid hB
  have F1 := Lib.hid FL
  clear hW0 hB hz FL
  (with_reducible refine (D1.out _).mono ?_)
  rintro e V1 ⟨rfl, hb⟩
  replace F1 := Lib.hid (frozen_keep F1.out hb (by omega))
  replace C0 := C0.keep hb (by omega)
  replace z0 : w.heap.size + 1 ≤ V1.heap.size := by have := hb.size; omega
  replace C1 := C1.keep hb (by omega)
  replace z1 : (w.heap.size + 1) + 1 ≤ V1.heap.size := by have := hb.size; omega
  replace HB := Lib.hid (HB.out.trans (hb.mono HB.out.size))
  clear hb
  have o00 := C0.1
  have o10 := C1.1
  have o01 := C0.2.1
  have o02 := C0.2.2
  have o11 := C1.2.1
  have o12 := C1.2.2
  obtain ⟨r0, r1, r2⟩ := C1
  have z0 := F1.out
  obtain ⟨e0, e1, e2⟩ := res_cells r0 r1 r2 (.bool false) (.string ⟨#[]⟩) (.string ⟨#[]⟩)
  go_wp2
  exact bodyPost_ret (v := .tuple #[.agg #[.bool false, .string ⟨#[]⟩, .string ⟨#[]⟩], .int .i64 ec]) (by simp [results, Try.results6, go_sem, e0, e1, e2]) rfl ⟨rfl, res_below HB.out (by omega) _ _ _⟩

set_option maxHeartbeats 4000000 in
set_option maxRecDepth 100000 in
theorem rp_lo (an : Bool) (ai af : ByteArray) (mode most : Int) (w : World) (H1 : (∀ wx : World, Calls Try.prog 17 #[(.agg #[.bool an, .string ai, .string af]), .int .i64 mode] wx fun e w' => e = .returned (.int .i64 0) ∧ Below wx.heap.size wx w')) (h1 : most < 0) :
    Calls Try.prog 6 #[(.agg #[.bool an, .string ai, .string af]), .int .i64 mode, .int .i64 most] w fun e w' => e = .returned (.tuple #[.agg #[.bool false, .string ⟨#[]⟩, .string ⟨#[]⟩], .int .i64 1]) ∧ Below w.heap.size w w' := by
  have D1 := Lib.hid H1
  clear H1
  have q0 : ((0 : Int) != 0) = false := by decide
  have q1 : decide (most < 0) = true := decide_eq_true h1
  go_enter Try.func6, Try.ntmps6
  go_wp2_with fail
  obtain ⟨W0, hW0⟩ : ∃ W0, W0 = ((w.alloc (.cells #[.bool an, .string ai, .string af] 23)).alloc (.cells #[.bool false, .string ⟨#[]⟩, .string ⟨#[]⟩] 23)) := ⟨_, rfl⟩
  obtain ⟨hB, hz, C0, C1, FL⟩ : Below w.heap.size w W0 ∧ w.heap.size + 2 ≤ W0.heap.size ∧ Cells3 W0 w.heap.size (.bool an) (.string ai) (.string af) ∧ Cells3 W0 (w.heap.size + 1) (.bool false) (.string ⟨#[]⟩) (.string ⟨#[]⟩) ∧ ∀ i, W0.frozen? ⟨(w.heap.size + 1), i, none⟩ = false := by rw [hW0]; exact ⟨below_two w _ _, two_boxes w _ _ _ _ _ _ _⟩
  have z0 : w.heap.size + 1 ≤ W0.heap.size := by omega
  have z1 : (w.heap.size + 1) + 1 ≤ W0.heap.size := by omega
  rw [← hW0]
  have HB := Lib.hid hB
  have F1 := Lib.hid FL
  clear hW0 hB hz FL
  (with_reducible refine (D1.out _).mono ?_)
  rintro e V1 ⟨rfl, hb⟩
  replace F1 := Lib.hid (frozen_keep F1.out hb (by omega))
  replace C0 := C0.keep hb (by omega)
  replace z0 : w.heap.size + 1 ≤ V1.heap.size := by have := hb.size; omega
  replace C1 := C1.keep hb (by omega)
  replace z1 : (w.heap.size + 1) + 1 ≤ V1.heap.size := by have := hb.size; omega
  replace HB := Lib.hid (HB.out.trans (hb.mono HB.out.size))
  clear hb
  have o00 := C0.1
  have o10 := C1.1
  have o01 := C0.2.1
  have o02 := C0.2.2
  have o11 := C1.2.1
  have o12 := C1.2.2
  obtain ⟨r0, r1, r2⟩ := C1
  have z0 := F1.out
  obtain ⟨e0, e1, e2⟩ := res_cells r0 r1 r2 (.bool false) (.string ⟨#[]⟩) (.string ⟨#[]⟩)
  go_wp2
  exact bodyPost_ret (v := .tuple #[.agg #[.bool false, .string ⟨#[]⟩, .string ⟨#[]⟩], .int .i64 1]) (by simp [results, Try.results6, go_sem, e0, e1, e2]) rfl ⟨rfl, res_below HB.out (by omega) _ _ _⟩

set_option maxHeartbeats 4000000 in
set_option maxRecDepth 100000 in
theorem rp_hi (an : Bool) (ai af : ByteArray) (mode most : Int) (w : World) (H1 : (∀ wx : World, Calls Try.prog 17 #[(.agg #[.bool an, .string ai, .string af]), .int .i64 mode] wx fun e w' => e = .returned (.int .i64 0) ∧ Below wx.heap.size wx w')) (h1 : ¬ most < 0) (h2 : 40 < most) :
    Calls Try.prog 6 #[(.agg #[.bool an, .string ai, .string af]), .int .i64 mode, .int .i64 most] w fun e w' => e = .returned (.tuple #[.agg #[.bool false, .string ⟨#[]⟩, .string ⟨#[]⟩], .int .i64 1]) ∧ Below w.heap.size w w' := by
  have D1 := Lib.hid H1
  clear H1
  have q0 : ((0 : Int) != 0) = false := by decide
  have q1 : decide (most < 0) = false := decide_eq_false h1
  have q2 : decide (40 < most) = true := decide_eq_true h2
  go_enter Try.func6, Try.ntmps6
  go_wp2_with fail
  obtain ⟨W0, hW0⟩ : ∃ W0, W0 = ((w.alloc (.cells #[.bool an, .string ai, .string af] 23)).alloc (.cells #[.bool false, .string ⟨#[]⟩, .string ⟨#[]⟩] 23)) := ⟨_, rfl⟩
  obtain ⟨hB, hz, C0, C1, FL⟩ : Below w.heap.size w W0 ∧ w.heap.size + 2 ≤ W0.heap.size ∧ Cells3 W0 w.heap.size (.bool an) (.string ai) (.string af) ∧ Cells3 W0 (w.heap.size + 1) (.bool false) (.string ⟨#[]⟩) (.string ⟨#[]⟩) ∧ ∀ i, W0.frozen? ⟨(w.heap.size + 1), i, none⟩ = false := by rw [hW0]; exact ⟨below_two w _ _, two_boxes w _ _ _ _ _ _ _⟩
  have z0 : w.heap.size + 1 ≤ W0.heap.size := by omega
  have z1 : (w.heap.size + 1) + 1 ≤ W0.heap.size := by omega
  rw [← hW0]
  have HB := Lib.hid hB
  have F1 := Lib.hid FL
  clear hW0 hB hz FL
  (with_reducible refine (D1.out _).mono ?_)
  rintro e V1 ⟨rfl, hb⟩
  replace F1 := Lib.hid (frozen_keep F1.out hb (by omega))
  replace C0 := C0.keep hb (by omega)
  replace z0 : w.heap.size + 1 ≤ V1.heap.size := by have := hb.size; omega
  replace C1 := C1.keep hb (by omega)
  replace z1 : (w.heap.size + 1) + 1 ≤ V1.heap.size := by have := hb.size; omega
  replace HB := Lib.hid (HB.out.trans (hb.mono HB.out.size))
  clear hb
  have o00 := C0.1
  have o10 := C1.1
  have o01 := C0.2.1
  have o02 := C0.2.2
  have o11 := C1.2.1
  have o12 := C1.2.2
  obtain ⟨r0, r1, r2⟩ := C1
  have z0 := F1.out
  obtain ⟨e0, e1, e2⟩ := res_cells r0 r1 r2 (.bool false) (.string ⟨#[]⟩) (.string ⟨#[]⟩)
  go_wp2
  exact bodyPost_ret (v := .tuple #[.agg #[.bool false, .string ⟨#[]⟩, .string ⟨#[]⟩], .int .i64 1]) (by simp [results, Try.results6, go_sem, e0, e1, e2]) rfl ⟨rfl, res_below HB.out (by omega) _ _ _⟩

set_option maxHeartbeats 4000000 in
set_option maxRecDepth 100000 in
theorem rp_same (an : Bool) (ai af : ByteArray) (mode most : Int) (w : World) (H1 : (∀ wx : World, Calls Try.prog 17 #[(.agg #[.bool an, .string ai, .string af]), .int .i64 mode] wx fun e w' => e = .returned (.int .i64 0) ∧ Below wx.heap.size wx w')) (h1 : ¬ most < 0) (h2 : ¬ 40 < most) (h3 : (af.size : Int) ≤ most) :
    Calls Try.prog 6 #[(.agg #[.bool an, .string ai, .string af]), .int .i64 mode, .int .i64 most] w fun e w' => e = .returned (.tuple #[(.agg #[.bool an, .string ai, .string af]), .int .i64 0]) ∧ Below w.heap.size w w' := by
  have D1 := Lib.hid H1
  clear H1
  have q0 : ((0 : Int) != 0) = false := by decide
  have q1 : decide (most < 0) = false := decide_eq_false h1
  have q2 : decide (40 < most) = false := decide_eq_false h2
  have q3 : decide ((af.size : Int) ≤ most) = true := decide_eq_true h3
  go_enter Try.func6, Try.ntmps6
  go_wp2_with fail
  obtain ⟨W0, hW0⟩ : ∃ W0, W0 = ((w.alloc (.cells #[.bool an, .string ai, .string af] 23)).alloc (.cells #[.bool false, .string ⟨#[]⟩, .string ⟨#[]⟩] 23)) := ⟨_, rfl⟩
  obtain ⟨hB, hz, C0, C1, FL⟩ : Below w.heap.size w W0 ∧ w.heap.size + 2 ≤ W0.heap.size ∧ Cells3 W0 w.heap.size (.bool an) (.string ai) (.string af) ∧ Cells3 W0 (w.heap.size + 1) (.bool false) (.string ⟨#[]⟩) (.string ⟨#[]⟩) ∧ ∀ i, W0.frozen? ⟨(w.heap.size + 1), i, none⟩ = false := by rw [hW0]; exact ⟨below_two w _ _, two_boxes w _ _ _ _ _ _ _⟩
  have z0 : w.heap.size + 1 ≤ W0.heap.size := by omega
  have z1 : (w.heap.size + 1) + 1 ≤ W0.heap.size := by omega
  rw [← hW0]
  have HB := Lib.hid hB
  have F1 := Lib.hid FL
  clear hW0 hB hz FL
  (with_reducible refine (D1.out _).mono ?_)
  rintro e V1 ⟨rfl, hb⟩
  replace F1 := Lib.hid (frozen_keep F1.out hb (by omega))
  replace C0 := C0.keep hb (by omega)
  replace z0 : w.heap.size + 1 ≤ V1.heap.size := by have := hb.size; omega
  replace C1 := C1.keep hb (by omega)
  replace z1 : (w.heap.size + 1) + 1 ≤ V1.heap.size := by have := hb.size; omega
  replace HB := Lib.hid (HB.out.trans (hb.mono HB.out.size))
  clear hb
  have o00 := C0.1
  have o10 := C1.1
  have o01 := C0.2.1
  have o02 := C0.2.2
  have o11 := C1.2.1
  have o12 := C1.2.2
  obtain ⟨r0, r1, r2⟩ := C1
  have z0 := F1.out
  obtain ⟨e0, e1, e2⟩ := res_cells r0 r1 r2 (.bool an) (.string ai) (.string af)
  go_wp2
  exact bodyPost_ret (v := .tuple #[.agg #[.bool an, .string ai, .string af], .int .i64 0]) (by simp [results, Try.results6, go_sem, e0, e1, e2]) rfl ⟨rfl, res_below HB.out (by omega) _ _ _⟩

set_option maxHeartbeats 4000000 in
set_option maxRecDepth 100000 in
theorem rp_err (an : Bool) (ai af : ByteArray) (mode most : Int) (NN QQ : ByteArray) (w : World) (H1 : (∀ wx : World, Calls Try.prog 17 #[(.agg #[.bool an, .string ai, .string af]), .int .i64 mode] wx fun e w' => e = .returned (.int .i64 0) ∧ Below wx.heap.size wx w')) (H2 : (∀ (wx : World) {nI : Int}, nI = (af.size : Int) - most → Calls Try.prog 19 #[.int .i64 nI] wx fun r w' => r = .returned (.string NN) ∧ Below wx.heap.size wx w')) (H3 : (∀ (wx : World) {X Y : ByteArray}, X = ai ++ af → Y = ⟨#[49]⟩ ++ NN → Calls Try.prog 18 #[.int .i64 mode, .bool an, .string X, .string Y] wx fun r w' => r = .returned (.tuple #[.string QQ, .int .i64 31]) ∧ Below wx.heap.size wx w')) (h1 : ¬ most < 0) (h2 : ¬ 40 < most) (h3 : ¬ (af.size : Int) ≤ most) (h4 : ai.size + af.size ≤ 1000) (h5 : NN.size ≤ 1000) :
    Calls Try.prog 6 #[(.agg #[.bool an, .string ai, .string af]), .int .i64 mode, .int .i64 most] w fun e w' => e = .returned (.tuple #[.agg #[.bool false, .string ⟨#[]⟩, .string ⟨#[]⟩], .int .i64 31]) ∧ Below w.heap.size w w' := by
  have D1 := Lib.hid H1
  have D2 := Lib.hid H2
  have D3 := Lib.hid H3
  clear H1 H2 H3
  have q0 : ((0 : Int) != 0) = false := by decide
  have q1 : decide (most < 0) = false := decide_eq_false h1
  have q2 : decide (40 < most) = false := decide_eq_false h2
  have q3 : decide ((af.size : Int) ≤ most) = false := decide_eq_false h3
  have wz : IntKind.i64.wrap ((af.size : Int) - most) = (af.size : Int) - most := IntWalk.i64_in _ (by omega)
  have g1 : ¬ 9223372036854775807 < ai.size + af.size := by omega
  have g2 : ¬ 9223372036854775807 < 1 + NN.size := by omega
  have q31 : ((31 : Int) != 0) = true := by decide
  go_enter Try.func6, Try.ntmps6
  go_wp2_with fail
  obtain ⟨W0, hW0⟩ : ∃ W0, W0 = ((w.alloc (.cells #[.bool an, .string ai, .string af] 23)).alloc (.cells #[.bool false, .string ⟨#[]⟩, .string ⟨#[]⟩] 23)) := ⟨_, rfl⟩
  obtain ⟨hB, hz, C0, C1, FL⟩ : Below w.heap.size w W0 ∧ w.heap.size + 2 ≤ W0.heap.size ∧ Cells3 W0 w.heap.size (.bool an) (.string ai) (.string af) ∧ Cells3 W0 (w.heap.size + 1) (.bool false) (.string ⟨#[]⟩) (.string ⟨#[]⟩) ∧ ∀ i, W0.frozen? ⟨(w.heap.size + 1), i, none⟩ = false := by rw [hW0]; exact ⟨below_two w _ _, two_boxes w _ _ _ _ _ _ _⟩
  have z0 : w.heap.size + 1 ≤ W0.heap.size := by omega
  have z1 : (w.heap.size + 1) + 1 ≤ W0.heap.size := by omega
  rw [← hW0]
  have HB := Lib.hid hB
  have F1 := Lib.hid FL
  clear hW0 hB hz FL
  (with_reducible refine (D1.out _).mono ?_)
  rintro e V1 ⟨rfl, hb⟩
  replace F1 := Lib.hid (frozen_keep F1.out hb (by omega))
  replace C0 := C0.keep hb (by omega)
  replace z0 : w.heap.size + 1 ≤ V1.heap.size := by have := hb.size; omega
  replace C1 := C1.keep hb (by omega)
  replace z1 : (w.heap.size + 1) + 1 ≤ V1.heap.size := by have := hb.size; omega
  replace HB := Lib.hid (HB.out.trans (hb.mono HB.out.size))
  clear hb
  have o00 := C0.1
  have o10 := C1.1
  have o01 := C0.2.1
  have o02 := C0.2.2
  have o11 := C1.2.1
  have o12 := C1.2.2
  have C0h := Lib.hid C0
  have C1h := Lib.hid C1
  have F1h := Lib.hid F1.out
  clear o10 o11 o12
  go_upto_region 8 with fail
  go_region_held3 (fun w' => (w'.cell? ⟨w.heap.size, 0, none⟩ = some (.bool an) ∧ w'.cell? ⟨w.heap.size, 1, none⟩ = some (.string ai) ∧ w'.cell? ⟨w.heap.size, 2, none⟩ = some (.string af)))
    (first
      | exact ⟨o00, o01, o02⟩
      | (have t := C0h.out.keep hb4 (by omega); exact ⟨t.1, t.2.1, t.2.2⟩)
      | (have t := C0h.out.keep (undrew hbA) (by omega); exact ⟨t.1, t.2.1, t.2.2⟩)
      | go_keep)
    (first
      | (go_at_call 19; (with_reducible refine (D2.out _ ?_).mono ?_); (focus rfl); rintro e wA ⟨rfl, hbA⟩)
      | (go_at_call 18; (with_reducible refine (D3.out _ ?_ ?_).mono ?_); (focus rfl); (focus rfl); rintro e wB ⟨rfl, hbB⟩
         have hb4 : Below V1.heap.size V1 wB := (undrew hbA).trans (hbB.mono (undrew hbA).size)))
  have C0 := C0h.out.keep hb4 (by omega)
  have C1 := C1h.out.keep hb4 (by omega)
  have F1 := Lib.hid (frozen_keep F1h.out hb4 (by omega))
  replace HB := Lib.hid (HB.out.trans (hb4.mono HB.out.size))
  have z0 : w.heap.size + 1 ≤ wB.heap.size := by have := hb4.size; omega
  have z1 : w.heap.size + 1 + 1 ≤ wB.heap.size := by have := hb4.size; omega
  clear hb4 hbA hbB o00 o01 o02
  have o00 := C0.1
  have o10 := C1.1
  have o01 := C0.2.1
  have o02 := C0.2.2
  have o11 := C1.2.1
  have o12 := C1.2.2
  clear z0
  obtain ⟨r0, r1, r2⟩ := C1
  have z0 := F1.out
  obtain ⟨e0, e1, e2⟩ := res_cells r0 r1 r2 (.bool false) (.string ⟨#[]⟩) (.string ⟨#[]⟩)
  go_wp2
  exact bodyPost_ret (v := .tuple #[.agg #[.bool false, .string ⟨#[]⟩, .string ⟨#[]⟩], .int .i64 31]) (by simp [results, Try.results6, go_sem, e0, e1, e2]) rfl ⟨rfl, res_below HB.out (by omega) _ _ _⟩

set_option maxHeartbeats 4000000 in
set_option maxRecDepth 100000 in
theorem rp_ok (an : Bool) (ai af : ByteArray) (mode most : Int) (NN QQ : ByteArray) (yn : Bool) (yi yf : ByteArray) (w : World) (H1 : (∀ wx : World, Calls Try.prog 17 #[(.agg #[.bool an, .string ai, .string af]), .int .i64 mode] wx fun e w' => e = .returned (.int .i64 0) ∧ Below wx.heap.size wx w')) (H2 : (∀ (wx : World) {nI : Int}, nI = (af.size : Int) - most → Calls Try.prog 19 #[.int .i64 nI] wx fun r w' => r = .returned (.string NN) ∧ Below wx.heap.size wx w')) (H3 : (∀ (wx : World) {X Y : ByteArray}, X = ai ++ af → Y = ⟨#[49]⟩ ++ NN → Calls Try.prog 18 #[.int .i64 mode, .bool an, .string X, .string Y] wx fun r w' => r = .returned (.tuple #[.string QQ, .int .i64 0]) ∧ Below wx.heap.size wx w')) (H4 : (∀ wx : World, Calls Try.prog 20 #[.bool an, .string QQ, .int .i64 most] wx fun e w' => e = .returned (.agg #[.bool yn, .string yi, .string yf]) ∧ Below wx.heap.size wx w')) (h1 : ¬ most < 0) (h2 : ¬ 40 < most) (h3 : ¬ (af.size : Int) ≤ most) (h4 : ai.size + af.size ≤ 1000) (h5 : NN.size ≤ 1000) :
    Calls Try.prog 6 #[(.agg #[.bool an, .string ai, .string af]), .int .i64 mode, .int .i64 most] w fun e w' => e = .returned (.tuple #[(.agg #[.bool yn, .string yi, .string yf]), .int .i64 0]) ∧ Below w.heap.size w w' := by
  have D1 := Lib.hid H1
  have D2 := Lib.hid H2
  have D3 := Lib.hid H3
  have D4 := Lib.hid H4
  clear H1 H2 H3 H4
  have q0 : ((0 : Int) != 0) = false := by decide
  have q1 : decide (most < 0) = false := decide_eq_false h1
  have q2 : decide (40 < most) = false := decide_eq_false h2
  have q3 : decide ((af.size : Int) ≤ most) = false := decide_eq_false h3
  have wz : IntKind.i64.wrap ((af.size : Int) - most) = (af.size : Int) - most := IntWalk.i64_in _ (by omega)
  have g1 : ¬ 9223372036854775807 < ai.size + af.size := by omega
  have g2 : ¬ 9223372036854775807 < 1 + NN.size := by omega
  have q31 : ((31 : Int) != 0) = true := by decide
  go_enter Try.func6, Try.ntmps6
  go_wp2_with fail
  obtain ⟨W0, hW0⟩ : ∃ W0, W0 = ((w.alloc (.cells #[.bool an, .string ai, .string af] 23)).alloc (.cells #[.bool false, .string ⟨#[]⟩, .string ⟨#[]⟩] 23)) := ⟨_, rfl⟩
  obtain ⟨hB, hz, C0, C1, FL⟩ : Below w.heap.size w W0 ∧ w.heap.size + 2 ≤ W0.heap.size ∧ Cells3 W0 w.heap.size (.bool an) (.string ai) (.string af) ∧ Cells3 W0 (w.heap.size + 1) (.bool false) (.string ⟨#[]⟩) (.string ⟨#[]⟩) ∧ ∀ i, W0.frozen? ⟨(w.heap.size + 1), i, none⟩ = false := by rw [hW0]; exact ⟨below_two w _ _, two_boxes w _ _ _ _ _ _ _⟩
  have z0 : w.heap.size + 1 ≤ W0.heap.size := by omega
  have z1 : (w.heap.size + 1) + 1 ≤ W0.heap.size := by omega
  rw [← hW0]
  have HB := Lib.hid hB
  have F1 := Lib.hid FL
  clear hW0 hB hz FL
  (with_reducible refine (D1.out _).mono ?_)
  rintro e V1 ⟨rfl, hb⟩
  replace F1 := Lib.hid (frozen_keep F1.out hb (by omega))
  replace C0 := C0.keep hb (by omega)
  replace z0 : w.heap.size + 1 ≤ V1.heap.size := by have := hb.size; omega
  replace C1 := C1.keep hb (by omega)
  replace z1 : (w.heap.size + 1) + 1 ≤ V1.heap.size := by have := hb.size; omega
  replace HB := Lib.hid (HB.out.trans (hb.mono HB.out.size))
  clear hb
  have o00 := C0.1
  have o10 := C1.1
  have o01 := C0.2.1
  have o02 := C0.2.2
  have o11 := C1.2.1
  have o12 := C1.2.2
  have C0h := Lib.hid C0
  have C1h := Lib.hid C1
  have F1h := Lib.hid F1.out
  clear o10 o11 o12
  go_upto_region 8 with fail
  go_region_held3 (fun w' => (w'.cell? ⟨w.heap.size, 0, none⟩ = some (.bool an) ∧ w'.cell? ⟨w.heap.size, 1, none⟩ = some (.string ai) ∧ w'.cell? ⟨w.heap.size, 2, none⟩ = some (.string af)))
    (first
      | exact ⟨o00, o01, o02⟩
      | (have t := C0h.out.keep hb4 (by omega); exact ⟨t.1, t.2.1, t.2.2⟩)
      | (have t := C0h.out.keep (undrew hbA) (by omega); exact ⟨t.1, t.2.1, t.2.2⟩)
      | go_keep)
    (first
      | (go_at_call 19; (with_reducible refine (D2.out _ ?_).mono ?_); (focus rfl); rintro e wA ⟨rfl, hbA⟩)
      | (go_at_call 18; (with_reducible refine (D3.out _ ?_ ?_).mono ?_); (focus rfl); (focus rfl); rintro e wB ⟨rfl, hbB⟩
         have hb4 : Below V1.heap.size V1 wB := (undrew hbA).trans (hbB.mono (undrew hbA).size)))
  have C0 := C0h.out.keep hb4 (by omega)
  have C1 := C1h.out.keep hb4 (by omega)
  have F1 := Lib.hid (frozen_keep F1h.out hb4 (by omega))
  replace HB := Lib.hid (HB.out.trans (hb4.mono HB.out.size))
  have z0 : w.heap.size + 1 ≤ wB.heap.size := by have := hb4.size; omega
  have z1 : w.heap.size + 1 + 1 ≤ wB.heap.size := by have := hb4.size; omega
  clear hb4 hbA hbB o00 o01 o02
  have o00 := C0.1
  have o10 := C1.1
  have o01 := C0.2.1
  have o02 := C0.2.2
  have o11 := C1.2.1
  have o12 := C1.2.2
  go_wp2_with fail
  clear o00 o01 o02 o10 o11 o12
  (with_reducible refine (D4.out _).mono ?_)
  rintro e V11 ⟨rfl, hb⟩
  replace F1 := Lib.hid (frozen_keep F1.out hb (by omega))
  replace C0 := C0.keep hb (by omega)
  replace z0 : w.heap.size + 1 ≤ V11.heap.size := by have := hb.size; omega
  replace C1 := C1.keep hb (by omega)
  replace z1 : (w.heap.size + 1) + 1 ≤ V11.heap.size := by have := hb.size; omega
  replace HB := Lib.hid (HB.out.trans (hb.mono HB.out.size))
  clear hb
  have o00 := C0.1
  have o10 := C1.1
  have o01 := C0.2.1
  have o02 := C0.2.2
  have o11 := C1.2.1
  have o12 := C1.2.2
  clear z0
  obtain ⟨r0, r1, r2⟩ := C1
  have z0 := F1.out
  obtain ⟨e0, e1, e2⟩ := res_cells r0 r1 r2 (.bool yn) (.string yi) (.string yf)
  go_wp2
  exact bodyPost_ret (v := .tuple #[.agg #[.bool yn, .string yi, .string yf], .int .i64 0]) (by simp [results, Try.results6, go_sem, e0, e1, e2]) rfl ⟨rfl, res_below HB.out (by omega) _ _ _⟩
end Go.Proofs.Ytpbljcjghjbjdaa
