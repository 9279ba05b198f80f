/- Step of both sides, way by way. -/
import Derived.Test.YtmaljkjcibdbgaaRoPl
import Derived.Test.YtmaljkjcibdbgaaRrPl
import Derived.Test.YtmaljkjcibdbgaaRrMul
import Derived.Deep.DeepCutAuto
namespace Go.Proofs.Ytmaljkjcibdbgaa
open Go.RowKit
attribute [local go_sem ↓] Go.wp_at_zero Go.wp_at_succ

set_option maxHeartbeats 4000000 in
set_option maxRecDepth 100000 in
theorem ps_bad1 (an bn : Bool) (ai af bi bf : ByteArray) (mode : Int) (ec : Int) (w : World) (H1 : (∀ wx : World, Calls Try.prog 82 #[(.agg #[.bool an, .string ai, .string af]), .int .i64 mode] wx fun e w' => e = .returned (.int .i64 ec) ∧ Below wx.heap.size wx w')) (he : (ec != 0) = true) :
    Calls Try.prog 39 #[(.agg #[.bool an, .string ai, .string af]), .int .i64 mode, (.agg #[.bool bn, .string bi, .string bf])] w fun e w' => e = .returned (.tuple #[.agg #[.bool false, .string ⟨#[]⟩, .string ⟨#[]⟩], .int .i64 ec]) ∧ Below w.heap.size w w' := by
  have D1 := Lib.hid H1
  clear H1
  go_enter Try.func39, Try.ntmps39
  go_wp2_with fail
  obtain ⟨W0, hW0⟩ : ∃ W0, W0 = (((w.alloc (.cells #[.bool an, .string ai, .string af] 23)).alloc (.cells #[.bool bn, .string bi, .string bf] 23)).alloc (.cells #[.bool false, .string ⟨#[]⟩, .string ⟨#[]⟩] 23)) := ⟨_, rfl⟩
  obtain ⟨hB, hz, C0, C1, C2, FL⟩ : Below w.heap.size w W0 ∧ w.heap.size + 3 ≤ W0.heap.size ∧ Cells3 W0 w.heap.size (.bool an) (.string ai) (.string af) ∧ Cells3 W0 (w.heap.size + 1) (.bool bn) (.string bi) (.string bf) ∧ Cells3 W0 (w.heap.size + 2) (.bool false) (.string ⟨#[]⟩) (.string ⟨#[]⟩) ∧ ∀ i, W0.frozen? ⟨(w.heap.size + 2), i, none⟩ = false := by rw [hW0]; exact ⟨below_three w _ _ _, three_boxes w _ _ _ _ _ _ _ _ _ _⟩
  have z0 : w.heap.size + 1 ≤ W0.heap.size := by omega
  have z1 : (w.heap.size + 1) + 1 ≤ W0.heap.size := by omega
  have z2 : (w.heap.size + 2) + 1 ≤ W0.heap.size := by omega
  rw [← hW0]
  have HB := Lib.hid hB
  have F2 := Lib.hid FL
  clear hW0 hB hz FL
  (with_reducible refine (D1.out _).mono ?_)
  rintro e V1 ⟨rfl, hb⟩
  replace F2 := Lib.hid (frozen_keep F2.out hb (by omega))
  replace C0 := C0.keep hb (by omega)
  replace z0 : w.heap.size + 1 ≤ V1.heap.size := by have := hb.size; omega
  replace C1 := C1.keep hb (by omega)
  replace z1 : (w.heap.size + 1) + 1 ≤ V1.heap.size := by have := hb.size; omega
  replace C2 := C2.keep hb (by omega)
  replace z2 : (w.heap.size + 2) + 1 ≤ V1.heap.size := by have := hb.size; omega
  replace HB := Lib.hid (HB.out.trans (hb.mono HB.out.size))
  clear hb
  have o00 := C0.1
  have o10 := C1.1
  have o20 := C2.1
  have o01 := C0.2.1
  have o02 := C0.2.2
  have o11 := C1.2.1
  have o12 := C1.2.2
  have o21 := C2.2.1
  have o22 := C2.2.2
  obtain ⟨r0, r1, r2⟩ := C2
  have z0 := F2.out
  obtain ⟨e0, e1, e2⟩ := res_cells r0 r1 r2 (.bool false) (.string ⟨#[]⟩) (.string ⟨#[]⟩)
  go_wp2
  exact bodyPost_ret (v := .tuple #[.agg #[.bool false, .string ⟨#[]⟩, .string ⟨#[]⟩], .int .i64 ec]) (by simp [results, Try.results39, go_sem, e0, e1, e2]) rfl ⟨rfl, res_below HB.out (by omega) _ _ _⟩

set_option maxHeartbeats 4000000 in
set_option maxRecDepth 100000 in
theorem ps_bad2 (an bn : Bool) (ai af bi bf : ByteArray) (mode : Int) (ec : Int) (w : World) (H1 : (∀ wx : World, Calls Try.prog 82 #[(.agg #[.bool an, .string ai, .string af]), .int .i64 mode] wx fun e w' => e = .returned (.int .i64 0) ∧ Below wx.heap.size wx w')) (H2 : (∀ wx : World, Calls Try.prog 68 #[(.agg #[.bool bn, .string bi, .string bf])] wx fun e w' => e = .returned (.int .i64 ec) ∧ Below wx.heap.size wx w')) (he : (ec != 0) = true) :
    Calls Try.prog 39 #[(.agg #[.bool an, .string ai, .string af]), .int .i64 mode, (.agg #[.bool bn, .string bi, .string bf])] w fun e w' => e = .returned (.tuple #[.agg #[.bool false, .string ⟨#[]⟩, .string ⟨#[]⟩], .int .i64 ec]) ∧ Below w.heap.size w w' := by
  have D1 := Lib.hid H1
  have D2 := Lib.hid H2
  clear H1 H2
  have q0 : ((0 : Int) != 0) = false := by decide
  go_enter Try.func39, Try.ntmps39
  go_wp2_with fail
  obtain ⟨W0, hW0⟩ : ∃ W0, W0 = (((w.alloc (.cells #[.bool an, .string ai, .string af] 23)).alloc (.cells #[.bool bn, .string bi, .string bf] 23)).alloc (.cells #[.bool false, .string ⟨#[]⟩, .string ⟨#[]⟩] 23)) := ⟨_, rfl⟩
  obtain ⟨hB, hz, C0, C1, C2, FL⟩ : Below w.heap.size w W0 ∧ w.heap.size + 3 ≤ W0.heap.size ∧ Cells3 W0 w.heap.size (.bool an) (.string ai) (.string af) ∧ Cells3 W0 (w.heap.size + 1) (.bool bn) (.string bi) (.string bf) ∧ Cells3 W0 (w.heap.size + 2) (.bool false) (.string ⟨#[]⟩) (.string ⟨#[]⟩) ∧ ∀ i, W0.frozen? ⟨(w.heap.size + 2), i, none⟩ = false := by rw [hW0]; exact ⟨below_three w _ _ _, three_boxes w _ _ _ _ _ _ _ _ _ _⟩
  have z0 : w.heap.size + 1 ≤ W0.heap.size := by omega
  have z1 : (w.heap.size + 1) + 1 ≤ W0.heap.size := by omega
  have z2 : (w.heap.size + 2) + 1 ≤ W0.heap.size := by omega
  rw [← hW0]
  have HB := Lib.hid hB
  have F2 := Lib.hid FL
  clear hW0 hB hz FL
  (with_reducible refine (D1.out _).mono ?_)
  rintro e V1 ⟨rfl, hb⟩
  replace F2 := Lib.hid (frozen_keep F2.out hb (by omega))
  replace C0 := C0.keep hb (by omega)
  replace z0 : w.heap.size + 1 ≤ V1.heap.size := by have := hb.size; omega
  replace C1 := C1.keep hb (by omega)
  replace z1 : (w.heap.size + 1) + 1 ≤ V1.heap.size := by have := hb.size; omega
  replace C2 := C2.keep hb (by omega)
  replace z2 : (w.heap.size + 2) + 1 ≤ V1.heap.size := by have := hb.size; omega
  replace HB := Lib.hid (HB.out.trans (hb.mono HB.out.size))
  clear hb
  have o00 := C0.1
  have o10 := C1.1
  have o20 := C2.1
  have o01 := C0.2.1
  have o02 := C0.2.2
  have o11 := C1.2.1
  have o12 := C1.2.2
  have o21 := C2.2.1
  have o22 := C2.2.2
  go_wp2_with fail
  clear o00 o01 o02 o10 o11 o12 o20 o21 o22
  (with_reducible refine (D2.out _).mono ?_)
  rintro e V2 ⟨rfl, hb⟩
  replace F2 := Lib.hid (frozen_keep F2.out hb (by omega))
  replace C0 := C0.keep hb (by omega)
  replace z0 : w.heap.size + 1 ≤ V2.heap.size := by have := hb.size; omega
  replace C1 := C1.keep hb (by omega)
  replace z1 : (w.heap.size + 1) + 1 ≤ V2.heap.size := by have := hb.size; omega
  replace C2 := C2.keep hb (by omega)
  replace z2 : (w.heap.size + 2) + 1 ≤ V2.heap.size := by have := hb.size; omega
  replace HB := Lib.hid (HB.out.trans (hb.mono HB.out.size))
  clear hb
  have o00 := C0.1
  have o10 := C1.1
  have o20 := C2.1
  have o01 := C0.2.1
  have o02 := C0.2.2
  have o11 := C1.2.1
  have o12 := C1.2.2
  have o21 := C2.2.1
  have o22 := C2.2.2
  obtain ⟨r0, r1, r2⟩ := C2
  have z0 := F2.out
  obtain ⟨e0, e1, e2⟩ := res_cells r0 r1 r2 (.bool false) (.string ⟨#[]⟩) (.string ⟨#[]⟩)
  go_wp2
  exact bodyPost_ret (v := .tuple #[.agg #[.bool false, .string ⟨#[]⟩, .string ⟨#[]⟩], .int .i64 ec]) (by simp [results, Try.results39, go_sem, e0, e1, e2]) rfl ⟨rfl, res_below HB.out (by omega) _ _ _⟩

set_option maxHeartbeats 4000000 in
set_option maxRecDepth 100000 in
theorem ps_arg (an bn : Bool) (ai af bi bf : ByteArray) (mode : Int) (sg : Int) (w : World) (H1 : (∀ wx : World, Calls Try.prog 82 #[(.agg #[.bool an, .string ai, .string af]), .int .i64 mode] wx fun e w' => e = .returned (.int .i64 0) ∧ Below wx.heap.size wx w')) (H2 : (∀ wx : World, Calls Try.prog 68 #[(.agg #[.bool bn, .string bi, .string bf])] wx fun e w' => e = .returned (.int .i64 0) ∧ Below wx.heap.size wx w')) (H3 : (∀ wx : World, Calls Try.prog 83 #[(.agg #[.bool bn, .string bi, .string bf])] wx fun e w' => e = .returned (.int .i64 sg) ∧ Below wx.heap.size wx w')) (hs : sg ≤ 0) :
    Calls Try.prog 39 #[(.agg #[.bool an, .string ai, .string af]), .int .i64 mode, (.agg #[.bool bn, .string bi, .string bf])] w fun e w' => e = .returned (.tuple #[.agg #[.bool false, .string ⟨#[]⟩, .string ⟨#[]⟩], .int .i64 1]) ∧ Below w.heap.size w w' := by
  have D1 := Lib.hid H1
  have D2 := Lib.hid H2
  have D3 := Lib.hid H3
  clear H1 H2 H3
  have q0 : ((0 : Int) != 0) = false := by decide
  have q1 : decide (sg ≤ 0) = true := decide_eq_true hs
  go_enter Try.func39, Try.ntmps39
  go_wp2_with fail
  obtain ⟨W0, hW0⟩ : ∃ W0, W0 = (((w.alloc (.cells #[.bool an, .string ai, .string af] 23)).alloc (.cells #[.bool bn, .string bi, .string bf] 23)).alloc (.cells #[.bool false, .string ⟨#[]⟩, .string ⟨#[]⟩] 23)) := ⟨_, rfl⟩
  obtain ⟨hB, hz, C0, C1, C2, FL⟩ : Below w.heap.size w W0 ∧ w.heap.size + 3 ≤ W0.heap.size ∧ Cells3 W0 w.heap.size (.bool an) (.string ai) (.string af) ∧ Cells3 W0 (w.heap.size + 1) (.bool bn) (.string bi) (.string bf) ∧ Cells3 W0 (w.heap.size + 2) (.bool false) (.string ⟨#[]⟩) (.string ⟨#[]⟩) ∧ ∀ i, W0.frozen? ⟨(w.heap.size + 2), i, none⟩ = false := by rw [hW0]; exact ⟨below_three w _ _ _, three_boxes w _ _ _ _ _ _ _ _ _ _⟩
  have z0 : w.heap.size + 1 ≤ W0.heap.size := by omega
  have z1 : (w.heap.size + 1) + 1 ≤ W0.heap.size := by omega
  have z2 : (w.heap.size + 2) + 1 ≤ W0.heap.size := by omega
  rw [← hW0]
  have HB := Lib.hid hB
  have F2 := Lib.hid FL
  clear hW0 hB hz FL
  (with_reducible refine (D1.out _).mono ?_)
  rintro e V1 ⟨rfl, hb⟩
  replace F2 := Lib.hid (frozen_keep F2.out hb (by omega))
  replace C0 := C0.keep hb (by omega)
  replace z0 : w.heap.size + 1 ≤ V1.heap.size := by have := hb.size; omega
  replace C1 := C1.keep hb (by omega)
  replace z1 : (w.heap.size + 1) + 1 ≤ V1.heap.size := by have := hb.size; omega
  replace C2 := C2.keep hb (by omega)
  replace z2 : (w.heap.size + 2) + 1 ≤ V1.heap.size := by have := hb.size; omega
  replace HB := Lib.hid (HB.out.trans (hb.mono HB.out.size))
  clear hb
  have o00 := C0.1
  have o10 := C1.1
  have o20 := C2.1
  have o01 := C0.2.1
  have o02 := C0.2.2
  have o11 := C1.2.1
  have o12 := C1.2.2
  have o21 := C2.2.1
  have o22 := C2.2.2
  go_wp2_with fail
  clear o00 o01 o02 o10 o11 o12 o20 o21 o22
  (with_reducible refine (D2.out _).mono ?_)
  rintro e V2 ⟨rfl, hb⟩
  replace F2 := Lib.hid (frozen_keep F2.out hb (by omega))
  replace C0 := C0.keep hb (by omega)
  replace z0 : w.heap.size + 1 ≤ V2.heap.size := by have := hb.size; omega
  replace C1 := C1.keep hb (by omega)
  replace z1 : (w.heap.size + 1) + 1 ≤ V2.heap.size := by have := hb.size; omega
  replace C2 := C2.keep hb (by omega)
  replace z2 : (w.heap.size + 2) + 1 ≤ V2.heap.size := by have := hb.size; omega
  replace HB := Lib.hid (HB.out.trans (hb.mono HB.out.size))
  clear hb
  have o00 := C0.1
  have o10 := C1.1
  have o20 := C2.1
  have o01 := C0.2.1
  have o02 := C0.2.2
  have o11 := C1.2.1
  have o12 := C1.2.2
  have o21 := C2.2.1
  have o22 := C2.2.2
  go_wp2_with fail
  clear o00 o01 o02 o10 o11 o12 o20 o21 o22
  (with_reducible refine (D3.out _).mono ?_)
  rintro e V3 ⟨rfl, hb⟩
  replace F2 := Lib.hid (frozen_keep F2.out hb (by omega))
  replace C0 := C0.keep hb (by omega)
  replace z0 : w.heap.size + 1 ≤ V3.heap.size := by have := hb.size; omega
  replace C1 := C1.keep hb (by omega)
  replace z1 : (w.heap.size + 1) + 1 ≤ V3.heap.size := by have := hb.size; omega
  replace C2 := C2.keep hb (by omega)
  replace z2 : (w.heap.size + 2) + 1 ≤ V3.heap.size := by have := hb.size; omega
  replace HB := Lib.hid (HB.out.trans (hb.mono HB.out.size))
  clear hb
  have o00 := C0.1
  have o10 := C1.1
  have o20 := C2.1
  have o01 := C0.2.1
  have o02 := C0.2.2
  have o11 := C1.2.1
  have o12 := C1.2.2
  have o21 := C2.2.1
  have o22 := C2.2.2
  obtain ⟨r0, r1, r2⟩ := C2
  have z0 := F2.out
  obtain ⟨e0, e1, e2⟩ := res_cells r0 r1 r2 (.bool false) (.string ⟨#[]⟩) (.string ⟨#[]⟩)
  go_wp2
  exact bodyPost_ret (v := .tuple #[.agg #[.bool false, .string ⟨#[]⟩, .string ⟨#[]⟩], .int .i64 1]) (by simp [results, Try.results39, go_sem, e0, e1, e2]) rfl ⟨rfl, res_below HB.out (by omega) _ _ _⟩

set_option maxHeartbeats 4000000 in
set_option maxRecDepth 100000 in
theorem ps_ok (an bn : Bool) (ai af bi bf : ByteArray) (mode : Int) (sg : Int) (yn : Bool) (yi yf : ByteArray) (c : Int) (w : World) (H1 : (∀ wx : World, Calls Try.prog 82 #[(.agg #[.bool an, .string ai, .string af]), .int .i64 mode] wx fun e w' => e = .returned (.int .i64 0) ∧ Below wx.heap.size wx w')) (H2 : (∀ wx : World, Calls Try.prog 68 #[(.agg #[.bool bn, .string bi, .string bf])] wx fun e w' => e = .returned (.int .i64 0) ∧ Below wx.heap.size wx w')) (H3 : (∀ wx : World, Calls Try.prog 83 #[(.agg #[.bool bn, .string bi, .string bf])] wx fun e w' => e = .returned (.int .i64 sg) ∧ Below wx.heap.size wx w')) (H4 : (∀ wx : World, Calls Try.prog 78 #[(.agg #[.bool an, .string ai, .string af]), .int .i64 mode, (.agg #[.bool bn, .string bi, .string bf])] wx fun e w' => e = .returned (.tuple #[(.agg #[.bool yn, .string yi, .string yf]), .int .i64 c]) ∧ Below wx.heap.size wx w')) (hs : ¬ sg ≤ 0) :
    Calls Try.prog 39 #[(.agg #[.bool an, .string ai, .string af]), .int .i64 mode, (.agg #[.bool bn, .string bi, .string bf])] w fun e w' => e = .returned (.tuple #[(.agg #[.bool yn, .string yi, .string yf]), .int .i64 c]) ∧ Below w.heap.size w w' := by
  have D1 := Lib.hid H1
  have D2 := Lib.hid H2
  have D3 := Lib.hid H3
  have D4 := Lib.hid H4
  clear H1 H2 H3 H4
  have q0 : ((0 : Int) != 0) = false := by decide
  have q1 : decide (sg ≤ 0) = false := decide_eq_false (by omega)
  clear hs
  go_enter Try.func39, Try.ntmps39
  go_wp2_with fail
  obtain ⟨W0, hW0⟩ : ∃ W0, W0 = (((w.alloc (.cells #[.bool an, .string ai, .string af] 23)).alloc (.cells #[.bool bn, .string bi, .string bf] 23)).alloc (.cells #[.bool false, .string ⟨#[]⟩, .string ⟨#[]⟩] 23)) := ⟨_, rfl⟩
  obtain ⟨hB, hz, C0, C1, C2, FL⟩ : Below w.heap.size w W0 ∧ w.heap.size + 3 ≤ W0.heap.size ∧ Cells3 W0 w.heap.size (.bool an) (.string ai) (.string af) ∧ Cells3 W0 (w.heap.size + 1) (.bool bn) (.string bi) (.string bf) ∧ Cells3 W0 (w.heap.size + 2) (.bool false) (.string ⟨#[]⟩) (.string ⟨#[]⟩) ∧ ∀ i, W0.frozen? ⟨(w.heap.size + 2), i, none⟩ = false := by rw [hW0]; exact ⟨below_three w _ _ _, three_boxes w _ _ _ _ _ _ _ _ _ _⟩
  have z0 : w.heap.size + 1 ≤ W0.heap.size := by omega
  have z1 : (w.heap.size + 1) + 1 ≤ W0.heap.size := by omega
  have z2 : (w.heap.size + 2) + 1 ≤ W0.heap.size := by omega
  rw [← hW0]
  have HB := Lib.hid hB
  have F2 := Lib.hid FL
  clear hW0 hB hz FL
  (with_reducible refine (D1.out _).mono ?_)
  rintro e V1 ⟨rfl, hb⟩
  replace F2 := Lib.hid (frozen_keep F2.out hb (by omega))
  replace C0 := C0.keep hb (by omega)
  replace z0 : w.heap.size + 1 ≤ V1.heap.size := by have := hb.size; omega
  replace C1 := C1.keep hb (by omega)
  replace z1 : (w.heap.size + 1) + 1 ≤ V1.heap.size := by have := hb.size; omega
  replace C2 := C2.keep hb (by omega)
  replace z2 : (w.heap.size + 2) + 1 ≤ V1.heap.size := by have := hb.size; omega
  replace HB := Lib.hid (HB.out.trans (hb.mono HB.out.size))
  clear hb
  have o00 := C0.1
  have o10 := C1.1
  have o20 := C2.1
  have o01 := C0.2.1
  have o02 := C0.2.2
  have o11 := C1.2.1
  have o12 := C1.2.2
  have o21 := C2.2.1
  have o22 := C2.2.2
  go_wp2_with fail
  clear o00 o01 o02 o10 o11 o12 o20 o21 o22
  (with_reducible refine (D2.out _).mono ?_)
  rintro e V2 ⟨rfl, hb⟩
  replace F2 := Lib.hid (frozen_keep F2.out hb (by omega))
  replace C0 := C0.keep hb (by omega)
  replace z0 : w.heap.size + 1 ≤ V2.heap.size := by have := hb.size; omega
  replace C1 := C1.keep hb (by omega)
  replace z1 : (w.heap.size + 1) + 1 ≤ V2.heap.size := by have := hb.size; omega
  replace C2 := C2.keep hb (by omega)
  replace z2 : (w.heap.size + 2) + 1 ≤ V2.heap.size := by have := hb.size; omega
  replace HB := Lib.hid (HB.out.trans (hb.mono HB.out.size))
  clear hb
  have o00 := C0.1
  have o10 := C1.1
  have o20 := C2.1
  have o01 := C0.2.1
  have o02 := C0.2.2
  have o11 := C1.2.1
  have o12 := C1.2.2
  have o21 := C2.2.1
  have o22 := C2.2.2
  go_wp2_with fail
  clear o00 o01 o02 o10 o11 o12 o20 o21 o22
  (with_reducible refine (D3.out _).mono ?_)
  rintro e V3 ⟨rfl, hb⟩
  replace F2 := Lib.hid (frozen_keep F2.out hb (by omega))
  replace C0 := C0.keep hb (by omega)
  replace z0 : w.heap.size + 1 ≤ V3.heap.size := by have := hb.size; omega
  replace C1 := C1.keep hb (by omega)
  replace z1 : (w.heap.size + 1) + 1 ≤ V3.heap.size := by have := hb.size; omega
  replace C2 := C2.keep hb (by omega)
  replace z2 : (w.heap.size + 2) + 1 ≤ V3.heap.size := by have := hb.size; omega
  replace HB := Lib.hid (HB.out.trans (hb.mono HB.out.size))
  clear hb
  have o00 := C0.1
  have o10 := C1.1
  have o20 := C2.1
  have o01 := C0.2.1
  have o02 := C0.2.2
  have o11 := C1.2.1
  have o12 := C1.2.2
  have o21 := C2.2.1
  have o22 := C2.2.2
  go_wp2_with fail
  clear o00 o01 o02 o10 o11 o12 o20 o21 o22
  (with_reducible refine (D4.out _).mono ?_)
  rintro e V4 ⟨rfl, hb⟩
  replace F2 := Lib.hid (frozen_keep F2.out hb (by omega))
  replace C0 := C0.keep hb (by omega)
  replace z0 : w.heap.size + 1 ≤ V4.heap.size := by have := hb.size; omega
  replace C1 := C1.keep hb (by omega)
  replace z1 : (w.heap.size + 1) + 1 ≤ V4.heap.size := by have := hb.size; omega
  replace C2 := C2.keep hb (by omega)
  replace z2 : (w.heap.size + 2) + 1 ≤ V4.heap.size := by have := hb.size; omega
  replace HB := Lib.hid (HB.out.trans (hb.mono HB.out.size))
  clear hb
  have o00 := C0.1
  have o10 := C1.1
  have o20 := C2.1
  have o01 := C0.2.1
  have o02 := C0.2.2
  have o11 := C1.2.1
  have o12 := C1.2.2
  have o21 := C2.2.1
  have o22 := C2.2.2
  obtain ⟨r0, r1, r2⟩ := C2
  have z0 := F2.out
  obtain ⟨e0, e1, e2⟩ := res_cells r0 r1 r2 (.bool yn) (.string yi) (.string yf)
  go_wp2
  exact bodyPost_ret (v := .tuple #[.agg #[.bool yn, .string yi, .string yf], .int .i64 c]) (by simp [results, Try.results39, go_sem, e0, e1, e2]) rfl ⟨rfl, res_below HB.out (by omega) _ _ _⟩

set_option maxHeartbeats 4000000 in
set_option maxRecDepth 100000 in
theorem rs_bad1 (an bn : Bool) (ai af bi bf : ByteArray) (mode : Int) (ec : Int) (w : World) (H1 : (∀ wx : World, Calls Try.prog 71 #[(.agg #[.bool an, .string ai, .string af]), .int .i64 mode] wx fun e w' => e = .returned (.int .i64 ec) ∧ Below wx.heap.size wx w')) (he : (ec != 0) = true) :
    Calls Try.prog 40 #[(.agg #[.bool an, .string ai, .string af]), .int .i64 mode, (.agg #[.bool bn, .string bi, .string bf])] w fun e w' => e = .returned (.tuple #[.agg #[.bool false, .string ⟨#[]⟩, .string ⟨#[]⟩], .int .i64 ec]) ∧ Below w.heap.size w w' := by
  have D1 := Lib.hid H1
  clear H1
  go_enter Try.func40, Try.ntmps40
  go_wp2_with fail
  obtain ⟨W0, hW0⟩ : ∃ W0, W0 = (((w.alloc (.cells #[.bool an, .string ai, .string af] 23)).alloc (.cells #[.bool bn, .string bi, .string bf] 23)).alloc (.cells #[.bool false, .string ⟨#[]⟩, .string ⟨#[]⟩] 23)) := ⟨_, rfl⟩
  obtain ⟨hB, hz, C0, C1, C2, FL⟩ : Below w.heap.size w W0 ∧ w.heap.size + 3 ≤ W0.heap.size ∧ Cells3 W0 w.heap.size (.bool an) (.string ai) (.string af) ∧ Cells3 W0 (w.heap.size + 1) (.bool bn) (.string bi) (.string bf) ∧ Cells3 W0 (w.heap.size + 2) (.bool false) (.string ⟨#[]⟩) (.string ⟨#[]⟩) ∧ ∀ i, W0.frozen? ⟨(w.heap.size + 2), i, none⟩ = false := by rw [hW0]; exact ⟨below_three w _ _ _, three_boxes w _ _ _ _ _ _ _ _ _ _⟩
  have z0 : w.heap.size + 1 ≤ W0.heap.size := by omega
  have z1 : (w.heap.size + 1) + 1 ≤ W0.heap.size := by omega
  have z2 : (w.heap.size + 2) + 1 ≤ W0.heap.size := by omega
  rw [← hW0]
  have HB := Lib.hid hB
  have F2 := Lib.hid FL
  clear hW0 hB hz FL
  (with_reducible refine (D1.out _).mono ?_)
  rintro e V1 ⟨rfl, hb⟩
  replace F2 := Lib.hid (frozen_keep F2.out hb (by omega))
  replace C0 := C0.keep hb (by omega)
  replace z0 : w.heap.size + 1 ≤ V1.heap.size := by have := hb.size; omega
  replace C1 := C1.keep hb (by omega)
  replace z1 : (w.heap.size + 1) + 1 ≤ V1.heap.size := by have := hb.size; omega
  replace C2 := C2.keep hb (by omega)
  replace z2 : (w.heap.size + 2) + 1 ≤ V1.heap.size := by have := hb.size; omega
  replace HB := Lib.hid (HB.out.trans (hb.mono HB.out.size))
  clear hb
  have o00 := C0.1
  have o10 := C1.1
  have o20 := C2.1
  have o01 := C0.2.1
  have o02 := C0.2.2
  have o11 := C1.2.1
  have o12 := C1.2.2
  have o21 := C2.2.1
  have o22 := C2.2.2
  obtain ⟨r0, r1, r2⟩ := C2
  have z0 := F2.out
  obtain ⟨e0, e1, e2⟩ := res_cells r0 r1 r2 (.bool false) (.string ⟨#[]⟩) (.string ⟨#[]⟩)
  go_wp2
  exact bodyPost_ret (v := .tuple #[.agg #[.bool false, .string ⟨#[]⟩, .string ⟨#[]⟩], .int .i64 ec]) (by simp [results, Try.results40, go_sem, e0, e1, e2]) rfl ⟨rfl, res_below HB.out (by omega) _ _ _⟩

set_option maxHeartbeats 4000000 in
set_option maxRecDepth 100000 in
theorem rs_bad2 (an bn : Bool) (ai af bi bf : ByteArray) (mode : Int) (ec : Int) (w : World) (H1 : (∀ wx : World, Calls Try.prog 71 #[(.agg #[.bool an, .string ai, .string af]), .int .i64 mode] wx fun e w' => e = .returned (.int .i64 0) ∧ Below wx.heap.size wx w')) (H2 : (∀ wx : World, Calls Try.prog 54 #[(.agg #[.bool bn, .string bi, .string bf])] wx fun e w' => e = .returned (.int .i64 ec) ∧ Below wx.heap.size wx w')) (he : (ec != 0) = true) :
    Calls Try.prog 40 #[(.agg #[.bool an, .string ai, .string af]), .int .i64 mode, (.agg #[.bool bn, .string bi, .string bf])] w fun e w' => e = .returned (.tuple #[.agg #[.bool false, .string ⟨#[]⟩, .string ⟨#[]⟩], .int .i64 ec]) ∧ Below w.heap.size w w' := by
  have D1 := Lib.hid H1
  have D2 := Lib.hid H2
  clear H1 H2
  have q0 : ((0 : Int) != 0) = false := by decide
  go_enter Try.func40, Try.ntmps40
  go_wp2_with fail
  obtain ⟨W0, hW0⟩ : ∃ W0, W0 = (((w.alloc (.cells #[.bool an, .string ai, .string af] 23)).alloc (.cells #[.bool bn, .string bi, .string bf] 23)).alloc (.cells #[.bool false, .string ⟨#[]⟩, .string ⟨#[]⟩] 23)) := ⟨_, rfl⟩
  obtain ⟨hB, hz, C0, C1, C2, FL⟩ : Below w.heap.size w W0 ∧ w.heap.size + 3 ≤ W0.heap.size ∧ Cells3 W0 w.heap.size (.bool an) (.string ai) (.string af) ∧ Cells3 W0 (w.heap.size + 1) (.bool bn) (.string bi) (.string bf) ∧ Cells3 W0 (w.heap.size + 2) (.bool false) (.string ⟨#[]⟩) (.string ⟨#[]⟩) ∧ ∀ i, W0.frozen? ⟨(w.heap.size + 2), i, none⟩ = false := by rw [hW0]; exact ⟨below_three w _ _ _, three_boxes w _ _ _ _ _ _ _ _ _ _⟩
  have z0 : w.heap.size + 1 ≤ W0.heap.size := by omega
  have z1 : (w.heap.size + 1) + 1 ≤ W0.heap.size := by omega
  have z2 : (w.heap.size + 2) + 1 ≤ W0.heap.size := by omega
  rw [← hW0]
  have HB := Lib.hid hB
  have F2 := Lib.hid FL
  clear hW0 hB hz FL
  (with_reducible refine (D1.out _).mono ?_)
  rintro e V1 ⟨rfl, hb⟩
  replace F2 := Lib.hid (frozen_keep F2.out hb (by omega))
  replace C0 := C0.keep hb (by omega)
  replace z0 : w.heap.size + 1 ≤ V1.heap.size := by have := hb.size; omega
  replace C1 := C1.keep hb (by omega)
  replace z1 : (w.heap.size + 1) + 1 ≤ V1.heap.size := by have := hb.size; omega
  replace C2 := C2.keep hb (by omega)
  replace z2 : (w.heap.size + 2) + 1 ≤ V1.heap.size := by have := hb.size; omega
  replace HB := Lib.hid (HB.out.trans (hb.mono HB.out.size))
  clear hb
  have o00 := C0.1
  have o10 := C1.1
  have o20 := C2.1
  have o01 := C0.2.1
  have o02 := C0.2.2
  have o11 := C1.2.1
  have o12 := C1.2.2
  have o21 := C2.2.1
  have o22 := C2.2.2
  go_wp2_with fail
  clear o00 o01 o02 o10 o11 o12 o20 o21 o22
  (with_reducible refine (D2.out _).mono ?_)
  rintro e V2 ⟨rfl, hb⟩
  replace F2 := Lib.hid (frozen_keep F2.out hb (by omega))
  replace C0 := C0.keep hb (by omega)
  replace z0 : w.heap.size + 1 ≤ V2.heap.size := by have := hb.size; omega
  replace C1 := C1.keep hb (by omega)
  replace z1 : (w.heap.size + 1) + 1 ≤ V2.heap.size := by have := hb.size; omega
  replace C2 := C2.keep hb (by omega)
  replace z2 : (w.heap.size + 2) + 1 ≤ V2.heap.size := by have := hb.size; omega
  replace HB := Lib.hid (HB.out.trans (hb.mono HB.out.size))
  clear hb
  have o00 := C0.1
  have o10 := C1.1
  have o20 := C2.1
  have o01 := C0.2.1
  have o02 := C0.2.2
  have o11 := C1.2.1
  have o12 := C1.2.2
  have o21 := C2.2.1
  have o22 := C2.2.2
  obtain ⟨r0, r1, r2⟩ := C2
  have z0 := F2.out
  obtain ⟨e0, e1, e2⟩ := res_cells r0 r1 r2 (.bool false) (.string ⟨#[]⟩) (.string ⟨#[]⟩)
  go_wp2
  exact bodyPost_ret (v := .tuple #[.agg #[.bool false, .string ⟨#[]⟩, .string ⟨#[]⟩], .int .i64 ec]) (by simp [results, Try.results40, go_sem, e0, e1, e2]) rfl ⟨rfl, res_below HB.out (by omega) _ _ _⟩

set_option maxHeartbeats 4000000 in
set_option maxRecDepth 100000 in
theorem rs_neg (an : Bool) (ai af bi bf : ByteArray) (mode : Int) (UT : ByteArray) (w : World) (H1 : (∀ wx : World, Calls Try.prog 71 #[(.agg #[.bool an, .string ai, .string af]), .int .i64 mode] wx fun e w' => e = .returned (.int .i64 0) ∧ Below wx.heap.size wx w')) (H2 : (∀ wx : World, Calls Try.prog 54 #[(.agg #[.bool true, .string bi, .string bf])] wx fun e w' => e = .returned (.int .i64 0) ∧ Below wx.heap.size wx w')) (H3 : (∀ (wx : World) {X : ByteArray}, X = bi ++ bf → Calls Try.prog 81 #[.string X] wx fun r w' => r = .returned (.string UT) ∧ Below wx.heap.size wx w')) (h5 : bi.size + bf.size ≤ 1000) (h4 : ai.size + af.size ≤ 1000) :
    Calls Try.prog 40 #[(.agg #[.bool an, .string ai, .string af]), .int .i64 mode, (.agg #[.bool true, .string bi, .string bf])] w fun e w' => e = .returned (.tuple #[.agg #[.bool false, .string ⟨#[]⟩, .string ⟨#[]⟩], .int .i64 1]) ∧ Below w.heap.size w w' := by
  have D1 := Lib.hid H1
  have D2 := Lib.hid H2
  have D3 := Lib.hid H3
  clear H1 H2 H3
  have q0 : ((0 : Int) != 0) = false := by decide
  have g1 : ¬ 9223372036854775807 < bi.size + bf.size := by omega
  have g2 : ¬ 9223372036854775807 < ai.size + af.size := by omega
  go_enter Try.func40, Try.ntmps40
  go_wp2_with fail
  obtain ⟨W0, hW0⟩ : ∃ W0, W0 = (((w.alloc (.cells #[.bool an, .string ai, .string af] 23)).alloc (.cells #[.bool true, .string bi, .string bf] 23)).alloc (.cells #[.bool false, .string ⟨#[]⟩, .string ⟨#[]⟩] 23)) := ⟨_, rfl⟩
  obtain ⟨hB, hz, C0, C1, C2, FL⟩ : Below w.heap.size w W0 ∧ w.heap.size + 3 ≤ W0.heap.size ∧ Cells3 W0 w.heap.size (.bool an) (.string ai) (.string af) ∧ Cells3 W0 (w.heap.size + 1) (.bool true) (.string bi) (.string bf) ∧ Cells3 W0 (w.heap.size + 2) (.bool false) (.string ⟨#[]⟩) (.string ⟨#[]⟩) ∧ ∀ i, W0.frozen? ⟨(w.heap.size + 2), i, none⟩ = false := by rw [hW0]; exact ⟨below_three w _ _ _, three_boxes w _ _ _ _ _ _ _ _ _ _⟩
  have z0 : w.heap.size + 1 ≤ W0.heap.size := by omega
  have z1 : (w.heap.size + 1) + 1 ≤ W0.heap.size := by omega
  have z2 : (w.heap.size + 2) + 1 ≤ W0.heap.size := by omega
  rw [← hW0]
  have HB := Lib.hid hB
  have F2 := Lib.hid FL
  clear hW0 hB hz FL
  (with_reducible refine (D1.out _).mono ?_)
  rintro e V1 ⟨rfl, hb⟩
  replace F2 := Lib.hid (frozen_keep F2.out hb (by omega))
  replace C0 := C0.keep hb (by omega)
  replace z0 : w.heap.size + 1 ≤ V1.heap.size := by have := hb.size; omega
  replace C1 := C1.keep hb (by omega)
  replace z1 : (w.heap.size + 1) + 1 ≤ V1.heap.size := by have := hb.size; omega
  replace C2 := C2.keep hb (by omega)
  replace z2 : (w.heap.size + 2) + 1 ≤ V1.heap.size := by have := hb.size; omega
  replace HB := Lib.hid (HB.out.trans (hb.mono HB.out.size))
  clear hb
  have o00 := C0.1
  have o10 := C1.1
  have o20 := C2.1
  have o01 := C0.2.1
  have o02 := C0.2.2
  have o11 := C1.2.1
  have o12 := C1.2.2
  have o21 := C2.2.1
  have o22 := C2.2.2
  go_wp2_with fail
  clear o00 o01 o02 o10 o11 o12 o20 o21 o22
  (with_reducible refine (D2.out _).mono ?_)
  rintro e V2 ⟨rfl, hb⟩
  replace F2 := Lib.hid (frozen_keep F2.out hb (by omega))
  replace C0 := C0.keep hb (by omega)
  replace z0 : w.heap.size + 1 ≤ V2.heap.size := by have := hb.size; omega
  replace C1 := C1.keep hb (by omega)
  replace z1 : (w.heap.size + 1) + 1 ≤ V2.heap.size := by have := hb.size; omega
  replace C2 := C2.keep hb (by omega)
  replace z2 : (w.heap.size + 2) + 1 ≤ V2.heap.size := by have := hb.size; omega
  replace HB := Lib.hid (HB.out.trans (hb.mono HB.out.size))
  clear hb
  have o00 := C0.1
  have o10 := C1.1
  have o20 := C2.1
  have o01 := C0.2.1
  have o02 := C0.2.2
  have o11 := C1.2.1
  have o12 := C1.2.2
  have o21 := C2.2.1
  have o22 := C2.2.2
  go_wp2_with fail
  clear o00 o01 o02 o10 o11 o12 o20 o21 o22
  (with_reducible refine (D3.out _ ?_).mono ?_)
  · rfl
  rintro e V3 ⟨rfl, hb⟩
  replace F2 := Lib.hid (frozen_keep F2.out hb (by omega))
  replace C0 := C0.keep hb (by omega)
  replace z0 : w.heap.size + 1 ≤ V3.heap.size := by have := hb.size; omega
  replace C1 := C1.keep hb (by omega)
  replace z1 : (w.heap.size + 1) + 1 ≤ V3.heap.size := by have := hb.size; omega
  replace C2 := C2.keep hb (by omega)
  replace z2 : (w.heap.size + 2) + 1 ≤ V3.heap.size := by have := hb.size; omega
  replace HB := Lib.hid (HB.out.trans (hb.mono HB.out.size))
  clear hb
  have o00 := C0.1
  have o10 := C1.1
  have o20 := C2.1
  have o01 := C0.2.1
  have o02 := C0.2.2
  have o11 := C1.2.1
  have o12 := C1.2.2
  have o21 := C2.2.1
  have o22 := C2.2.2
  obtain ⟨r0, r1, r2⟩ := C2
  have z0 := F2.out
  obtain ⟨e0, e1, e2⟩ := res_cells r0 r1 r2 (.bool false) (.string ⟨#[]⟩) (.string ⟨#[]⟩)
  go_wp2
  exact bodyPost_ret (v := .tuple #[.agg #[.bool false, .string ⟨#[]⟩, .string ⟨#[]⟩], .int .i64 1]) (by simp [results, Try.results40, go_sem, e0, e1, e2]) rfl ⟨rfl, res_below HB.out (by omega) _ _ _⟩

set_option maxHeartbeats 4000000 in
set_option maxRecDepth 100000 in
theorem rs_zero (an : Bool) (ai af bi bf : ByteArray) (mode : Int) (UT : ByteArray) (w : World) (H1 : (∀ wx : World, Calls Try.prog 71 #[(.agg #[.bool an, .string ai, .string af]), .int .i64 mode] wx fun e w' => e = .returned (.int .i64 0) ∧ Below wx.heap.size wx w')) (H2 : (∀ wx : World, Calls Try.prog 54 #[(.agg #[.bool false, .string bi, .string bf])] wx fun e w' => e = .returned (.int .i64 0) ∧ Below wx.heap.size wx w')) (H3 : (∀ (wx : World) {X : ByteArray}, X = bi ++ bf → Calls Try.prog 81 #[.string X] wx fun r w' => r = .returned (.string UT) ∧ Below wx.heap.size wx w')) (h5 : bi.size + bf.size ≤ 1000) (h4 : ai.size + af.size ≤ 1000) (hz : (UT.toList == [48]) = true) :
    Calls Try.prog 40 #[(.agg #[.bool an, .string ai, .string af]), .int .i64 mode, (.agg #[.bool false, .string bi, .string bf])] w fun e w' => e = .returned (.tuple #[.agg #[.bool false, .string ⟨#[]⟩, .string ⟨#[]⟩], .int .i64 1]) ∧ Below w.heap.size w w' := by
  have D1 := Lib.hid H1
  have D2 := Lib.hid H2
  have D3 := Lib.hid H3
  clear H1 H2 H3
  have q0 : ((0 : Int) != 0) = false := by decide
  have g1 : ¬ 9223372036854775807 < bi.size + bf.size := by omega
  have g2 : ¬ 9223372036854775807 < ai.size + af.size := by omega
  have qz : (UT.toList == [48]) = true := hz
  go_enter Try.func40, Try.ntmps40
  go_wp2_with fail
  obtain ⟨W0, hW0⟩ : ∃ W0, W0 = (((w.alloc (.cells #[.bool an, .string ai, .string af] 23)).alloc (.cells #[.bool false, .string bi, .string bf] 23)).alloc (.cells #[.bool false, .string ⟨#[]⟩, .string ⟨#[]⟩] 23)) := ⟨_, rfl⟩
  obtain ⟨hB, hz, C0, C1, C2, FL⟩ : Below w.heap.size w W0 ∧ w.heap.size + 3 ≤ W0.heap.size ∧ Cells3 W0 w.heap.size (.bool an) (.string ai) (.string af) ∧ Cells3 W0 (w.heap.size + 1) (.bool false) (.string bi) (.string bf) ∧ Cells3 W0 (w.heap.size + 2) (.bool false) (.string ⟨#[]⟩) (.string ⟨#[]⟩) ∧ ∀ i, W0.frozen? ⟨(w.heap.size + 2), i, none⟩ = false := by rw [hW0]; exact ⟨below_three w _ _ _, three_boxes w _ _ _ _ _ _ _ _ _ _⟩
  have z0 : w.heap.size + 1 ≤ W0.heap.size := by omega
  have z1 : (w.heap.size + 1) + 1 ≤ W0.heap.size := by omega
  have z2 : (w.heap.size + 2) + 1 ≤ W0.heap.size := by omega
  rw [← hW0]
  have HB := Lib.hid hB
  have F2 := Lib.hid FL
  clear hW0 hB hz FL
  (with_reducible refine (D1.out _).mono ?_)
  rintro e V1 ⟨rfl, hb⟩
  replace F2 := Lib.hid (frozen_keep F2.out hb (by omega))
  replace C0 := C0.keep hb (by omega)
  replace z0 : w.heap.size + 1 ≤ V1.heap.size := by have := hb.size; omega
  replace C1 := C1.keep hb (by omega)
  replace z1 : (w.heap.size + 1) + 1 ≤ V1.heap.size := by have := hb.size; omega
  replace C2 := C2.keep hb (by omega)
  replace z2 : (w.heap.size + 2) + 1 ≤ V1.heap.size := by have := hb.size; omega
  replace HB := Lib.hid (HB.out.trans (hb.mono HB.out.size))
  clear hb
  have o00 := C0.1
  have o10 := C1.1
  have o20 := C2.1
  have o01 := C0.2.1
  have o02 := C0.2.2
  have o11 := C1.2.1
  have o12 := C1.2.2
  have o21 := C2.2.1
  have o22 := C2.2.2
  go_wp2_with fail
  clear o00 o01 o02 o10 o11 o12 o20 o21 o22
  (with_reducible refine (D2.out _).mono ?_)
  rintro e V2 ⟨rfl, hb⟩
  replace F2 := Lib.hid (frozen_keep F2.out hb (by omega))
  replace C0 := C0.keep hb (by omega)
  replace z0 : w.heap.size + 1 ≤ V2.heap.size := by have := hb.size; omega
  replace C1 := C1.keep hb (by omega)
  replace z1 : (w.heap.size + 1) + 1 ≤ V2.heap.size := by have := hb.size; omega
  replace C2 := C2.keep hb (by omega)
  replace z2 : (w.heap.size + 2) + 1 ≤ V2.heap.size := by have := hb.size; omega
  replace HB := Lib.hid (HB.out.trans (hb.mono HB.out.size))
  clear hb
  have o00 := C0.1
  have o10 := C1.1
  have o20 := C2.1
  have o01 := C0.2.1
  have o02 := C0.2.2
  have o11 := C1.2.1
  have o12 := C1.2.2
  have o21 := C2.2.1
  have o22 := C2.2.2
  go_wp2_with fail
  clear o00 o01 o02 o10 o11 o12 o20 o21 o22
  (with_reducible refine (D3.out _ ?_).mono ?_)
  · rfl
  rintro e V3 ⟨rfl, hb⟩
  replace F2 := Lib.hid (frozen_keep F2.out hb (by omega))
  replace C0 := C0.keep hb (by omega)
  replace z0 : w.heap.size + 1 ≤ V3.heap.size := by have := hb.size; omega
  replace C1 := C1.keep hb (by omega)
  replace z1 : (w.heap.size + 1) + 1 ≤ V3.heap.size := by have := hb.size; omega
  replace C2 := C2.keep hb (by omega)
  replace z2 : (w.heap.size + 2) + 1 ≤ V3.heap.size := by have := hb.size; omega
  replace HB := Lib.hid (HB.out.trans (hb.mono HB.out.size))
  clear hb
  have o00 := C0.1
  have o10 := C1.1
  have o20 := C2.1
  have o01 := C0.2.1
  have o02 := C0.2.2
  have o11 := C1.2.1
  have o12 := C1.2.2
  have o21 := C2.2.1
  have o22 := C2.2.2
  obtain ⟨r0, r1, r2⟩ := C2
  have z0 := F2.out
  obtain ⟨e0, e1, e2⟩ := res_cells r0 r1 r2 (.bool false) (.string ⟨#[]⟩) (.string ⟨#[]⟩)
  go_wp2
  exact bodyPost_ret (v := .tuple #[.agg #[.bool false, .string ⟨#[]⟩, .string ⟨#[]⟩], .int .i64 1]) (by simp [results, Try.results40, go_sem, e0, e1, e2]) rfl ⟨rfl, res_below HB.out (by omega) _ _ _⟩

set_option maxHeartbeats 4000000 in
set_option maxRecDepth 100000 in
theorem rs_err_l (an : Bool) (ai af bi bf : ByteArray) (mode : Int) (UT NN BT QQ : ByteArray) (w : World) (H1 : (∀ wx : World, Calls Try.prog 71 #[(.agg #[.bool an, .string ai, .string af]), .int .i64 mode] wx fun e w' => e = .returned (.int .i64 0) ∧ Below wx.heap.size wx w')) (H2 : (∀ wx : World, Calls Try.prog 54 #[(.agg #[.bool false, .string bi, .string bf])] wx fun e w' => e = .returned (.int .i64 0) ∧ Below wx.heap.size wx w')) (H3 : (∀ (wx : World) {X : ByteArray}, X = bi ++ bf → Calls Try.prog 81 #[.string X] wx fun r w' => r = .returned (.string UT) ∧ Below wx.heap.size wx w')) (H4 : (∀ (wx : World) {nI : Int}, nI = (bf.size : Int) - (af.size : Int) → Calls Try.prog 73 #[.int .i64 nI] wx fun r w' => r = .returned (.string NN) ∧ Below wx.heap.size wx w')) (H5 : (∀ (wx : World) {X : ByteArray}, X = bi ++ bf → Calls Try.prog 81 #[.string X] wx fun r w' => r = .returned (.string BT) ∧ Below wx.heap.size wx w')) (H6 : (∀ (wx : World) {X : ByteArray}, X = ai ++ af ++ NN → Calls Try.prog 72 #[.int .i64 mode, .bool an, .string X, .string BT] wx fun r w' => r = .returned (.tuple #[.string QQ, .int .i64 31]) ∧ Below wx.heap.size wx w')) (h5 : bi.size + bf.size ≤ 1000) (h4 : ai.size + af.size ≤ 1000) (h6 : NN.size ≤ 1000) (hz : (UT.toList == [48]) = false) (hl : af.size < bf.size) :
    Calls Try.prog 40 #[(.agg #[.bool an, .string ai, .string af]), .int .i64 mode, (.agg #[.bool false, .string bi, .string bf])] w fun e w' => e = .returned (.tuple #[.agg #[.bool false, .string ⟨#[]⟩, .string ⟨#[]⟩], .int .i64 31]) ∧ Below w.heap.size w w' := by
  have D1 := Lib.hid H1
  have D2 := Lib.hid H2
  have D3 := Lib.hid H3
  have D4 := Lib.hid H4
  have D5 := Lib.hid H5
  have D6 := Lib.hid H6
  clear H1 H2 H3 H4 H5 H6
  have q0 : ((0 : Int) != 0) = false := by decide
  have g1 : ¬ 9223372036854775807 < bi.size + bf.size := by omega
  have g2 : ¬ 9223372036854775807 < ai.size + af.size := by omega
  have qz : (UT.toList == [48]) = false := hz
  have q31 : ((31 : Int) != 0) = true := by decide
  have g3 : ¬ 9223372036854775807 < ai.size + af.size + NN.size := by omega
  have ql : decide ((af.size : Int) < (bf.size : Int)) = true := decide_eq_true (by omega)
  have ql2 : decide (af.size < bf.size) = true := decide_eq_true (by omega)
  have wz : IntKind.i64.wrap ((bf.size : Int) - (af.size : Int)) = (bf.size : Int) - (af.size : Int) := IntWalk.i64_in _ (by omega)
  go_enter Try.func40, Try.ntmps40
  go_wp2_with fail
  obtain ⟨W0, hW0⟩ : ∃ W0, W0 = (((w.alloc (.cells #[.bool an, .string ai, .string af] 23)).alloc (.cells #[.bool false, .string bi, .string bf] 23)).alloc (.cells #[.bool false, .string ⟨#[]⟩, .string ⟨#[]⟩] 23)) := ⟨_, rfl⟩
  obtain ⟨hB, hz, C0, C1, C2, FL⟩ : Below w.heap.size w W0 ∧ w.heap.size + 3 ≤ W0.heap.size ∧ Cells3 W0 w.heap.size (.bool an) (.string ai) (.string af) ∧ Cells3 W0 (w.heap.size + 1) (.bool false) (.string bi) (.string bf) ∧ Cells3 W0 (w.heap.size + 2) (.bool false) (.string ⟨#[]⟩) (.string ⟨#[]⟩) ∧ ∀ i, W0.frozen? ⟨(w.heap.size + 2), i, none⟩ = false := by rw [hW0]; exact ⟨below_three w _ _ _, three_boxes w _ _ _ _ _ _ _ _ _ _⟩
  have z0 : w.heap.size + 1 ≤ W0.heap.size := by omega
  have z1 : (w.heap.size + 1) + 1 ≤ W0.heap.size := by omega
  have z2 : (w.heap.size + 2) + 1 ≤ W0.heap.size := by omega
  rw [← hW0]
  have HB := Lib.hid hB
  have F2 := Lib.hid FL
  clear hW0 hB hz FL
  (with_reducible refine (D1.out _).mono ?_)
  rintro e V1 ⟨rfl, hb⟩
  replace F2 := Lib.hid (frozen_keep F2.out hb (by omega))
  replace C0 := C0.keep hb (by omega)
  replace z0 : w.heap.size + 1 ≤ V1.heap.size := by have := hb.size; omega
  replace C1 := C1.keep hb (by omega)
  replace z1 : (w.heap.size + 1) + 1 ≤ V1.heap.size := by have := hb.size; omega
  replace C2 := C2.keep hb (by omega)
  replace z2 : (w.heap.size + 2) + 1 ≤ V1.heap.size := by have := hb.size; omega
  replace HB := Lib.hid (HB.out.trans (hb.mono HB.out.size))
  clear hb
  have o00 := C0.1
  have o10 := C1.1
  have o20 := C2.1
  have o01 := C0.2.1
  have o02 := C0.2.2
  have o11 := C1.2.1
  have o12 := C1.2.2
  have o21 := C2.2.1
  have o22 := C2.2.2
  go_wp2_with fail
  clear o00 o01 o02 o10 o11 o12 o20 o21 o22
  (with_reducible refine (D2.out _).mono ?_)
  rintro e V2 ⟨rfl, hb⟩
  replace F2 := Lib.hid (frozen_keep F2.out hb (by omega))
  replace C0 := C0.keep hb (by omega)
  replace z0 : w.heap.size + 1 ≤ V2.heap.size := by have := hb.size; omega
  replace C1 := C1.keep hb (by omega)
  replace z1 : (w.heap.size + 1) + 1 ≤ V2.heap.size := by have := hb.size; omega
  replace C2 := C2.keep hb (by omega)
  replace z2 : (w.heap.size + 2) + 1 ≤ V2.heap.size := by have := hb.size; omega
  replace HB := Lib.hid (HB.out.trans (hb.mono HB.out.size))
  clear hb
  have o00 := C0.1
  have o10 := C1.1
  have o20 := C2.1
  have o01 := C0.2.1
  have o02 := C0.2.2
  have o11 := C1.2.1
  have o12 := C1.2.2
  have o21 := C2.2.1
  have o22 := C2.2.2
  go_wp2_with fail
  clear o00 o01 o02 o10 o11 o12 o20 o21 o22
  (with_reducible refine (D3.out _ ?_).mono ?_)
  · rfl
  rintro e V3 ⟨rfl, hb⟩
  replace F2 := Lib.hid (frozen_keep F2.out hb (by omega))
  replace C0 := C0.keep hb (by omega)
  replace z0 : w.heap.size + 1 ≤ V3.heap.size := by have := hb.size; omega
  replace C1 := C1.keep hb (by omega)
  replace z1 : (w.heap.size + 1) + 1 ≤ V3.heap.size := by have := hb.size; omega
  replace C2 := C2.keep hb (by omega)
  replace z2 : (w.heap.size + 2) + 1 ≤ V3.heap.size := by have := hb.size; omega
  replace HB := Lib.hid (HB.out.trans (hb.mono HB.out.size))
  clear hb
  have o00 := C0.1
  have o10 := C1.1
  have o20 := C2.1
  have o01 := C0.2.1
  have o02 := C0.2.2
  have o11 := C1.2.1
  have o12 := C1.2.2
  have o21 := C2.2.1
  have o22 := C2.2.2
  go_upto_region 10 with fail
  go_region
  go_wp2_with fail
  clear o00 o01 o02 o10 o11 o12 o20 o21 o22
  (with_reducible refine (D4.out _ ?_).mono ?_)
  · rfl
  rintro e V4 ⟨rfl, hb0⟩
  have hb : Below V3.heap.size V3 V4 := undrew hb0
  clear hb0
  replace F2 := Lib.hid (frozen_keep F2.out hb (by omega))
  replace C0 := C0.keep hb (by omega)
  replace z0 : w.heap.size + 1 ≤ V4.heap.size := by have := hb.size; omega
  replace C1 := C1.keep hb (by omega)
  replace z1 : (w.heap.size + 1) + 1 ≤ V4.heap.size := by have := hb.size; omega
  replace C2 := C2.keep hb (by omega)
  replace z2 : (w.heap.size + 2) + 1 ≤ V4.heap.size := by have := hb.size; omega
  replace HB := Lib.hid (HB.out.trans (hb.mono HB.out.size))
  clear hb
  have o00 := C0.1
  have o10 := C1.1
  have o20 := C2.1
  have o01 := C0.2.1
  have o02 := C0.2.2
  have o11 := C1.2.1
  have o12 := C1.2.2
  have o21 := C2.2.1
  have o22 := C2.2.2
  go_upto_region 14 with fail
  clear o00 o01 o02 o10 o11 o12 o20 o21 o22
  have Ch := Lib.hid C0
  obtain ⟨s0, s1, s2⟩ := C0
  have C0 := Ch.out
  go_region_held3 (fun w' => (w'.cell? ⟨w.heap.size, 0, none⟩ = some (.bool an) ∧ w'.cell? ⟨w.heap.size, 1, none⟩ = some (.string ai) ∧ w'.cell? ⟨w.heap.size, 2, none⟩ = some (.string af)))
    (first
      | exact ⟨s0, s1, s2⟩
      | (have t := Ch.out.keep hb4 (by omega); exact ⟨t.1, t.2.1, t.2.2⟩)
      | (have t := Ch.out.keep (undrew hbA) (by omega); exact ⟨t.1, t.2.1, t.2.2⟩)
      | go_keep)
    (first
      | (go_at_call 81; (with_reducible refine (D5.out _ ?_).mono ?_); (focus rfl); rintro e wA ⟨rfl, hbA⟩)
      | (go_at_call 72; (with_reducible refine (D6.out _ ?_).mono ?_); (focus rfl); rintro e wB ⟨rfl, hbB⟩
         have hb4 : Below V4.heap.size V4 wB := (undrew hbA).trans (hbB.mono (undrew hbA).size)))
  replace F2 := Lib.hid (frozen_keep F2.out hb4 (by omega))
  replace C0 := C0.keep hb4 (by omega)
  replace z0 : w.heap.size + 1 ≤ wB.heap.size := by have := hb4.size; omega
  replace C1 := C1.keep hb4 (by omega)
  replace z1 : (w.heap.size + 1) + 1 ≤ wB.heap.size := by have := hb4.size; omega
  replace C2 := C2.keep hb4 (by omega)
  replace z2 : (w.heap.size + 2) + 1 ≤ wB.heap.size := by have := hb4.size; omega
  replace HB := Lib.hid (HB.out.trans (hb4.mono HB.out.size))
  clear hb4 hbA hbB s0 s1 s2 Ch
  have o00 := C0.1
  have o10 := C1.1
  have o20 := C2.1
  have o01 := C0.2.1
  have o02 := C0.2.2
  have o11 := C1.2.1
  have o12 := C1.2.2
  have o21 := C2.2.1
  have o22 := C2.2.2
  obtain ⟨r0, r1, r2⟩ := C2
  have z0 := F2.out
  obtain ⟨e0, e1, e2⟩ := res_cells r0 r1 r2 (.bool false) (.string ⟨#[]⟩) (.string ⟨#[]⟩)
  go_wp2
  exact bodyPost_ret (v := .tuple #[.agg #[.bool false, .string ⟨#[]⟩, .string ⟨#[]⟩], .int .i64 31]) (by simp [results, Try.results40, go_sem, e0, e1, e2]) rfl ⟨rfl, res_below HB.out (by omega) _ _ _⟩

set_option maxHeartbeats 4000000 in
set_option maxRecDepth 100000 in
theorem rs_ok_l (an : Bool) (ai af bi bf : ByteArray) (mode : Int) (UT NN BT QQ : ByteArray) (MM : ByteArray) (xn yn : Bool) (xi xf yi yf : ByteArray) (c : Int) (w : World) (H1 : (∀ wx : World, Calls Try.prog 71 #[(.agg #[.bool an, .string ai, .string af]), .int .i64 mode] wx fun e w' => e = .returned (.int .i64 0) ∧ Below wx.heap.size wx w')) (H2 : (∀ wx : World, Calls Try.prog 54 #[(.agg #[.bool false, .string bi, .string bf])] wx fun e w' => e = .returned (.int .i64 0) ∧ Below wx.heap.size wx w')) (H3 : (∀ (wx : World) {X : ByteArray}, X = bi ++ bf → Calls Try.prog 81 #[.string X] wx fun r w' => r = .returned (.string UT) ∧ Below wx.heap.size wx w')) (H4 : (∀ (wx : World) {nI : Int}, nI = (bf.size : Int) - (af.size : Int) → Calls Try.prog 73 #[.int .i64 nI] wx fun r w' => r = .returned (.string NN) ∧ Below wx.heap.size wx w')) (H5 : (∀ (wx : World) {X : ByteArray}, X = bi ++ bf → Calls Try.prog 81 #[.string X] wx fun r w' => r = .returned (.string BT) ∧ Below wx.heap.size wx w')) (H6 : (∀ (wx : World) {X : ByteArray}, X = ai ++ af ++ NN → Calls Try.prog 72 #[.int .i64 mode, .bool an, .string X, .string BT] wx fun r w' => r = .returned (.tuple #[.string QQ, .int .i64 0]) ∧ Below wx.heap.size wx w')) (H7 : (∀ wx : World, Calls Try.prog 84 #[.string QQ, .string UT] wx fun e w' => e = .returned (.string MM) ∧ Below wx.heap.size wx w')) (H8 : (∀ wx : World, Calls Try.prog 74 #[.bool an, .string MM, .int .i64 bf.size] wx fun e w' => e = .returned (.agg #[.bool xn, .string xi, .string xf]) ∧ Below wx.heap.size wx w')) (H9 : (∀ wx : World, Calls Try.prog 76 #[(.agg #[.bool xn, .string xi, .string xf])] wx fun e w' => e = .returned (.tuple #[(.agg #[.bool yn, .string yi, .string yf]), .int .i64 c]) ∧ Below wx.heap.size wx w')) (h5 : bi.size + bf.size ≤ 1000) (h4 : ai.size + af.size ≤ 1000) (h6 : NN.size ≤ 1000) (hz : (UT.toList == [48]) = false) (hl : af.size < bf.size) :
    Calls Try.prog 40 #[(.agg #[.bool an, .string ai, .string af]), .int .i64 mode, (.agg #[.bool false, .string bi, .string bf])] w fun e w' => e = .returned (.tuple #[(.agg #[.bool yn, .string yi, .string yf]), .int .i64 c]) ∧ Below w.heap.size w w' := by
  have D1 := Lib.hid H1
  have D2 := Lib.hid H2
  have D3 := Lib.hid H3
  have D4 := Lib.hid H4
  have D5 := Lib.hid H5
  have D6 := Lib.hid H6
  have D7 := Lib.hid H7
  have D8 := Lib.hid H8
  have D9 := Lib.hid H9
  clear H1 H2 H3 H4 H5 H6 H7 H8 H9
  have q0 : ((0 : Int) != 0) = false := by decide
  have g1 : ¬ 9223372036854775807 < bi.size + bf.size := by omega
  have g2 : ¬ 9223372036854775807 < ai.size + af.size := by omega
  have qz : (UT.toList == [48]) = false := hz
  have q31 : ((31 : Int) != 0) = true := by decide
  have g3 : ¬ 9223372036854775807 < ai.size + af.size + NN.size := by omega
  have ql : decide ((af.size : Int) < (bf.size : Int)) = true := decide_eq_true (by omega)
  have ql2 : decide (af.size < bf.size) = true := decide_eq_true (by omega)
  have wz : IntKind.i64.wrap ((bf.size : Int) - (af.size : Int)) = (bf.size : Int) - (af.size : Int) := IntWalk.i64_in _ (by omega)
  go_enter Try.func40, Try.ntmps40
  go_wp2_with fail
  obtain ⟨W0, hW0⟩ : ∃ W0, W0 = (((w.alloc (.cells #[.bool an, .string ai, .string af] 23)).alloc (.cells #[.bool false, .string bi, .string bf] 23)).alloc (.cells #[.bool false, .string ⟨#[]⟩, .string ⟨#[]⟩] 23)) := ⟨_, rfl⟩
  obtain ⟨hB, hz, C0, C1, C2, FL⟩ : Below w.heap.size w W0 ∧ w.heap.size + 3 ≤ W0.heap.size ∧ Cells3 W0 w.heap.size (.bool an) (.string ai) (.string af) ∧ Cells3 W0 (w.heap.size + 1) (.bool false) (.string bi) (.string bf) ∧ Cells3 W0 (w.heap.size + 2) (.bool false) (.string ⟨#[]⟩) (.string ⟨#[]⟩) ∧ ∀ i, W0.frozen? ⟨(w.heap.size + 2), i, none⟩ = false := by rw [hW0]; exact ⟨below_three w _ _ _, three_boxes w _ _ _ _ _ _ _ _ _ _⟩
  have z0 : w.heap.size + 1 ≤ W0.heap.size := by omega
  have z1 : (w.heap.size + 1) + 1 ≤ W0.heap.size := by omega
  have z2 : (w.heap.size + 2) + 1 ≤ W0.heap.size := by omega
  rw [← hW0]
  have HB := Lib.hid hB
  have F2 := Lib.hid FL
  clear hW0 hB hz FL
  (with_reducible refine (D1.out _).mono ?_)
  rintro e V1 ⟨rfl, hb⟩
  replace F2 := Lib.hid (frozen_keep F2.out hb (by omega))
  replace C0 := C0.keep hb (by omega)
  replace z0 : w.heap.size + 1 ≤ V1.heap.size := by have := hb.size; omega
  replace C1 := C1.keep hb (by omega)
  replace z1 : (w.heap.size + 1) + 1 ≤ V1.heap.size := by have := hb.size; omega
  replace C2 := C2.keep hb (by omega)
  replace z2 : (w.heap.size + 2) + 1 ≤ V1.heap.size := by have := hb.size; omega
  replace HB := Lib.hid (HB.out.trans (hb.mono HB.out.size))
  clear hb
  have o00 := C0.1
  have o10 := C1.1
  have o20 := C2.1
  have o01 := C0.2.1
  have o02 := C0.2.2
  have o11 := C1.2.1
  have o12 := C1.2.2
  have o21 := C2.2.1
  have o22 := C2.2.2
  go_wp2_with fail
  clear o00 o01 o02 o10 o11 o12 o20 o21 o22
  (with_reducible refine (D2.out _).mono ?_)
  rintro e V2 ⟨rfl, hb⟩
  replace F2 := Lib.hid (frozen_keep F2.out hb (by omega))
  replace C0 := C0.keep hb (by omega)
  replace z0 : w.heap.size + 1 ≤ V2.heap.size := by have := hb.size; omega
  replace C1 := C1.keep hb (by omega)
  replace z1 : (w.heap.size + 1) + 1 ≤ V2.heap.size := by have := hb.size; omega
  replace C2 := C2.keep hb (by omega)
  replace z2 : (w.heap.size + 2) + 1 ≤ V2.heap.size := by have := hb.size; omega
  replace HB := Lib.hid (HB.out.trans (hb.mono HB.out.size))
  clear hb
  have o00 := C0.1
  have o10 := C1.1
  have o20 := C2.1
  have o01 := C0.2.1
  have o02 := C0.2.2
  have o11 := C1.2.1
  have o12 := C1.2.2
  have o21 := C2.2.1
  have o22 := C2.2.2
  go_wp2_with fail
  clear o00 o01 o02 o10 o11 o12 o20 o21 o22
  (with_reducible refine (D3.out _ ?_).mono ?_)
  · rfl
  rintro e V3 ⟨rfl, hb⟩
  replace F2 := Lib.hid (frozen_keep F2.out hb (by omega))
  replace C0 := C0.keep hb (by omega)
  replace z0 : w.heap.size + 1 ≤ V3.heap.size := by have := hb.size; omega
  replace C1 := C1.keep hb (by omega)
  replace z1 : (w.heap.size + 1) + 1 ≤ V3.heap.size := by have := hb.size; omega
  replace C2 := C2.keep hb (by omega)
  replace z2 : (w.heap.size + 2) + 1 ≤ V3.heap.size := by have := hb.size; omega
  replace HB := Lib.hid (HB.out.trans (hb.mono HB.out.size))
  clear hb
  have o00 := C0.1
  have o10 := C1.1
  have o20 := C2.1
  have o01 := C0.2.1
  have o02 := C0.2.2
  have o11 := C1.2.1
  have o12 := C1.2.2
  have o21 := C2.2.1
  have o22 := C2.2.2
  go_upto_region 10 with fail
  go_region
  go_wp2_with fail
  clear o00 o01 o02 o10 o11 o12 o20 o21 o22
  (with_reducible refine (D4.out _ ?_).mono ?_)
  · rfl
  rintro e V4 ⟨rfl, hb0⟩
  have hb : Below V3.heap.size V3 V4 := undrew hb0
  clear hb0
  replace F2 := Lib.hid (frozen_keep F2.out hb (by omega))
  replace C0 := C0.keep hb (by omega)
  replace z0 : w.heap.size + 1 ≤ V4.heap.size := by have := hb.size; omega
  replace C1 := C1.keep hb (by omega)
  replace z1 : (w.heap.size + 1) + 1 ≤ V4.heap.size := by have := hb.size; omega
  replace C2 := C2.keep hb (by omega)
  replace z2 : (w.heap.size + 2) + 1 ≤ V4.heap.size := by have := hb.size; omega
  replace HB := Lib.hid (HB.out.trans (hb.mono HB.out.size))
  clear hb
  have o00 := C0.1
  have o10 := C1.1
  have o20 := C2.1
  have o01 := C0.2.1
  have o02 := C0.2.2
  have o11 := C1.2.1
  have o12 := C1.2.2
  have o21 := C2.2.1
  have o22 := C2.2.2
  go_upto_region 14 with fail
  clear o00 o01 o02 o10 o11 o12 o20 o21 o22
  have Ch := Lib.hid C0
  obtain ⟨s0, s1, s2⟩ := C0
  have C0 := Ch.out
  go_region_held3 (fun w' => (w'.cell? ⟨w.heap.size, 0, none⟩ = some (.bool an) ∧ w'.cell? ⟨w.heap.size, 1, none⟩ = some (.string ai) ∧ w'.cell? ⟨w.heap.size, 2, none⟩ = some (.string af)))
    (first
      | exact ⟨s0, s1, s2⟩
      | (have t := Ch.out.keep hb4 (by omega); exact ⟨t.1, t.2.1, t.2.2⟩)
      | (have t := Ch.out.keep (undrew hbA) (by omega); exact ⟨t.1, t.2.1, t.2.2⟩)
      | go_keep)
    (first
      | (go_at_call 81; (with_reducible refine (D5.out _ ?_).mono ?_); (focus rfl); rintro e wA ⟨rfl, hbA⟩)
      | (go_at_call 72; (with_reducible refine (D6.out _ ?_).mono ?_); (focus rfl); rintro e wB ⟨rfl, hbB⟩
         have hb4 : Below V4.heap.size V4 wB := (undrew hbA).trans (hbB.mono (undrew hbA).size)))
  replace F2 := Lib.hid (frozen_keep F2.out hb4 (by omega))
  replace C0 := C0.keep hb4 (by omega)
  replace z0 : w.heap.size + 1 ≤ wB.heap.size := by have := hb4.size; omega
  replace C1 := C1.keep hb4 (by omega)
  replace z1 : (w.heap.size + 1) + 1 ≤ wB.heap.size := by have := hb4.size; omega
  replace C2 := C2.keep hb4 (by omega)
  replace z2 : (w.heap.size + 2) + 1 ≤ wB.heap.size := by have := hb4.size; omega
  replace HB := Lib.hid (HB.out.trans (hb4.mono HB.out.size))
  clear hb4 hbA hbB s0 s1 s2 Ch
  have o00 := C0.1
  have o10 := C1.1
  have o20 := C2.1
  have o01 := C0.2.1
  have o02 := C0.2.2
  have o11 := C1.2.1
  have o12 := C1.2.2
  have o21 := C2.2.1
  have o22 := C2.2.2
  go_upto_region 17 with fail
  clear o00 o01 o02 o10 o11 o12 o20 o21 o22
  have Ca := Lib.hid C0
  have Cb := Lib.hid C1
  have Cr := Lib.hid C2
  have Fr := F2
  obtain ⟨s0, s1, s2⟩ := C0
  obtain ⟨t0, t1, t2⟩ := C1
  go_region_held3 (fun w' => w'.cell? ⟨w.heap.size, 0, none⟩ = some (.bool an) ∧ w'.cell? ⟨w.heap.size + 1, 2, none⟩ = some (.string bf))
    (first
      | exact ⟨s0, t2⟩
      | exact ⟨(Ca.out.keep hb6 (by omega)).1, (Cb.out.keep hb6 (by omega)).2.2⟩
      | exact ⟨(far3 _ _ _ _ _ _ _ (by omega)).trans (Ca.out.keep hb6 (by omega)).1, (far3 _ _ _ _ _ _ _ (by omega)).trans (Cb.out.keep hb6 (by omega)).2.2⟩
      | exact ⟨(Ca.out.keep hb5 (by omega)).1, (Cb.out.keep hb5 (by omega)).2.2⟩
      | exact ⟨(Ca.out.keep (undrew hbA) (by omega)).1, (Cb.out.keep (undrew hbA) (by omega)).2.2⟩
      | go_keep)
    (first
      | (go_at_call 84; (with_reducible refine (D7.out _).mono ?_); rintro e wM ⟨rfl, hbA⟩)
      | (go_at_call 74; (with_reducible refine (D8.out _).mono ?_); rintro e wN ⟨rfl, hbB⟩
         have hb5 : Below wB.heap.size wB wN := (undrew hbA).trans (hbB.mono (undrew hbA).size))
      | (go_at_call 76; (with_reducible refine (D9.out _).mono ?_); rintro e wO ⟨rfl, hbC⟩
         have hb6 : Below wB.heap.size wB wO := hb5.trans (hbC.mono hb5.size)
         obtain ⟨r0, r1, r2⟩ := Cr.out.keep hb6 (by omega)
         have zf := frozen_keep Fr.out hb6 (by omega)))
  have B6 := Lib.hid (HB.out.trans (hb6.mono HB.out.size))
  obtain ⟨e0, e1, e2⟩ := res_cells r0 r1 r2 (.bool yn) (.string yi) (.string yf)
  go_wp2
  exact bodyPost_ret (v := .tuple #[.agg #[.bool yn, .string yi, .string yf], .int .i64 c]) (by simp [results, Try.results40, go_sem, e0, e1, e2]) rfl ⟨rfl, res_below B6.out (by omega) _ _ _⟩

set_option maxHeartbeats 4000000 in
set_option maxRecDepth 100000 in
theorem rs_err_g (an : Bool) (ai af bi bf : ByteArray) (mode : Int) (UT NN BT QQ : ByteArray) (w : World) (H1 : (∀ wx : World, Calls Try.prog 71 #[(.agg #[.bool an, .string ai, .string af]), .int .i64 mode] wx fun e w' => e = .returned (.int .i64 0) ∧ Below wx.heap.size wx w')) (H2 : (∀ wx : World, Calls Try.prog 54 #[(.agg #[.bool false, .string bi, .string bf])] wx fun e w' => e = .returned (.int .i64 0) ∧ Below wx.heap.size wx w')) (H3 : (∀ (wx : World) {X : ByteArray}, X = bi ++ bf → Calls Try.prog 81 #[.string X] wx fun r w' => r = .returned (.string UT) ∧ Below wx.heap.size wx w')) (H4 : (∀ (wx : World) {nI : Int}, nI = (af.size : Int) - (bf.size : Int) → Calls Try.prog 73 #[.int .i64 nI] wx fun r w' => r = .returned (.string NN) ∧ Below wx.heap.size wx w')) (H5 : (∀ (wx : World) {X : ByteArray}, X = bi ++ bf ++ NN → Calls Try.prog 81 #[.string X] wx fun r w' => r = .returned (.string BT) ∧ Below wx.heap.size wx w')) (H6 : (∀ (wx : World) {X : ByteArray}, X = ai ++ af → Calls Try.prog 72 #[.int .i64 mode, .bool an, .string X, .string BT] wx fun r w' => r = .returned (.tuple #[.string QQ, .int .i64 31]) ∧ Below wx.heap.size wx w')) (h5 : bi.size + bf.size ≤ 1000) (h4 : ai.size + af.size ≤ 1000) (h6 : NN.size ≤ 1000) (hz : (UT.toList == [48]) = false) (hl : ¬ af.size < bf.size) :
    Calls Try.prog 40 #[(.agg #[.bool an, .string ai, .string af]), .int .i64 mode, (.agg #[.bool false, .string bi, .string bf])] w fun e w' => e = .returned (.tuple #[.agg #[.bool false, .string ⟨#[]⟩, .string ⟨#[]⟩], .int .i64 31]) ∧ Below w.heap.size w w' := by
  have D1 := Lib.hid H1
  have D2 := Lib.hid H2
  have D3 := Lib.hid H3
  have D4 := Lib.hid H4
  have D5 := Lib.hid H5
  have D6 := Lib.hid H6
  clear H1 H2 H3 H4 H5 H6
  have q0 : ((0 : Int) != 0) = false := by decide
  have g1 : ¬ 9223372036854775807 < bi.size + bf.size := by omega
  have g2 : ¬ 9223372036854775807 < ai.size + af.size := by omega
  have qz : (UT.toList == [48]) = false := hz
  have q31 : ((31 : Int) != 0) = true := by decide
  have g3 : ¬ 9223372036854775807 < bi.size + bf.size + NN.size := by omega
  have ql : decide ((af.size : Int) < (bf.size : Int)) = false := decide_eq_false (by omega)
  have ql2 : decide (af.size < bf.size) = false := decide_eq_false (by omega)
  have wz : IntKind.i64.wrap ((af.size : Int) - (bf.size : Int)) = (af.size : Int) - (bf.size : Int) := IntWalk.i64_in _ (by omega)
  go_enter Try.func40, Try.ntmps40
  go_wp2_with fail
  obtain ⟨W0, hW0⟩ : ∃ W0, W0 = (((w.alloc (.cells #[.bool an, .string ai, .string af] 23)).alloc (.cells #[.bool false, .string bi, .string bf] 23)).alloc (.cells #[.bool false, .string ⟨#[]⟩, .string ⟨#[]⟩] 23)) := ⟨_, rfl⟩
  obtain ⟨hB, hz, C0, C1, C2, FL⟩ : Below w.heap.size w W0 ∧ w.heap.size + 3 ≤ W0.heap.size ∧ Cells3 W0 w.heap.size (.bool an) (.string ai) (.string af) ∧ Cells3 W0 (w.heap.size + 1) (.bool false) (.string bi) (.string bf) ∧ Cells3 W0 (w.heap.size + 2) (.bool false) (.string ⟨#[]⟩) (.string ⟨#[]⟩) ∧ ∀ i, W0.frozen? ⟨(w.heap.size + 2), i, none⟩ = false := by rw [hW0]; exact ⟨below_three w _ _ _, three_boxes w _ _ _ _ _ _ _ _ _ _⟩
  have z0 : w.heap.size + 1 ≤ W0.heap.size := by omega
  have z1 : (w.heap.size + 1) + 1 ≤ W0.heap.size := by omega
  have z2 : (w.heap.size + 2) + 1 ≤ W0.heap.size := by omega
  rw [← hW0]
  have HB := Lib.hid hB
  have F2 := Lib.hid FL
  clear hW0 hB hz FL
  (with_reducible refine (D1.out _).mono ?_)
  rintro e V1 ⟨rfl, hb⟩
  replace F2 := Lib.hid (frozen_keep F2.out hb (by omega))
  replace C0 := C0.keep hb (by omega)
  replace z0 : w.heap.size + 1 ≤ V1.heap.size := by have := hb.size; omega
  replace C1 := C1.keep hb (by omega)
  replace z1 : (w.heap.size + 1) + 1 ≤ V1.heap.size := by have := hb.size; omega
  replace C2 := C2.keep hb (by omega)
  replace z2 : (w.heap.size + 2) + 1 ≤ V1.heap.size := by have := hb.size; omega
  replace HB := Lib.hid (HB.out.trans (hb.mono HB.out.size))
  clear hb
  have o00 := C0.1
  have o10 := C1.1
  have o20 := C2.1
  have o01 := C0.2.1
  have o02 := C0.2.2
  have o11 := C1.2.1
  have o12 := C1.2.2
  have o21 := C2.2.1
  have o22 := C2.2.2
  go_wp2_with fail
  clear o00 o01 o02 o10 o11 o12 o20 o21 o22
  (with_reducible refine (D2.out _).mono ?_)
  rintro e V2 ⟨rfl, hb⟩
  replace F2 := Lib.hid (frozen_keep F2.out hb (by omega))
  replace C0 := C0.keep hb (by omega)
  replace z0 : w.heap.size + 1 ≤ V2.heap.size := by have := hb.size; omega
  replace C1 := C1.keep hb (by omega)
  replace z1 : (w.heap.size + 1) + 1 ≤ V2.heap.size := by have := hb.size; omega
  replace C2 := C2.keep hb (by omega)
  replace z2 : (w.heap.size + 2) + 1 ≤ V2.heap.size := by have := hb.size; omega
  replace HB := Lib.hid (HB.out.trans (hb.mono HB.out.size))
  clear hb
  have o00 := C0.1
  have o10 := C1.1
  have o20 := C2.1
  have o01 := C0.2.1
  have o02 := C0.2.2
  have o11 := C1.2.1
  have o12 := C1.2.2
  have o21 := C2.2.1
  have o22 := C2.2.2
  go_wp2_with fail
  clear o00 o01 o02 o10 o11 o12 o20 o21 o22
  (with_reducible refine (D3.out _ ?_).mono ?_)
  · rfl
  rintro e V3 ⟨rfl, hb⟩
  replace F2 := Lib.hid (frozen_keep F2.out hb (by omega))
  replace C0 := C0.keep hb (by omega)
  replace z0 : w.heap.size + 1 ≤ V3.heap.size := by have := hb.size; omega
  replace C1 := C1.keep hb (by omega)
  replace z1 : (w.heap.size + 1) + 1 ≤ V3.heap.size := by have := hb.size; omega
  replace C2 := C2.keep hb (by omega)
  replace z2 : (w.heap.size + 2) + 1 ≤ V3.heap.size := by have := hb.size; omega
  replace HB := Lib.hid (HB.out.trans (hb.mono HB.out.size))
  clear hb
  have o00 := C0.1
  have o10 := C1.1
  have o20 := C2.1
  have o01 := C0.2.1
  have o02 := C0.2.2
  have o11 := C1.2.1
  have o12 := C1.2.2
  have o21 := C2.2.1
  have o22 := C2.2.2
  go_upto_region 10 with fail
  go_region
  go_wp2_with fail
  clear o00 o01 o02 o10 o11 o12 o20 o21 o22
  (with_reducible refine (D4.out _ ?_).mono ?_)
  · rfl
  rintro e V4 ⟨rfl, hb0⟩
  have hb : Below V3.heap.size V3 V4 := undrew hb0
  clear hb0
  replace F2 := Lib.hid (frozen_keep F2.out hb (by omega))
  replace C0 := C0.keep hb (by omega)
  replace z0 : w.heap.size + 1 ≤ V4.heap.size := by have := hb.size; omega
  replace C1 := C1.keep hb (by omega)
  replace z1 : (w.heap.size + 1) + 1 ≤ V4.heap.size := by have := hb.size; omega
  replace C2 := C2.keep hb (by omega)
  replace z2 : (w.heap.size + 2) + 1 ≤ V4.heap.size := by have := hb.size; omega
  replace HB := Lib.hid (HB.out.trans (hb.mono HB.out.size))
  clear hb
  have o00 := C0.1
  have o10 := C1.1
  have o20 := C2.1
  have o01 := C0.2.1
  have o02 := C0.2.2
  have o11 := C1.2.1
  have o12 := C1.2.2
  have o21 := C2.2.1
  have o22 := C2.2.2
  go_upto_region 14 with fail
  clear o00 o01 o02 o10 o11 o12 o20 o21 o22
  have Ch := Lib.hid C0
  obtain ⟨s0, s1, s2⟩ := C0
  have C0 := Ch.out
  go_region_held3 (fun w' => (w'.cell? ⟨w.heap.size, 0, none⟩ = some (.bool an) ∧ w'.cell? ⟨w.heap.size, 1, none⟩ = some (.string ai) ∧ w'.cell? ⟨w.heap.size, 2, none⟩ = some (.string af)))
    (first
      | exact ⟨s0, s1, s2⟩
      | (have t := Ch.out.keep hb4 (by omega); exact ⟨t.1, t.2.1, t.2.2⟩)
      | (have t := Ch.out.keep (undrew hbA) (by omega); exact ⟨t.1, t.2.1, t.2.2⟩)
      | go_keep)
    (first
      | (go_at_call 81; (with_reducible refine (D5.out _ ?_).mono ?_); (focus rfl); rintro e wA ⟨rfl, hbA⟩)
      | (go_at_call 72; (with_reducible refine (D6.out _ ?_).mono ?_); (focus rfl); rintro e wB ⟨rfl, hbB⟩
         have hb4 : Below V4.heap.size V4 wB := (undrew hbA).trans (hbB.mono (undrew hbA).size)))
  replace F2 := Lib.hid (frozen_keep F2.out hb4 (by omega))
  replace C0 := C0.keep hb4 (by omega)
  replace z0 : w.heap.size + 1 ≤ wB.heap.size := by have := hb4.size; omega
  replace C1 := C1.keep hb4 (by omega)
  replace z1 : (w.heap.size + 1) + 1 ≤ wB.heap.size := by have := hb4.size; omega
  replace C2 := C2.keep hb4 (by omega)
  replace z2 : (w.heap.size + 2) + 1 ≤ wB.heap.size := by have := hb4.size; omega
  replace HB := Lib.hid (HB.out.trans (hb4.mono HB.out.size))
  clear hb4 hbA hbB s0 s1 s2 Ch
  have o00 := C0.1
  have o10 := C1.1
  have o20 := C2.1
  have o01 := C0.2.1
  have o02 := C0.2.2
  have o11 := C1.2.1
  have o12 := C1.2.2
  have o21 := C2.2.1
  have o22 := C2.2.2
  obtain ⟨r0, r1, r2⟩ := C2
  have z0 := F2.out
  obtain ⟨e0, e1, e2⟩ := res_cells r0 r1 r2 (.bool false) (.string ⟨#[]⟩) (.string ⟨#[]⟩)
  go_wp2
  exact bodyPost_ret (v := .tuple #[.agg #[.bool false, .string ⟨#[]⟩, .string ⟨#[]⟩], .int .i64 31]) (by simp [results, Try.results40, go_sem, e0, e1, e2]) rfl ⟨rfl, res_below HB.out (by omega) _ _ _⟩

set_option maxHeartbeats 4000000 in
set_option maxRecDepth 100000 in
theorem rs_ok_g (an : Bool) (ai af bi bf : ByteArray) (mode : Int) (UT NN BT QQ : ByteArray) (MM : ByteArray) (xn yn : Bool) (xi xf yi yf : ByteArray) (c : Int) (w : World) (H1 : (∀ wx : World, Calls Try.prog 71 #[(.agg #[.bool an, .string ai, .string af]), .int .i64 mode] wx fun e w' => e = .returned (.int .i64 0) ∧ Below wx.heap.size wx w')) (H2 : (∀ wx : World, Calls Try.prog 54 #[(.agg #[.bool false, .string bi, .string bf])] wx fun e w' => e = .returned (.int .i64 0) ∧ Below wx.heap.size wx w')) (H3 : (∀ (wx : World) {X : ByteArray}, X = bi ++ bf → Calls Try.prog 81 #[.string X] wx fun r w' => r = .returned (.string UT) ∧ Below wx.heap.size wx w')) (H4 : (∀ (wx : World) {nI : Int}, nI = (af.size : Int) - (bf.size : Int) → Calls Try.prog 73 #[.int .i64 nI] wx fun r w' => r = .returned (.string NN) ∧ Below wx.heap.size wx w')) (H5 : (∀ (wx : World) {X : ByteArray}, X = bi ++ bf ++ NN → Calls Try.prog 81 #[.string X] wx fun r w' => r = .returned (.string BT) ∧ Below wx.heap.size wx w')) (H6 : (∀ (wx : World) {X : ByteArray}, X = ai ++ af → Calls Try.prog 72 #[.int .i64 mode, .bool an, .string X, .string BT] wx fun r w' => r = .returned (.tuple #[.string QQ, .int .i64 0]) ∧ Below wx.heap.size wx w')) (H7 : (∀ wx : World, Calls Try.prog 84 #[.string QQ, .string UT] wx fun e w' => e = .returned (.string MM) ∧ Below wx.heap.size wx w')) (H8 : (∀ wx : World, Calls Try.prog 74 #[.bool an, .string MM, .int .i64 bf.size] wx fun e w' => e = .returned (.agg #[.bool xn, .string xi, .string xf]) ∧ Below wx.heap.size wx w')) (H9 : (∀ wx : World, Calls Try.prog 76 #[(.agg #[.bool xn, .string xi, .string xf])] wx fun e w' => e = .returned (.tuple #[(.agg #[.bool yn, .string yi, .string yf]), .int .i64 c]) ∧ Below wx.heap.size wx w')) (h5 : bi.size + bf.size ≤ 1000) (h4 : ai.size + af.size ≤ 1000) (h6 : NN.size ≤ 1000) (hz : (UT.toList == [48]) = false) (hl : ¬ af.size < bf.size) :
    Calls Try.prog 40 #[(.agg #[.bool an, .string ai, .string af]), .int .i64 mode, (.agg #[.bool false, .string bi, .string bf])] w fun e w' => e = .returned (.tuple #[(.agg #[.bool yn, .string yi, .string yf]), .int .i64 c]) ∧ Below w.heap.size w w' := by
  have D1 := Lib.hid H1
  have D2 := Lib.hid H2
  have D3 := Lib.hid H3
  have D4 := Lib.hid H4
  have D5 := Lib.hid H5
  have D6 := Lib.hid H6
  have D7 := Lib.hid H7
  have D8 := Lib.hid H8
  have D9 := Lib.hid H9
  clear H1 H2 H3 H4 H5 H6 H7 H8 H9
  have q0 : ((0 : Int) != 0) = false := by decide
  have g1 : ¬ 9223372036854775807 < bi.size + bf.size := by omega
  have g2 : ¬ 9223372036854775807 < ai.size + af.size := by omega
  have qz : (UT.toList == [48]) = false := hz
  have q31 : ((31 : Int) != 0) = true := by decide
  have g3 : ¬ 9223372036854775807 < bi.size + bf.size + NN.size := by omega
  have ql : decide ((af.size : Int) < (bf.size : Int)) = false := decide_eq_false (by omega)
  have ql2 : decide (af.size < bf.size) = false := decide_eq_false (by omega)
  have wz : IntKind.i64.wrap ((af.size : Int) - (bf.size : Int)) = (af.size : Int) - (bf.size : Int) := IntWalk.i64_in _ (by omega)
  go_enter Try.func40, Try.ntmps40
  go_wp2_with fail
  obtain ⟨W0, hW0⟩ : ∃ W0, W0 = (((w.alloc (.cells #[.bool an, .string ai, .string af] 23)).alloc (.cells #[.bool false, .string bi, .string bf] 23)).alloc (.cells #[.bool false, .string ⟨#[]⟩, .string ⟨#[]⟩] 23)) := ⟨_, rfl⟩
  obtain ⟨hB, hz, C0, C1, C2, FL⟩ : Below w.heap.size w W0 ∧ w.heap.size + 3 ≤ W0.heap.size ∧ Cells3 W0 w.heap.size (.bool an) (.string ai) (.string af) ∧ Cells3 W0 (w.heap.size + 1) (.bool false) (.string bi) (.string bf) ∧ Cells3 W0 (w.heap.size + 2) (.bool false) (.string ⟨#[]⟩) (.string ⟨#[]⟩) ∧ ∀ i, W0.frozen? ⟨(w.heap.size + 2), i, none⟩ = false := by rw [hW0]; exact ⟨below_three w _ _ _, three_boxes w _ _ _ _ _ _ _ _ _ _⟩
  have z0 : w.heap.size + 1 ≤ W0.heap.size := by omega
  have z1 : (w.heap.size + 1) + 1 ≤ W0.heap.size := by omega
  have z2 : (w.heap.size + 2) + 1 ≤ W0.heap.size := by omega
  rw [← hW0]
  have HB := Lib.hid hB
  have F2 := Lib.hid FL
  clear hW0 hB hz FL
  (with_reducible refine (D1.out _).mono ?_)
  rintro e V1 ⟨rfl, hb⟩
  replace F2 := Lib.hid (frozen_keep F2.out hb (by omega))
  replace C0 := C0.keep hb (by omega)
  replace z0 : w.heap.size + 1 ≤ V1.heap.size := by have := hb.size; omega
  replace C1 := C1.keep hb (by omega)
  replace z1 : (w.heap.size + 1) + 1 ≤ V1.heap.size := by have := hb.size; omega
  replace C2 := C2.keep hb (by omega)
  replace z2 : (w.heap.size + 2) + 1 ≤ V1.heap.size := by have := hb.size; omega
  replace HB := Lib.hid (HB.out.trans (hb.mono HB.out.size))
  clear hb
  have o00 := C0.1
  have o10 := C1.1
  have o20 := C2.1
  have o01 := C0.2.1
  have o02 := C0.2.2
  have o11 := C1.2.1
  have o12 := C1.2.2
  have o21 := C2.2.1
  have o22 := C2.2.2
  go_wp2_with fail
  clear o00 o01 o02 o10 o11 o12 o20 o21 o22
  (with_reducible refine (D2.out _).mono ?_)
  rintro e V2 ⟨rfl, hb⟩
  replace F2 := Lib.hid (frozen_keep F2.out hb (by omega))
  replace C0 := C0.keep hb (by omega)
  replace z0 : w.heap.size + 1 ≤ V2.heap.size := by have := hb.size; omega
  replace C1 := C1.keep hb (by omega)
  replace z1 : (w.heap.size + 1) + 1 ≤ V2.heap.size := by have := hb.size; omega
  replace C2 := C2.keep hb (by omega)
  replace z2 : (w.heap.size + 2) + 1 ≤ V2.heap.size := by have := hb.size; omega
  replace HB := Lib.hid (HB.out.trans (hb.mono HB.out.size))
  clear hb
  have o00 := C0.1
  have o10 := C1.1
  have o20 := C2.1
  have o01 := C0.2.1
  have o02 := C0.2.2
  have o11 := C1.2.1
  have o12 := C1.2.2
  have o21 := C2.2.1
  have o22 := C2.2.2
  go_wp2_with fail
  clear o00 o01 o02 o10 o11 o12 o20 o21 o22
  (with_reducible refine (D3.out _ ?_).mono ?_)
  · rfl
  rintro e V3 ⟨rfl, hb⟩
  replace F2 := Lib.hid (frozen_keep F2.out hb (by omega))
  replace C0 := C0.keep hb (by omega)
  replace z0 : w.heap.size + 1 ≤ V3.heap.size := by have := hb.size; omega
  replace C1 := C1.keep hb (by omega)
  replace z1 : (w.heap.size + 1) + 1 ≤ V3.heap.size := by have := hb.size; omega
  replace C2 := C2.keep hb (by omega)
  replace z2 : (w.heap.size + 2) + 1 ≤ V3.heap.size := by have := hb.size; omega
  replace HB := Lib.hid (HB.out.trans (hb.mono HB.out.size))
  clear hb
  have o00 := C0.1
  have o10 := C1.1
  have o20 := C2.1
  have o01 := C0.2.1
  have o02 := C0.2.2
  have o11 := C1.2.1
  have o12 := C1.2.2
  have o21 := C2.2.1
  have o22 := C2.2.2
  go_upto_region 10 with fail
  go_region
  go_wp2_with fail
  clear o00 o01 o02 o10 o11 o12 o20 o21 o22
  (with_reducible refine (D4.out _ ?_).mono ?_)
  · rfl
  rintro e V4 ⟨rfl, hb0⟩
  have hb : Below V3.heap.size V3 V4 := undrew hb0
  clear hb0
  replace F2 := Lib.hid (frozen_keep F2.out hb (by omega))
  replace C0 := C0.keep hb (by omega)
  replace z0 : w.heap.size + 1 ≤ V4.heap.size := by have := hb.size; omega
  replace C1 := C1.keep hb (by omega)
  replace z1 : (w.heap.size + 1) + 1 ≤ V4.heap.size := by have := hb.size; omega
  replace C2 := C2.keep hb (by omega)
  replace z2 : (w.heap.size + 2) + 1 ≤ V4.heap.size := by have := hb.size; omega
  replace HB := Lib.hid (HB.out.trans (hb.mono HB.out.size))
  clear hb
  have o00 := C0.1
  have o10 := C1.1
  have o20 := C2.1
  have o01 := C0.2.1
  have o02 := C0.2.2
  have o11 := C1.2.1
  have o12 := C1.2.2
  have o21 := C2.2.1
  have o22 := C2.2.2
  go_upto_region 14 with fail
  clear o00 o01 o02 o10 o11 o12 o20 o21 o22
  have Ch := Lib.hid C0
  obtain ⟨s0, s1, s2⟩ := C0
  have C0 := Ch.out
  go_region_held3 (fun w' => (w'.cell? ⟨w.heap.size, 0, none⟩ = some (.bool an) ∧ w'.cell? ⟨w.heap.size, 1, none⟩ = some (.string ai) ∧ w'.cell? ⟨w.heap.size, 2, none⟩ = some (.string af)))
    (first
      | exact ⟨s0, s1, s2⟩
      | (have t := Ch.out.keep hb4 (by omega); exact ⟨t.1, t.2.1, t.2.2⟩)
      | (have t := Ch.out.keep (undrew hbA) (by omega); exact ⟨t.1, t.2.1, t.2.2⟩)
      | go_keep)
    (first
      | (go_at_call 81; (with_reducible refine (D5.out _ ?_).mono ?_); (focus rfl); rintro e wA ⟨rfl, hbA⟩)
      | (go_at_call 72; (with_reducible refine (D6.out _ ?_).mono ?_); (focus rfl); rintro e wB ⟨rfl, hbB⟩
         have hb4 : Below V4.heap.size V4 wB := (undrew hbA).trans (hbB.mono (undrew hbA).size)))
  replace F2 := Lib.hid (frozen_keep F2.out hb4 (by omega))
  replace C0 := C0.keep hb4 (by omega)
  replace z0 : w.heap.size + 1 ≤ wB.heap.size := by have := hb4.size; omega
  replace C1 := C1.keep hb4 (by omega)
  replace z1 : (w.heap.size + 1) + 1 ≤ wB.heap.size := by have := hb4.size; omega
  replace C2 := C2.keep hb4 (by omega)
  replace z2 : (w.heap.size + 2) + 1 ≤ wB.heap.size := by have := hb4.size; omega
  replace HB := Lib.hid (HB.out.trans (hb4.mono HB.out.size))
  clear hb4 hbA hbB s0 s1 s2 Ch
  have o00 := C0.1
  have o10 := C1.1
  have o20 := C2.1
  have o01 := C0.2.1
  have o02 := C0.2.2
  have o11 := C1.2.1
  have o12 := C1.2.2
  have o21 := C2.2.1
  have o22 := C2.2.2
  go_upto_region 17 with fail
  clear o00 o01 o02 o10 o11 o12 o20 o21 o22
  have Ca := Lib.hid C0
  have Cb := Lib.hid C1
  have Cr := Lib.hid C2
  have Fr := F2
  obtain ⟨s0, s1, s2⟩ := C0
  obtain ⟨t0, t1, t2⟩ := C1
  go_region_held3 (fun w' => w'.cell? ⟨w.heap.size, 0, none⟩ = some (.bool an) ∧ w'.cell? ⟨w.heap.size + 1, 2, none⟩ = some (.string bf))
    (first
      | exact ⟨s0, t2⟩
      | exact ⟨(Ca.out.keep hb6 (by omega)).1, (Cb.out.keep hb6 (by omega)).2.2⟩
      | exact ⟨(far3 _ _ _ _ _ _ _ (by omega)).trans (Ca.out.keep hb6 (by omega)).1, (far3 _ _ _ _ _ _ _ (by omega)).trans (Cb.out.keep hb6 (by omega)).2.2⟩
      | exact ⟨(Ca.out.keep hb5 (by omega)).1, (Cb.out.keep hb5 (by omega)).2.2⟩
      | exact ⟨(Ca.out.keep (undrew hbA) (by omega)).1, (Cb.out.keep (undrew hbA) (by omega)).2.2⟩
      | go_keep)
    (first
      | (go_at_call 84; (with_reducible refine (D7.out _).mono ?_); rintro e wM ⟨rfl, hbA⟩)
      | (go_at_call 74; (with_reducible refine (D8.out _).mono ?_); rintro e wN ⟨rfl, hbB⟩
         have hb5 : Below wB.heap.size wB wN := (undrew hbA).trans (hbB.mono (undrew hbA).size))
      | (go_at_call 76; (with_reducible refine (D9.out _).mono ?_); rintro e wO ⟨rfl, hbC⟩
         have hb6 : Below wB.heap.size wB wO := hb5.trans (hbC.mono hb5.size)
         obtain ⟨r0, r1, r2⟩ := Cr.out.keep hb6 (by omega)
         have zf := frozen_keep Fr.out hb6 (by omega)))
  have B6 := Lib.hid (HB.out.trans (hb6.mono HB.out.size))
  obtain ⟨e0, e1, e2⟩ := res_cells r0 r1 r2 (.bool yn) (.string yi) (.string yf)
  go_wp2
  exact bodyPost_ret (v := .tuple #[.agg #[.bool yn, .string yi, .string yf], .int .i64 c]) (by simp [results, Try.results40, go_sem, e0, e1, e2]) rfl ⟨rfl, res_below B6.out (by omega) _ _ _⟩
end Go.Proofs.Ytmaljkjcibdbgaa
