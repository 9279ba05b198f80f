/- Fix of both sides (RoFix, RrFix, RrFixB, RoFixP in one, above RgA). -/
import Derived.Test.YtcdmanhhddcmcaaRgA
import Derived.Deep.RegionWith
namespace Go.Proofs.Ytcdmanhhddcmcaa
open Go.RowKit
attribute [local go_sem ↓] Go.wp_at_zero Go.wp_at_succ
theorem set_box {W : World} {b : Nat} {x0 x1 x2 : Value} (h : Cells3 W b x0 x1 x2) (y0 y1 y2 : Value) : Cells3 (((W.setCell ⟨b, 0, none⟩ y0).setCell ⟨b, 1, none⟩ y1).setCell ⟨b, 2, none⟩ y2) b y0 y1 y2 :=
  ⟨cell_set_far _ _ _ _ _ _ (by decide) (cell_set_far _ _ _ _ _ _ (by decide) (cell_set_same _ _ _ _ h.1)), cell_set_far _ _ _ _ _ _ (by decide) (cell_set_same _ _ _ _ (cell_set_far _ _ _ _ _ _ (by decide) h.2.1)), cell_set_same _ _ _ _ (cell_set_far _ _ _ _ _ _ (by decide) (cell_set_far _ _ _ _ _ _ (by decide) h.2.2))⟩
theorem far_box {W : World} {b c : Nat} {x0 x1 x2 : Value} (h : Cells3 W b x0 x1 x2) (hne : b ≠ c) (y0 y1 y2 : Value) : Cells3 (((W.setCell ⟨c, 0, none⟩ y0).setCell ⟨c, 1, none⟩ y1).setCell ⟨c, 2, none⟩ y2) b x0 x1 x2 :=
  ⟨(far3 _ _ _ _ _ _ _ hne).trans h.1, (far3 _ _ _ _ _ _ _ hne).trans h.2.1, (far3 _ _ _ _ _ _ _ hne).trans h.2.2⟩


set_option maxHeartbeats 4000000 in
set_option maxRecDepth 100000 in
theorem fx_bad (an : Bool) (ai af : ByteArray) (mode least most : Int) (ec : Int) (w : World) (H1 : (∀ wx : World, Calls Try.prog 55 #[(.agg #[.bool an, .string ai, .string af]), .int .i64 mode, .int .i64 0, .int .i64 least, .int .i64 most] wx fun e w' => e = .returned (.int .i64 ec) ∧ Below wx.heap.size wx w')) (he : (ec != 0) = true) :
    Calls Try.prog 30 #[(.agg #[.bool an, .string ai, .string af]), .int .i64 mode, .int .i64 least, .int .i64 most] w fun e w' => e = .returned (.tuple #[.agg #[.bool false, .string ⟨#[]⟩, .string ⟨#[]⟩], .int .i64 ec]) ∧ Below w.heap.size w w' := by
  have D1 := Lib.hid H1
  clear H1
  go_enter Try.func30, Try.ntmps30
  go_wp2_with fail
  obtain ⟨W0, hW0⟩ : ∃ W0, W0 = ((w.alloc (.cells #[.bool an, .string ai, .string af] 23)).alloc (.cells #[.bool false, .string ⟨#[]⟩, .string ⟨#[]⟩] 23)) := ⟨_, rfl⟩
  obtain ⟨hB, hz, C0, C1, FL⟩ : Below w.heap.size w W0 ∧ w.heap.size + 2 ≤ W0.heap.size ∧ Cells3 W0 w.heap.size (.bool an) (.string ai) (.string af) ∧ Cells3 W0 (w.heap.size + 1) (.bool false) (.string ⟨#[]⟩) (.string ⟨#[]⟩) ∧ ∀ i, W0.frozen? ⟨(w.heap.size + 1), i, none⟩ = false := by rw [hW0]; exact ⟨below_two w _ _, two_boxes w _ _ _ _ _ _ _⟩
  have z0 : w.heap.size + 1 ≤ W0.heap.size := by omega
  have z1 : (w.heap.size + 1) + 1 ≤ W0.heap.size := by omega
  rw [← hW0]
  have HB := Lib.hid hB
  have F1 := Lib.hid FL
  clear hW0 hB hz FL
  (with_reducible refine (D1.out _).mono ?_)
  rintro e V1 ⟨rfl, hb⟩
  replace F1 := Lib.hid (frozen_keep F1.out hb (by omega))
  replace C0 := C0.keep hb (by omega)
  replace z0 : w.heap.size + 1 ≤ V1.heap.size := by have := hb.size; omega
  replace C1 := C1.keep hb (by omega)
  replace z1 : (w.heap.size + 1) + 1 ≤ V1.heap.size := by have := hb.size; omega
  replace HB := Lib.hid (HB.out.trans (hb.mono HB.out.size))
  clear hb
  have o00 := C0.1
  have o10 := C1.1
  have o01 := C0.2.1
  have o02 := C0.2.2
  have o11 := C1.2.1
  have o12 := C1.2.2
  obtain ⟨r0, r1, r2⟩ := C1
  have z0 := F1.out
  obtain ⟨e0, e1, e2⟩ := res_cells r0 r1 r2 (.bool false) (.string ⟨#[]⟩) (.string ⟨#[]⟩)
  go_wp2
  exact bodyPost_ret (v := .tuple #[.agg #[.bool false, .string ⟨#[]⟩, .string ⟨#[]⟩], .int .i64 ec]) (by simp [results, Try.results30, go_sem, e0, e1, e2]) rfl ⟨rfl, res_below HB.out (by omega) _ _ _⟩

set_option maxHeartbeats 4000000 in
set_option maxRecDepth 100000 in
theorem fx_err (an : Bool) (ai af : ByteArray) (mode least most : Int) (yn : Bool) (yi yf : ByteArray) (c : Int) (w : World) (H1 : (∀ wx : World, Calls Try.prog 55 #[(.agg #[.bool an, .string ai, .string af]), .int .i64 mode, .int .i64 0, .int .i64 least, .int .i64 most] wx fun e w' => e = .returned (.int .i64 0) ∧ Below wx.heap.size wx w')) (H2 : (∀ wx : World, Calls Try.prog 67 #[(.agg #[.bool an, .string ai, .string af]), .int .i64 mode, .int .i64 most] wx fun e w' => e = .returned (.tuple #[(.agg #[.bool yn, .string yi, .string yf]), .int .i64 c]) ∧ Below wx.heap.size wx w')) (he : (c != 0) = true) :
    Calls Try.prog 30 #[(.agg #[.bool an, .string ai, .string af]), .int .i64 mode, .int .i64 least, .int .i64 most] w fun e w' => e = .returned (.tuple #[.agg #[.bool false, .string ⟨#[]⟩, .string ⟨#[]⟩], .int .i64 c]) ∧ Below w.heap.size w w' := by
  have D1 := Lib.hid H1
  have D2 := Lib.hid H2
  clear H1 H2
  have q0 : ((0 : Int) != 0) = false := by decide
  go_enter Try.func30, Try.ntmps30
  go_wp2_with fail
  obtain ⟨W0, hW0⟩ : ∃ W0, W0 = ((w.alloc (.cells #[.bool an, .string ai, .string af] 23)).alloc (.cells #[.bool false, .string ⟨#[]⟩, .string ⟨#[]⟩] 23)) := ⟨_, rfl⟩
  obtain ⟨hB, hz, C0, C1, FL⟩ : Below w.heap.size w W0 ∧ w.heap.size + 2 ≤ W0.heap.size ∧ Cells3 W0 w.heap.size (.bool an) (.string ai) (.string af) ∧ Cells3 W0 (w.heap.size + 1) (.bool false) (.string ⟨#[]⟩) (.string ⟨#[]⟩) ∧ ∀ i, W0.frozen? ⟨(w.heap.size + 1), i, none⟩ = false := by rw [hW0]; exact ⟨below_two w _ _, two_boxes w _ _ _ _ _ _ _⟩
  have z0 : w.heap.size + 1 ≤ W0.heap.size := by omega
  have z1 : (w.heap.size + 1) + 1 ≤ W0.heap.size := by omega
  rw [← hW0]
  have HB := Lib.hid hB
  have F1 := Lib.hid FL
  have F0 := Lib.hid (show ∀ i, W0.frozen? ⟨w.heap.size, i, none⟩ = false by rw [hW0]; exact frozen_keep (one_box w (.bool an) (.string ai) (.string af) 23).2.2 ((Below.refl _ _).alloc (Nat.le_refl _) _) (by simp))
  clear hW0 hB hz FL
  (with_reducible refine (D1.out _).mono ?_)
  rintro e V1 ⟨rfl, hb⟩
  replace F0 := Lib.hid (frozen_keep F0.out hb (by omega))
  replace F1 := Lib.hid (frozen_keep F1.out hb (by omega))
  replace C0 := C0.keep hb (by omega)
  replace z0 : w.heap.size + 1 ≤ V1.heap.size := by have := hb.size; omega
  replace C1 := C1.keep hb (by omega)
  replace z1 : (w.heap.size + 1) + 1 ≤ V1.heap.size := by have := hb.size; omega
  replace HB := Lib.hid (HB.out.trans (hb.mono HB.out.size))
  clear hb
  have o00 := C0.1
  have o10 := C1.1
  have o01 := C0.2.1
  have o02 := C0.2.2
  have o11 := C1.2.1
  have o12 := C1.2.2
  go_wp2_with fail
  clear o00 o01 o02 o10 o11 o12
  (with_reducible refine (D2.out _).mono ?_)
  rintro e V2 ⟨rfl, hb⟩
  replace F0 := Lib.hid (frozen_keep F0.out hb (by omega))
  replace F1 := Lib.hid (frozen_keep F1.out hb (by omega))
  replace C0 := C0.keep hb (by omega)
  replace z0 : w.heap.size + 1 ≤ V2.heap.size := by have := hb.size; omega
  replace C1 := C1.keep hb (by omega)
  replace z1 : (w.heap.size + 1) + 1 ≤ V2.heap.size := by have := hb.size; omega
  replace HB := Lib.hid (HB.out.trans (hb.mono HB.out.size))
  clear hb
  have o00 := C0.1
  have o10 := C1.1
  have o01 := C0.2.1
  have o02 := C0.2.2
  have o11 := C1.2.1
  have o12 := C1.2.2
  have f0 := F0.out
  have f1 := F1.out
  go_wp2_with fail
  clear f0
  clear f1
  clear o00 o01 o02 o10 o11 o12
  obtain ⟨V2s, hV2s⟩ : ∃ X, X = ((V2.setCell ⟨w.heap.size, 0, none⟩ (.bool yn)).setCell ⟨w.heap.size, 1, none⟩ (.string yi)).setCell ⟨w.heap.size, 2, none⟩ (.string yf) := ⟨_, rfl⟩
  have C0n := set_box C0 (.bool yn) (.string yi) (.string yf)
  have C1n := far_box C1 (show (w.heap.size + 1) ≠ w.heap.size by omega) (.bool yn) (.string yi) (.string yf)
  have HBn := Lib.hid (res_below HB.out (show w.heap.size ≤ w.heap.size by omega) (.bool yn) (.string yi) (.string yf))
  have hsz : V2s.heap.size = V2.heap.size := by rw [hV2s]; simp [World.setCell]
  replace F0 : Hid (∀ i, V2s.frozen? ⟨w.heap.size, i, none⟩ = false) := by have t := F0.out; show ∀ i, _; rw [hV2s]; intro i; simpa using t i
  replace F1 : Hid (∀ i, V2s.frozen? ⟨(w.heap.size + 1), i, none⟩ = false) := by have t := F1.out; show ∀ i, _; rw [hV2s]; intro i; simpa using t i
  rw [← hV2s]
  rw [← hV2s] at HBn C0n C1n
  clear HB C0 C1 hV2s
  have HB := HBn
  clear HBn
  have C0 := C0n
  clear C0n
  replace z0 : w.heap.size + 1 ≤ V2s.heap.size := by omega
  have C1 := C1n
  clear C1n
  replace z1 : (w.heap.size + 1) + 1 ≤ V2s.heap.size := by omega
  clear hsz
  obtain ⟨r0, r1, r2⟩ := C1
  have z0 := F1.out
  obtain ⟨e0, e1, e2⟩ := res_cells r0 r1 r2 (.bool false) (.string ⟨#[]⟩) (.string ⟨#[]⟩)
  go_wp2
  exact bodyPost_ret (v := .tuple #[.agg #[.bool false, .string ⟨#[]⟩, .string ⟨#[]⟩], .int .i64 c]) (by simp [results, Try.results30, go_sem, e0, e1, e2]) rfl ⟨rfl, res_below HB.out (by omega) _ _ _⟩

set_option maxHeartbeats 4000000 in
set_option maxRecDepth 100000 in
theorem fx_ok (an : Bool) (ai af : ByteArray) (mode least most : Int) (yn : Bool) (yi yf : ByteArray) (xn : Bool) (xi xf : ByteArray) (c : Int) (w : World) (H1 : (∀ wx : World, Calls Try.prog 55 #[(.agg #[.bool an, .string ai, .string af]), .int .i64 mode, .int .i64 0, .int .i64 least, .int .i64 most] wx fun e w' => e = .returned (.int .i64 0) ∧ Below wx.heap.size wx w')) (H2 : (∀ wx : World, Calls Try.prog 67 #[(.agg #[.bool an, .string ai, .string af]), .int .i64 mode, .int .i64 most] wx fun e w' => e = .returned (.tuple #[(.agg #[.bool yn, .string yi, .string yf]), .int .i64 0]) ∧ Below wx.heap.size wx w')) (H3 : (∀ wx : World, Calls Try.prog 59 #[(.agg #[.bool yn, .string yi, .string yf]), .int .i64 least] wx fun e w' => e = .returned (.tuple #[(.agg #[.bool xn, .string xi, .string xf]), .int .i64 c]) ∧ Below wx.heap.size wx w'))  :
    Calls Try.prog 30 #[(.agg #[.bool an, .string ai, .string af]), .int .i64 mode, .int .i64 least, .int .i64 most] w fun e w' => e = .returned (.tuple #[(.agg #[.bool xn, .string xi, .string xf]), .int .i64 c]) ∧ Below w.heap.size w w' := by
  have D1 := Lib.hid H1
  have D2 := Lib.hid H2
  have D3 := Lib.hid H3
  clear H1 H2 H3
  have q0 : ((0 : Int) != 0) = false := by decide
  go_enter Try.func30, Try.ntmps30
  go_wp2_with fail
  obtain ⟨W0, hW0⟩ : ∃ W0, W0 = ((w.alloc (.cells #[.bool an, .string ai, .string af] 23)).alloc (.cells #[.bool false, .string ⟨#[]⟩, .string ⟨#[]⟩] 23)) := ⟨_, rfl⟩
  obtain ⟨hB, hz, C0, C1, FL⟩ : Below w.heap.size w W0 ∧ w.heap.size + 2 ≤ W0.heap.size ∧ Cells3 W0 w.heap.size (.bool an) (.string ai) (.string af) ∧ Cells3 W0 (w.heap.size + 1) (.bool false) (.string ⟨#[]⟩) (.string ⟨#[]⟩) ∧ ∀ i, W0.frozen? ⟨(w.heap.size + 1), i, none⟩ = false := by rw [hW0]; exact ⟨below_two w _ _, two_boxes w _ _ _ _ _ _ _⟩
  have z0 : w.heap.size + 1 ≤ W0.heap.size := by omega
  have z1 : (w.heap.size + 1) + 1 ≤ W0.heap.size := by omega
  rw [← hW0]
  have HB := Lib.hid hB
  have F1 := Lib.hid FL
  have F0 := Lib.hid (show ∀ i, W0.frozen? ⟨w.heap.size, i, none⟩ = false by rw [hW0]; exact frozen_keep (one_box w (.bool an) (.string ai) (.string af) 23).2.2 ((Below.refl _ _).alloc (Nat.le_refl _) _) (by simp))
  clear hW0 hB hz FL
  (with_reducible refine (D1.out _).mono ?_)
  rintro e V1 ⟨rfl, hb⟩
  replace F0 := Lib.hid (frozen_keep F0.out hb (by omega))
  replace F1 := Lib.hid (frozen_keep F1.out hb (by omega))
  replace C0 := C0.keep hb (by omega)
  replace z0 : w.heap.size + 1 ≤ V1.heap.size := by have := hb.size; omega
  replace C1 := C1.keep hb (by omega)
  replace z1 : (w.heap.size + 1) + 1 ≤ V1.heap.size := by have := hb.size; omega
  replace HB := Lib.hid (HB.out.trans (hb.mono HB.out.size))
  clear hb
  have o00 := C0.1
  have o10 := C1.1
  have o01 := C0.2.1
  have o02 := C0.2.2
  have o11 := C1.2.1
  have o12 := C1.2.2
  go_wp2_with fail
  clear o00 o01 o02 o10 o11 o12
  (with_reducible refine (D2.out _).mono ?_)
  rintro e V2 ⟨rfl, hb⟩
  replace F0 := Lib.hid (frozen_keep F0.out hb (by omega))
  replace F1 := Lib.hid (frozen_keep F1.out hb (by omega))
  replace C0 := C0.keep hb (by omega)
  replace z0 : w.heap.size + 1 ≤ V2.heap.size := by have := hb.size; omega
  replace C1 := C1.keep hb (by omega)
  replace z1 : (w.heap.size + 1) + 1 ≤ V2.heap.size := by have := hb.size; omega
  replace HB := Lib.hid (HB.out.trans (hb.mono HB.out.size))
  clear hb
  have o00 := C0.1
  have o10 := C1.1
  have o01 := C0.2.1
  have o02 := C0.2.2
  have o11 := C1.2.1
  have o12 := C1.2.2
  have f0 := F0.out
  have f1 := F1.out
  go_wp2_with fail
  clear f0
  clear f1
  clear o00 o01 o02 o10 o11 o12
  obtain ⟨V2s, hV2s⟩ : ∃ X, X = ((V2.setCell ⟨w.heap.size, 0, none⟩ (.bool yn)).setCell ⟨w.heap.size, 1, none⟩ (.string yi)).setCell ⟨w.heap.size, 2, none⟩ (.string yf) := ⟨_, rfl⟩
  have C0n := set_box C0 (.bool yn) (.string yi) (.string yf)
  have C1n := far_box C1 (show (w.heap.size + 1) ≠ w.heap.size by omega) (.bool yn) (.string yi) (.string yf)
  have HBn := Lib.hid (res_below HB.out (show w.heap.size ≤ w.heap.size by omega) (.bool yn) (.string yi) (.string yf))
  have hsz : V2s.heap.size = V2.heap.size := by rw [hV2s]; simp [World.setCell]
  replace F0 : Hid (∀ i, V2s.frozen? ⟨w.heap.size, i, none⟩ = false) := by have t := F0.out; show ∀ i, _; rw [hV2s]; intro i; simpa using t i
  replace F1 : Hid (∀ i, V2s.frozen? ⟨(w.heap.size + 1), i, none⟩ = false) := by have t := F1.out; show ∀ i, _; rw [hV2s]; intro i; simpa using t i
  rw [← hV2s]
  rw [← hV2s] at HBn C0n C1n
  clear HB C0 C1 hV2s
  have HB := HBn
  clear HBn
  have C0 := C0n
  clear C0n
  replace z0 : w.heap.size + 1 ≤ V2s.heap.size := by omega
  have C1 := C1n
  clear C1n
  replace z1 : (w.heap.size + 1) + 1 ≤ V2s.heap.size := by omega
  clear hsz
  (with_reducible refine (D3.out _).mono ?_)
  rintro e V3 ⟨rfl, hb⟩
  replace F0 := Lib.hid (frozen_keep F0.out hb (by omega))
  replace F1 := Lib.hid (frozen_keep F1.out hb (by omega))
  replace C0 := C0.keep hb (by omega)
  replace z0 : w.heap.size + 1 ≤ V3.heap.size := by have := hb.size; omega
  replace C1 := C1.keep hb (by omega)
  replace z1 : (w.heap.size + 1) + 1 ≤ V3.heap.size := by have := hb.size; omega
  replace HB := Lib.hid (HB.out.trans (hb.mono HB.out.size))
  clear hb
  have o00 := C0.1
  have o10 := C1.1
  have o01 := C0.2.1
  have o02 := C0.2.2
  have o11 := C1.2.1
  have o12 := C1.2.2
  obtain ⟨r0, r1, r2⟩ := C1
  have z0 := F1.out
  obtain ⟨e0, e1, e2⟩ := res_cells r0 r1 r2 (.bool xn) (.string xi) (.string xf)
  go_wp2
  exact bodyPost_ret (v := .tuple #[.agg #[.bool xn, .string xi, .string xf], .int .i64 c]) (by simp [results, Try.results30, go_sem, e0, e1, e2]) rfl ⟨rfl, res_below HB.out (by omega) _ _ _⟩
end Go.Proofs.Ytcdmanhhddcmcaa

namespace Go.Proofs.Ytcdmanhhddcmcaa
open Go.RowKit
attribute [local go_sem ↓] Go.wp_at_zero Go.wp_at_succ

set_option maxHeartbeats 4000000 in
set_option maxRecDepth 100000 in
theorem rf_bad (an : Bool) (ai af : ByteArray) (mode least most : Int) (ec : Int) (w : World) (H1 : (∀ wx : World, Calls Try.prog 60 #[(.agg #[.bool an, .string ai, .string af]), .int .i64 mode] wx fun e w' => e = .returned (.int .i64 ec) ∧ Below wx.heap.size wx w')) (he : (ec != 0) = true) :
    Calls Try.prog 31 #[(.agg #[.bool an, .string ai, .string af]), .int .i64 mode, .int .i64 least, .int .i64 most] w fun e w' => e = .returned (.tuple #[.agg #[.bool false, .string ⟨#[]⟩, .string ⟨#[]⟩], .int .i64 ec]) ∧ Below w.heap.size w w' := by
  have D1 := Lib.hid H1
  clear H1
  go_enter Try.func31, Try.ntmps31
  go_wp2_with fail
  obtain ⟨W0, hW0⟩ : ∃ W0, W0 = ((w.alloc (.cells #[.bool an, .string ai, .string af] 23)).alloc (.cells #[.bool false, .string ⟨#[]⟩, .string ⟨#[]⟩] 23)) := ⟨_, rfl⟩
  obtain ⟨hB, hz, C0, C1, FL⟩ : Below w.heap.size w W0 ∧ w.heap.size + 2 ≤ W0.heap.size ∧ Cells3 W0 w.heap.size (.bool an) (.string ai) (.string af) ∧ Cells3 W0 (w.heap.size + 1) (.bool false) (.string ⟨#[]⟩) (.string ⟨#[]⟩) ∧ ∀ i, W0.frozen? ⟨(w.heap.size + 1), i, none⟩ = false := by rw [hW0]; exact ⟨below_two w _ _, two_boxes w _ _ _ _ _ _ _⟩
  have z0 : w.heap.size + 1 ≤ W0.heap.size := by omega
  have z1 : (w.heap.size + 1) + 1 ≤ W0.heap.size := by omega
  rw [← hW0]
  have HB := Lib.hid hB
  have F1 := Lib.hid FL
  clear hW0 hB hz FL
  (with_reducible refine (D1.out _).mono ?_)
  rintro e V1 ⟨rfl, hb⟩
  replace F1 := Lib.hid (frozen_keep F1.out hb (by omega))
  replace C0 := C0.keep hb (by omega)
  replace z0 : w.heap.size + 1 ≤ V1.heap.size := by have := hb.size; omega
  replace C1 := C1.keep hb (by omega)
  replace z1 : (w.heap.size + 1) + 1 ≤ V1.heap.size := by have := hb.size; omega
  replace HB := Lib.hid (HB.out.trans (hb.mono HB.out.size))
  clear hb
  have o00 := C0.1
  have o10 := C1.1
  have o01 := C0.2.1
  have o02 := C0.2.2
  have o11 := C1.2.1
  have o12 := C1.2.2
  obtain ⟨r0, r1, r2⟩ := C1
  have z0 := F1.out
  obtain ⟨e0, e1, e2⟩ := res_cells r0 r1 r2 (.bool false) (.string ⟨#[]⟩) (.string ⟨#[]⟩)
  go_wp2
  exact bodyPost_ret (v := .tuple #[.agg #[.bool false, .string ⟨#[]⟩, .string ⟨#[]⟩], .int .i64 ec]) (by simp [results, Try.results31, go_sem, e0, e1, e2]) rfl ⟨rfl, res_below HB.out (by omega) _ _ _⟩

set_option maxHeartbeats 4000000 in
set_option maxRecDepth 100000 in
theorem rf_arg0 (an : Bool) (ai af : ByteArray) (mode least most : Int) (w : World) (H1 : (∀ wx : World, Calls Try.prog 60 #[(.agg #[.bool an, .string ai, .string af]), .int .i64 mode] wx fun e w' => e = .returned (.int .i64 0) ∧ Below wx.heap.size wx w'))  (h0 : least < 0) :
    Calls Try.prog 31 #[(.agg #[.bool an, .string ai, .string af]), .int .i64 mode, .int .i64 least, .int .i64 most] w fun e w' => e = .returned (.tuple #[.agg #[.bool false, .string ⟨#[]⟩, .string ⟨#[]⟩], .int .i64 1]) ∧ Below w.heap.size w w' := by
  have D1 := Lib.hid H1
  clear H1
  have q0 : ((0 : Int) != 0) = false := by decide
  have q10 : decide (least < 0) = true := decide_eq_true h0
  go_enter Try.func31, Try.ntmps31
  go_wp2_with fail
  obtain ⟨W0, hW0⟩ : ∃ W0, W0 = ((w.alloc (.cells #[.bool an, .string ai, .string af] 23)).alloc (.cells #[.bool false, .string ⟨#[]⟩, .string ⟨#[]⟩] 23)) := ⟨_, rfl⟩
  obtain ⟨hB, hz, C0, C1, FL⟩ : Below w.heap.size w W0 ∧ w.heap.size + 2 ≤ W0.heap.size ∧ Cells3 W0 w.heap.size (.bool an) (.string ai) (.string af) ∧ Cells3 W0 (w.heap.size + 1) (.bool false) (.string ⟨#[]⟩) (.string ⟨#[]⟩) ∧ ∀ i, W0.frozen? ⟨(w.heap.size + 1), i, none⟩ = false := by rw [hW0]; exact ⟨below_two w _ _, two_boxes w _ _ _ _ _ _ _⟩
  have z0 : w.heap.size + 1 ≤ W0.heap.size := by omega
  have z1 : (w.heap.size + 1) + 1 ≤ W0.heap.size := by omega
  rw [← hW0]
  have HB := Lib.hid hB
  have F1 := Lib.hid FL
  clear hW0 hB hz FL
  (with_reducible refine (D1.out _).mono ?_)
  rintro e V1 ⟨rfl, hb⟩
  replace F1 := Lib.hid (frozen_keep F1.out hb (by omega))
  replace C0 := C0.keep hb (by omega)
  replace z0 : w.heap.size + 1 ≤ V1.heap.size := by have := hb.size; omega
  replace C1 := C1.keep hb (by omega)
  replace z1 : (w.heap.size + 1) + 1 ≤ V1.heap.size := by have := hb.size; omega
  replace HB := Lib.hid (HB.out.trans (hb.mono HB.out.size))
  clear hb
  have o00 := C0.1
  have o10 := C1.1
  have o01 := C0.2.1
  have o02 := C0.2.2
  have o11 := C1.2.1
  have o12 := C1.2.2
  obtain ⟨r0, r1, r2⟩ := C1
  have z0 := F1.out
  obtain ⟨e0, e1, e2⟩ := res_cells r0 r1 r2 (.bool false) (.string ⟨#[]⟩) (.string ⟨#[]⟩)
  go_wp2
  exact bodyPost_ret (v := .tuple #[.agg #[.bool false, .string ⟨#[]⟩, .string ⟨#[]⟩], .int .i64 1]) (by simp [results, Try.results31, go_sem, e0, e1, e2]) rfl ⟨rfl, res_below HB.out (by omega) _ _ _⟩

set_option maxHeartbeats 4000000 in
set_option maxRecDepth 100000 in
theorem rf_arg1 (an : Bool) (ai af : ByteArray) (mode least most : Int) (w : World) (H1 : (∀ wx : World, Calls Try.prog 60 #[(.agg #[.bool an, .string ai, .string af]), .int .i64 mode] wx fun e w' => e = .returned (.int .i64 0) ∧ Below wx.heap.size wx w')) (h0 : ¬ least < 0) (h1 : 40 < least) :
    Calls Try.prog 31 #[(.agg #[.bool an, .string ai, .string af]), .int .i64 mode, .int .i64 least, .int .i64 most] w fun e w' => e = .returned (.tuple #[.agg #[.bool false, .string ⟨#[]⟩, .string ⟨#[]⟩], .int .i64 1]) ∧ Below w.heap.size w w' := by
  have D1 := Lib.hid H1
  clear H1
  have q0 : ((0 : Int) != 0) = false := by decide
  have q10 : decide (least < 0) = false := decide_eq_false h0
  have q11 : decide (40 < least) = true := decide_eq_true h1
  go_enter Try.func31, Try.ntmps31
  go_wp2_with fail
  obtain ⟨W0, hW0⟩ : ∃ W0, W0 = ((w.alloc (.cells #[.bool an, .string ai, .string af] 23)).alloc (.cells #[.bool false, .string ⟨#[]⟩, .string ⟨#[]⟩] 23)) := ⟨_, rfl⟩
  obtain ⟨hB, hz, C0, C1, FL⟩ : Below w.heap.size w W0 ∧ w.heap.size + 2 ≤ W0.heap.size ∧ Cells3 W0 w.heap.size (.bool an) (.string ai) (.string af) ∧ Cells3 W0 (w.heap.size + 1) (.bool false) (.string ⟨#[]⟩) (.string ⟨#[]⟩) ∧ ∀ i, W0.frozen? ⟨(w.heap.size + 1), i, none⟩ = false := by rw [hW0]; exact ⟨below_two w _ _, two_boxes w _ _ _ _ _ _ _⟩
  have z0 : w.heap.size + 1 ≤ W0.heap.size := by omega
  have z1 : (w.heap.size + 1) + 1 ≤ W0.heap.size := by omega
  rw [← hW0]
  have HB := Lib.hid hB
  have F1 := Lib.hid FL
  clear hW0 hB hz FL
  (with_reducible refine (D1.out _).mono ?_)
  rintro e V1 ⟨rfl, hb⟩
  replace F1 := Lib.hid (frozen_keep F1.out hb (by omega))
  replace C0 := C0.keep hb (by omega)
  replace z0 : w.heap.size + 1 ≤ V1.heap.size := by have := hb.size; omega
  replace C1 := C1.keep hb (by omega)
  replace z1 : (w.heap.size + 1) + 1 ≤ V1.heap.size := by have := hb.size; omega
  replace HB := Lib.hid (HB.out.trans (hb.mono HB.out.size))
  clear hb
  have o00 := C0.1
  have o10 := C1.1
  have o01 := C0.2.1
  have o02 := C0.2.2
  have o11 := C1.2.1
  have o12 := C1.2.2
  obtain ⟨r0, r1, r2⟩ := C1
  have z0 := F1.out
  obtain ⟨e0, e1, e2⟩ := res_cells r0 r1 r2 (.bool false) (.string ⟨#[]⟩) (.string ⟨#[]⟩)
  go_wp2
  exact bodyPost_ret (v := .tuple #[.agg #[.bool false, .string ⟨#[]⟩, .string ⟨#[]⟩], .int .i64 1]) (by simp [results, Try.results31, go_sem, e0, e1, e2]) rfl ⟨rfl, res_below HB.out (by omega) _ _ _⟩

set_option maxHeartbeats 4000000 in
set_option maxRecDepth 100000 in
theorem rf_arg2 (an : Bool) (ai af : ByteArray) (mode least most : Int) (w : World) (H1 : (∀ wx : World, Calls Try.prog 60 #[(.agg #[.bool an, .string ai, .string af]), .int .i64 mode] wx fun e w' => e = .returned (.int .i64 0) ∧ Below wx.heap.size wx w')) (h0 : ¬ least < 0) (h1 : ¬ 40 < least) (h2 : most < least) :
    Calls Try.prog 31 #[(.agg #[.bool an, .string ai, .string af]), .int .i64 mode, .int .i64 least, .int .i64 most] w fun e w' => e = .returned (.tuple #[.agg #[.bool false, .string ⟨#[]⟩, .string ⟨#[]⟩], .int .i64 1]) ∧ Below w.heap.size w w' := by
  have D1 := Lib.hid H1
  clear H1
  have q0 : ((0 : Int) != 0) = false := by decide
  have q10 : decide (least < 0) = false := decide_eq_false h0
  have q11 : decide (40 < least) = false := decide_eq_false h1
  have q12 : decide (most < least) = true := decide_eq_true h2
  go_enter Try.func31, Try.ntmps31
  go_wp2_with fail
  obtain ⟨W0, hW0⟩ : ∃ W0, W0 = ((w.alloc (.cells #[.bool an, .string ai, .string af] 23)).alloc (.cells #[.bool false, .string ⟨#[]⟩, .string ⟨#[]⟩] 23)) := ⟨_, rfl⟩
  obtain ⟨hB, hz, C0, C1, FL⟩ : Below w.heap.size w W0 ∧ w.heap.size + 2 ≤ W0.heap.size ∧ Cells3 W0 w.heap.size (.bool an) (.string ai) (.string af) ∧ Cells3 W0 (w.heap.size + 1) (.bool false) (.string ⟨#[]⟩) (.string ⟨#[]⟩) ∧ ∀ i, W0.frozen? ⟨(w.heap.size + 1), i, none⟩ = false := by rw [hW0]; exact ⟨below_two w _ _, two_boxes w _ _ _ _ _ _ _⟩
  have z0 : w.heap.size + 1 ≤ W0.heap.size := by omega
  have z1 : (w.heap.size + 1) + 1 ≤ W0.heap.size := by omega
  rw [← hW0]
  have HB := Lib.hid hB
  have F1 := Lib.hid FL
  clear hW0 hB hz FL
  (with_reducible refine (D1.out _).mono ?_)
  rintro e V1 ⟨rfl, hb⟩
  replace F1 := Lib.hid (frozen_keep F1.out hb (by omega))
  replace C0 := C0.keep hb (by omega)
  replace z0 : w.heap.size + 1 ≤ V1.heap.size := by have := hb.size; omega
  replace C1 := C1.keep hb (by omega)
  replace z1 : (w.heap.size + 1) + 1 ≤ V1.heap.size := by have := hb.size; omega
  replace HB := Lib.hid (HB.out.trans (hb.mono HB.out.size))
  clear hb
  have o00 := C0.1
  have o10 := C1.1
  have o01 := C0.2.1
  have o02 := C0.2.2
  have o11 := C1.2.1
  have o12 := C1.2.2
  obtain ⟨r0, r1, r2⟩ := C1
  have z0 := F1.out
  obtain ⟨e0, e1, e2⟩ := res_cells r0 r1 r2 (.bool false) (.string ⟨#[]⟩) (.string ⟨#[]⟩)
  go_wp2
  exact bodyPost_ret (v := .tuple #[.agg #[.bool false, .string ⟨#[]⟩, .string ⟨#[]⟩], .int .i64 1]) (by simp [results, Try.results31, go_sem, e0, e1, e2]) rfl ⟨rfl, res_below HB.out (by omega) _ _ _⟩

set_option maxHeartbeats 4000000 in
set_option maxRecDepth 100000 in
theorem rf_arg3 (an : Bool) (ai af : ByteArray) (mode least most : Int) (w : World) (H1 : (∀ wx : World, Calls Try.prog 60 #[(.agg #[.bool an, .string ai, .string af]), .int .i64 mode] wx fun e w' => e = .returned (.int .i64 0) ∧ Below wx.heap.size wx w')) (h0 : ¬ least < 0) (h1 : ¬ 40 < least) (h2 : ¬ most < least) (h3 : 40 < most) :
    Calls Try.prog 31 #[(.agg #[.bool an, .string ai, .string af]), .int .i64 mode, .int .i64 least, .int .i64 most] w fun e w' => e = .returned (.tuple #[.agg #[.bool false, .string ⟨#[]⟩, .string ⟨#[]⟩], .int .i64 1]) ∧ Below w.heap.size w w' := by
  have D1 := Lib.hid H1
  clear H1
  have q0 : ((0 : Int) != 0) = false := by decide
  have q10 : decide (least < 0) = false := decide_eq_false h0
  have q11 : decide (40 < least) = false := decide_eq_false h1
  have q12 : decide (most < least) = false := decide_eq_false h2
  have q13 : decide (40 < most) = true := decide_eq_true h3
  go_enter Try.func31, Try.ntmps31
  go_wp2_with fail
  obtain ⟨W0, hW0⟩ : ∃ W0, W0 = ((w.alloc (.cells #[.bool an, .string ai, .string af] 23)).alloc (.cells #[.bool false, .string ⟨#[]⟩, .string ⟨#[]⟩] 23)) := ⟨_, rfl⟩
  obtain ⟨hB, hz, C0, C1, FL⟩ : Below w.heap.size w W0 ∧ w.heap.size + 2 ≤ W0.heap.size ∧ Cells3 W0 w.heap.size (.bool an) (.string ai) (.string af) ∧ Cells3 W0 (w.heap.size + 1) (.bool false) (.string ⟨#[]⟩) (.string ⟨#[]⟩) ∧ ∀ i, W0.frozen? ⟨(w.heap.size + 1), i, none⟩ = false := by rw [hW0]; exact ⟨below_two w _ _, two_boxes w _ _ _ _ _ _ _⟩
  have z0 : w.heap.size + 1 ≤ W0.heap.size := by omega
  have z1 : (w.heap.size + 1) + 1 ≤ W0.heap.size := by omega
  rw [← hW0]
  have HB := Lib.hid hB
  have F1 := Lib.hid FL
  clear hW0 hB hz FL
  (with_reducible refine (D1.out _).mono ?_)
  rintro e V1 ⟨rfl, hb⟩
  replace F1 := Lib.hid (frozen_keep F1.out hb (by omega))
  replace C0 := C0.keep hb (by omega)
  replace z0 : w.heap.size + 1 ≤ V1.heap.size := by have := hb.size; omega
  replace C1 := C1.keep hb (by omega)
  replace z1 : (w.heap.size + 1) + 1 ≤ V1.heap.size := by have := hb.size; omega
  replace HB := Lib.hid (HB.out.trans (hb.mono HB.out.size))
  clear hb
  have o00 := C0.1
  have o10 := C1.1
  have o01 := C0.2.1
  have o02 := C0.2.2
  have o11 := C1.2.1
  have o12 := C1.2.2
  obtain ⟨r0, r1, r2⟩ := C1
  have z0 := F1.out
  obtain ⟨e0, e1, e2⟩ := res_cells r0 r1 r2 (.bool false) (.string ⟨#[]⟩) (.string ⟨#[]⟩)
  go_wp2
  exact bodyPost_ret (v := .tuple #[.agg #[.bool false, .string ⟨#[]⟩, .string ⟨#[]⟩], .int .i64 1]) (by simp [results, Try.results31, go_sem, e0, e1, e2]) rfl ⟨rfl, res_below HB.out (by omega) _ _ _⟩

set_option maxHeartbeats 4000000 in
set_option maxRecDepth 100000 in
theorem rf_err (an : Bool) (ai af : ByteArray) (mode least most : Int) (yn : Bool) (yi yf : ByteArray) (c : Int) (w : World) (H1 : (∀ wx : World, Calls Try.prog 60 #[(.agg #[.bool an, .string ai, .string af]), .int .i64 mode] wx fun e w' => e = .returned (.int .i64 0) ∧ Below wx.heap.size wx w')) (H2 : (∀ wx : World, Calls Try.prog 33 #[(.agg #[.bool an, .string ai, .string af]), .int .i64 mode, .int .i64 most] wx fun e w' => e = .returned (.tuple #[(.agg #[.bool yn, .string yi, .string yf]), .int .i64 c]) ∧ Below wx.heap.size wx w')) (h0 : ¬ least < 0) (h1 : ¬ 40 < least) (h2 : ¬ most < least) (h3 : ¬ 40 < most) (he : (c != 0) = true) :
    Calls Try.prog 31 #[(.agg #[.bool an, .string ai, .string af]), .int .i64 mode, .int .i64 least, .int .i64 most] w fun e w' => e = .returned (.tuple #[.agg #[.bool false, .string ⟨#[]⟩, .string ⟨#[]⟩], .int .i64 c]) ∧ Below w.heap.size w w' := by
  have D1 := Lib.hid H1
  have D2 := Lib.hid H2
  clear H1 H2
  have q0 : ((0 : Int) != 0) = false := by decide
  have q10 : decide (least < 0) = false := decide_eq_false h0
  have q11 : decide (40 < least) = false := decide_eq_false h1
  have q12 : decide (most < least) = false := decide_eq_false h2
  have q13 : decide (40 < most) = false := decide_eq_false h3
  go_enter Try.func31, Try.ntmps31
  go_wp2_with fail
  obtain ⟨W0, hW0⟩ : ∃ W0, W0 = ((w.alloc (.cells #[.bool an, .string ai, .string af] 23)).alloc (.cells #[.bool false, .string ⟨#[]⟩, .string ⟨#[]⟩] 23)) := ⟨_, rfl⟩
  obtain ⟨hB, hz, C0, C1, FL⟩ : Below w.heap.size w W0 ∧ w.heap.size + 2 ≤ W0.heap.size ∧ Cells3 W0 w.heap.size (.bool an) (.string ai) (.string af) ∧ Cells3 W0 (w.heap.size + 1) (.bool false) (.string ⟨#[]⟩) (.string ⟨#[]⟩) ∧ ∀ i, W0.frozen? ⟨(w.heap.size + 1), i, none⟩ = false := by rw [hW0]; exact ⟨below_two w _ _, two_boxes w _ _ _ _ _ _ _⟩
  have z0 : w.heap.size + 1 ≤ W0.heap.size := by omega
  have z1 : (w.heap.size + 1) + 1 ≤ W0.heap.size := by omega
  rw [← hW0]
  have HB := Lib.hid hB
  have F1 := Lib.hid FL
  have F0 := Lib.hid (show ∀ i, W0.frozen? ⟨w.heap.size, i, none⟩ = false by rw [hW0]; exact frozen_keep (one_box w (.bool an) (.string ai) (.string af) 23).2.2 ((Below.refl _ _).alloc (Nat.le_refl _) _) (by simp))
  clear hW0 hB hz FL
  (with_reducible refine (D1.out _).mono ?_)
  rintro e V1 ⟨rfl, hb⟩
  replace F0 := Lib.hid (frozen_keep F0.out hb (by omega))
  replace F1 := Lib.hid (frozen_keep F1.out hb (by omega))
  replace C0 := C0.keep hb (by omega)
  replace z0 : w.heap.size + 1 ≤ V1.heap.size := by have := hb.size; omega
  replace C1 := C1.keep hb (by omega)
  replace z1 : (w.heap.size + 1) + 1 ≤ V1.heap.size := by have := hb.size; omega
  replace HB := Lib.hid (HB.out.trans (hb.mono HB.out.size))
  clear hb
  have o00 := C0.1
  have o10 := C1.1
  have o01 := C0.2.1
  have o02 := C0.2.2
  have o11 := C1.2.1
  have o12 := C1.2.2
  go_wp2_with fail
  clear o00 o01 o02 o10 o11 o12
  (with_reducible refine (D2.out _).mono ?_)
  rintro e V2 ⟨rfl, hb⟩
  replace F0 := Lib.hid (frozen_keep F0.out hb (by omega))
  replace F1 := Lib.hid (frozen_keep F1.out hb (by omega))
  replace C0 := C0.keep hb (by omega)
  replace z0 : w.heap.size + 1 ≤ V2.heap.size := by have := hb.size; omega
  replace C1 := C1.keep hb (by omega)
  replace z1 : (w.heap.size + 1) + 1 ≤ V2.heap.size := by have := hb.size; omega
  replace HB := Lib.hid (HB.out.trans (hb.mono HB.out.size))
  clear hb
  have o00 := C0.1
  have o10 := C1.1
  have o01 := C0.2.1
  have o02 := C0.2.2
  have o11 := C1.2.1
  have o12 := C1.2.2
  have f0 := F0.out
  have f1 := F1.out
  go_wp2_with fail
  clear f0
  clear f1
  clear o00 o01 o02 o10 o11 o12
  obtain ⟨V2s, hV2s⟩ : ∃ X, X = ((V2.setCell ⟨w.heap.size, 0, none⟩ (.bool yn)).setCell ⟨w.heap.size, 1, none⟩ (.string yi)).setCell ⟨w.heap.size, 2, none⟩ (.string yf) := ⟨_, rfl⟩
  have C0n := set_box C0 (.bool yn) (.string yi) (.string yf)
  have C1n := far_box C1 (show (w.heap.size + 1) ≠ w.heap.size by omega) (.bool yn) (.string yi) (.string yf)
  have HBn := Lib.hid (res_below HB.out (show w.heap.size ≤ w.heap.size by omega) (.bool yn) (.string yi) (.string yf))
  have hsz : V2s.heap.size = V2.heap.size := by rw [hV2s]; simp [World.setCell]
  replace F0 : Hid (∀ i, V2s.frozen? ⟨w.heap.size, i, none⟩ = false) := by have t := F0.out; show ∀ i, _; rw [hV2s]; intro i; simpa using t i
  replace F1 : Hid (∀ i, V2s.frozen? ⟨(w.heap.size + 1), i, none⟩ = false) := by have t := F1.out; show ∀ i, _; rw [hV2s]; intro i; simpa using t i
  rw [← hV2s]
  rw [← hV2s] at HBn C0n C1n
  clear HB C0 C1 hV2s
  have HB := HBn
  clear HBn
  have C0 := C0n
  clear C0n
  replace z0 : w.heap.size + 1 ≤ V2s.heap.size := by omega
  have C1 := C1n
  clear C1n
  replace z1 : (w.heap.size + 1) + 1 ≤ V2s.heap.size := by omega
  clear hsz
  obtain ⟨r0, r1, r2⟩ := C1
  have z0 := F1.out
  obtain ⟨e0, e1, e2⟩ := res_cells r0 r1 r2 (.bool false) (.string ⟨#[]⟩) (.string ⟨#[]⟩)
  go_wp2
  exact bodyPost_ret (v := .tuple #[.agg #[.bool false, .string ⟨#[]⟩, .string ⟨#[]⟩], .int .i64 c]) (by simp [results, Try.results31, go_sem, e0, e1, e2]) rfl ⟨rfl, res_below HB.out (by omega) _ _ _⟩
end Go.Proofs.Ytcdmanhhddcmcaa

namespace Go.Proofs.Ytcdmanhhddcmcaa
open Go.RowKit
attribute [local go_sem ↓] Go.wp_at_zero Go.wp_at_succ


set_option maxHeartbeats 4000000 in
set_option maxRecDepth 100000 in
theorem rf_ok (an : Bool) (ai af : ByteArray) (mode most : Int) (p : Nat) (x : Dc) (zn : Bool) (zi zf : ByteArray) (c : Int) (w : World) (H1 : (∀ wx : World, Calls Try.prog 60 #[(.agg #[.bool an, .string ai, .string af]), .int .i64 mode] wx fun e w' => e = .returned (.int .i64 0) ∧ Below wx.heap.size wx w')) (H2 : (∀ wx : World, Calls Try.prog 33 #[(.agg #[.bool an, .string ai, .string af]), .int .i64 mode, .int .i64 most] wx fun e w' => e = .returned (.tuple #[(.agg #[.bool x.neg, .string (dStr x.i), .string (dStr x.f)]), .int .i64 0]) ∧ Below wx.heap.size wx w')) (H3 : (∀ (wx : World) {F : ByteArray}, F = dStr (x.f.take (cutTo x.f p x.f.length) ++ List.replicate (p - cutTo x.f p x.f.length) 0) → Calls Try.prog 66 #[.agg #[.bool x.neg, .string (dStr x.i), .string F]] wx fun r w' => r = .returned (.tuple #[.agg #[.bool zn, .string zi, .string zf], .int .i64 c]) ∧ Below wx.heap.size wx w')) (hp : p ≤ 40) (h2 : ¬ most < (p : Int)) (h3 : ¬ 40 < most) (hm : x.i.length + x.f.length ≤ 40) (hdf : Digs x.f) :
    Calls Try.prog 31 #[(.agg #[.bool an, .string ai, .string af]), .int .i64 mode, .int .i64 (p : Int), .int .i64 most] w fun e w' => e = .returned (.tuple #[(.agg #[.bool zn, .string zi, .string zf]), .int .i64 c]) ∧ Below w.heap.size w w' := by
  have D1 := Lib.hid H1
  have D2 := Lib.hid H2
  have D3 := Lib.hid H3
  clear H1 H2 H3
  have q0 : ((0 : Int) != 0) = false := by decide
  have q10 : decide ((p : Int) < 0) = false := decide_eq_false (by omega)
  have q11 : decide ((40 : Int) < (p : Int)) = false := decide_eq_false (by omega)
  have q12 : decide (most < (p : Int)) = false := decide_eq_false h2
  have q13 : decide (40 < most) = false := decide_eq_false h3
  have HDF := Lib.hid hdf
  clear hdf h2 h3
  go_enter Try.func31, Try.ntmps31
  go_wp2_with fail
  obtain ⟨W0, hW0⟩ : ∃ W0, W0 = ((w.alloc (.cells #[.bool an, .string ai, .string af] 23)).alloc (.cells #[.bool false, .string ⟨#[]⟩, .string ⟨#[]⟩] 23)) := ⟨_, rfl⟩
  obtain ⟨hB, hz, C0, C1, FL⟩ : Below w.heap.size w W0 ∧ w.heap.size + 2 ≤ W0.heap.size ∧ Cells3 W0 w.heap.size (.bool an) (.string ai) (.string af) ∧ Cells3 W0 (w.heap.size + 1) (.bool false) (.string ⟨#[]⟩) (.string ⟨#[]⟩) ∧ ∀ i, W0.frozen? ⟨(w.heap.size + 1), i, none⟩ = false := by rw [hW0]; exact ⟨below_two w _ _, two_boxes w _ _ _ _ _ _ _⟩
  have z0 : w.heap.size + 1 ≤ W0.heap.size := by omega
  have z1 : (w.heap.size + 1) + 1 ≤ W0.heap.size := by omega
  rw [← hW0]
  have HB := Lib.hid hB
  have F1 := Lib.hid FL
  have F0 := Lib.hid (show ∀ i, W0.frozen? ⟨w.heap.size, i, none⟩ = false by rw [hW0]; exact frozen_keep (one_box w (.bool an) (.string ai) (.string af) 23).2.2 ((Below.refl _ _).alloc (Nat.le_refl _) _) (by simp))
  clear hW0 hB hz FL
  (with_reducible refine (D1.out _).mono ?_)
  rintro e V1 ⟨rfl, hb⟩
  replace F0 := Lib.hid (frozen_keep F0.out hb (by omega))
  replace F1 := Lib.hid (frozen_keep F1.out hb (by omega))
  replace C0 := C0.keep hb (by omega)
  replace z0 : w.heap.size + 1 ≤ V1.heap.size := by have := hb.size; omega
  replace C1 := C1.keep hb (by omega)
  replace z1 : (w.heap.size + 1) + 1 ≤ V1.heap.size := by have := hb.size; omega
  replace HB := Lib.hid (HB.out.trans (hb.mono HB.out.size))
  clear hb
  have o00 := C0.1
  have o10 := C1.1
  have o01 := C0.2.1
  have o02 := C0.2.2
  have o11 := C1.2.1
  have o12 := C1.2.2
  go_wp2_with fail
  clear o00 o01 o02 o10 o11 o12
  (with_reducible refine (D2.out _).mono ?_)
  rintro e V2 ⟨rfl, hb⟩
  replace F0 := Lib.hid (frozen_keep F0.out hb (by omega))
  replace F1 := Lib.hid (frozen_keep F1.out hb (by omega))
  replace C0 := C0.keep hb (by omega)
  replace z0 : w.heap.size + 1 ≤ V2.heap.size := by have := hb.size; omega
  replace C1 := C1.keep hb (by omega)
  replace z1 : (w.heap.size + 1) + 1 ≤ V2.heap.size := by have := hb.size; omega
  replace HB := Lib.hid (HB.out.trans (hb.mono HB.out.size))
  clear hb
  have o00 := C0.1
  have o10 := C1.1
  have o01 := C0.2.1
  have o02 := C0.2.2
  have o11 := C1.2.1
  have o12 := C1.2.2
  have f0 := F0.out
  have f1 := F1.out
  go_wp2_with fail
  clear f0
  clear f1
  clear o00 o01 o02 o10 o11 o12
  obtain ⟨V2s, hV2s⟩ : ∃ X, X = ((V2.setCell ⟨w.heap.size, 0, none⟩ (.bool x.neg)).setCell ⟨w.heap.size, 1, none⟩ (.string (dStr x.i))).setCell ⟨w.heap.size, 2, none⟩ (.string (dStr x.f)) := ⟨_, rfl⟩
  have C0n := set_box C0 (.bool x.neg) (.string (dStr x.i)) (.string (dStr x.f))
  have C1n := far_box C1 (show (w.heap.size + 1) ≠ w.heap.size by omega) (.bool x.neg) (.string (dStr x.i)) (.string (dStr x.f))
  have HBn := Lib.hid (res_below HB.out (show w.heap.size ≤ w.heap.size by omega) (.bool x.neg) (.string (dStr x.i)) (.string (dStr x.f)))
  have hsz : V2s.heap.size = V2.heap.size := by rw [hV2s]; simp [World.setCell]
  replace F0 : Hid (∀ i, V2s.frozen? ⟨w.heap.size, i, none⟩ = false) := by have t := F0.out; show ∀ i, _; rw [hV2s]; intro i; simpa using t i
  replace F1 : Hid (∀ i, V2s.frozen? ⟨(w.heap.size + 1), i, none⟩ = false) := by have t := F1.out; show ∀ i, _; rw [hV2s]; intro i; simpa using t i
  rw [← hV2s]
  rw [← hV2s] at HBn C0n C1n
  clear HB C0 C1 hV2s
  have HB := HBn
  clear HBn
  have C0 := C0n
  clear C0n
  replace z0 : w.heap.size + 1 ≤ V2s.heap.size := by omega
  have C1 := C1n
  clear C1n
  replace z1 : (w.heap.size + 1) + 1 ≤ V2s.heap.size := by omega
  clear hsz
  go_loopw [] (fun wr => ∃ k : Nat, k ≤ x.f.length ∧ cutTo x.f p k = cutTo x.f p x.f.length ∧ Cells3 wr w.heap.size (.bool x.neg) (.string (dStr x.i)) (.string (dStr (x.f.take k))) ∧ Cells3 wr (w.heap.size + 1) (.bool false) (.string ⟨#[]⟩) (.string ⟨#[]⟩) ∧ (∀ i, wr.frozen? ⟨w.heap.size, i, none⟩ = false) ∧ (∀ i, wr.frozen? ⟨w.heap.size + 1, i, none⟩ = false) ∧ Below w.heap.size w wr ∧ w.heap.size + 2 ≤ wr.heap.size) (fun wr => cellSz wr ⟨w.heap.size, 2, none⟩)
  case atStart => exact ⟨x.f.length, Nat.le_refl _, rfl, by rw [List.take_length]; exact C0, C1, F0.out, F1.out, HB.out, by omega⟩
  case round =>
    obtain ⟨k, hk, hE, hca, hcr, hfa, hfr, hbw, hzw⟩ := hrel
    have HE := Lib.hid hE
    have HCR := Lib.hid hcr
    have HFR := Lib.hid hfr
    have HW := Lib.hid hbw
    obtain ⟨a0, a1, a2⟩ := hca
    clear hE hcr hfr hbw
    obtain ⟨S, hS⟩ : ∃ S, S = dStr (x.f.take k) := ⟨_, rfl⟩
    have hz : S.size = k := by rw [hS, dStr_size, List.length_take]; omega
    rw [← hS] at a2
    have HS := Lib.hid hS
    clear hS
    have hkb : k ≤ 1000 := by omega
    by_cases hgo : p < k ∧ x.f.getD (k - 1) 0 = 0
    · obtain ⟨m, rfl⟩ : ∃ m, k = m + 1 := ⟨k - 1, by omega⟩
      obtain ⟨g1, h0⟩ := hgo
      rw [Nat.add_sub_cancel] at h0
      have hms : m < S.size := by omega
      have hget : (S[m]'hms).toNat = 48 + (x.f.take (m + 1)).getD m 0 := by
        have e := HS.out
        subst e
        exact dStr_get _ (HDF.out.take _) m hms
      have hg2 : (x.f.take (m + 1)).getD m 0 = x.f.getD m 0 := by
        rw [List.getD_eq_getElem?_getD, List.getD_eq_getElem?_getD, List.getElem?_take, if_pos (by omega)]
      rw [hg2, h0] at hget
      have q48 : (((S[m]'hms).toNat : Int) == 48) = true := by rw [hget]; rfl
      have g2 : (p : Int) < (m : Int) + 1 := by omega
      have g3 : p ≤ m := by omega
      have ST := Lib.hid (show cutTo x.f p (m + 1) = cutTo x.f p m from if_pos ⟨g1, h0⟩)
      have HX := Lib.hid (show S.extract 0 m = dStr (x.f.take m) by rw [HS.out, dStr_ext, List.drop_zero, List.take_take, Nat.min_eq_left (by omega)])
      have HA := Lib.hid (show Cells3 wr w.heap.size (.bool x.neg) (.string (dStr x.i)) (.string S) from ⟨a0, a1, a2⟩)
      have HFA := Lib.hid hfa
      have HZ := Lib.hid hz
      have HZW := Lib.hid hzw
      clear hget h0 hg2 hzw
      go_wp2
      go_roundw
      case rel =>
        refine ⟨m, by omega, by rw [← HE.out, ST.out], ?_, ?_, ?_, ?_, HW.out.setCell (p := ⟨w.heap.size, 2, none⟩) (Nat.le_refl _) _, by have := HZW.out; simpa [World.setCell] using this⟩
        · rw [← HX.out]
          exact ⟨cell_set_far _ _ _ _ _ _ (by decide) HA.out.1, cell_set_far _ _ _ _ _ _ (by decide) HA.out.2.1, cell_set_same _ _ _ _ HA.out.2.2⟩
        · exact ⟨(World.cell?_setCell_other _ _ _ _ (fun e => by have := congrArg Addr.block e; simp at this)).trans HCR.out.1, (World.cell?_setCell_other _ _ _ _ (fun e => by have := congrArg Addr.block e; simp at this)).trans HCR.out.2.1, (World.cell?_setCell_other _ _ _ _ (fun e => by have := congrArg Addr.block e; simp at this)).trans HCR.out.2.2⟩
        · intro i; simpa using HFA.out i
        · intro i; simpa using HFR.out i
      case measure =>
        unfold cellSz
        rw [cell_set_same _ _ _ _ HA.out.2.2, HA.out.2.2]
        simp [HZ.out]
    · have KE : Hid (k = cutTo x.f p x.f.length) := by
        show _ = _
        rw [← HE.out]
        cases k with
        | zero => rfl
        | succ m => exact (if_neg (fun h => hgo ⟨h.1, by rw [Nat.add_sub_cancel]; exact h.2⟩)).symm
      have HA := Lib.hid (show Cells3 wr w.heap.size (.bool x.neg) (.string (dStr x.i)) (.string S) from ⟨a0, a1, a2⟩)
      have z0 : w.heap.size + 1 ≤ wr.heap.size := by omega
      have z1 : w.heap.size + 1 + 1 ≤ wr.heap.size := by omega
      by_cases hkp : p < k
      · obtain ⟨m, rfl⟩ : ∃ m, k = m + 1 := ⟨k - 1, by omega⟩
        have hms : m < S.size := by omega
        have hget : (S[m]'hms).toNat = 48 + (x.f.take (m + 1)).getD m 0 := by
          have e := HS.out
          subst e
          exact dStr_get _ (HDF.out.take _) m hms
        have hg2 : (x.f.take (m + 1)).getD m 0 = x.f.getD m 0 := by
          rw [List.getD_eq_getElem?_getD, List.getD_eq_getElem?_getD, List.getElem?_take, if_pos (by omega)]
        have hne : x.f.getD m 0 ≠ 0 := fun h => hgo ⟨hkp, by rw [Nat.add_sub_cancel]; exact h⟩
        have q48 : (((S[m]'hms).toNat : Int) == 48) = false := by rw [hget, hg2, beq_eq_false_iff_ne]; omega
        have SX : Hid (S = dStr (x.f.take (cutTo x.f p x.f.length) ++ List.replicate (p - cutTo x.f p x.f.length) 0)) := by
          show _ = _
          rw [← KE.out, show p - (m + 1) = 0 by omega, List.replicate_zero, List.append_nil]
          exact HS.out
        have g2 : (p : Int) < (m : Int) + 1 := by omega
        have g3 : p ≤ m := by omega
        have g4 : ¬ (m : Int) + 1 < (p : Int) := by omega
        have g5 : ¬ m + 1 < p := by omega
        clear hgo hget hg2 hne
        go_wp2_with fail
        (with_reducible refine (D3.out _ ?_).mono ?_)
        · exact SX.out
        rintro e W5 ⟨rfl, hb5⟩
        obtain ⟨r0, r1, r2⟩ := HCR.out.keep hb5 (by omega)
        have z0 := frozen_keep HFR.out hb5 (by omega)
        obtain ⟨e0, e1, e2⟩ := res_cells r0 r1 r2 (.bool zn) (.string zi) (.string zf)
        go_wp2
        exact bodyPost_ret (v := .tuple #[.agg #[.bool zn, .string zi, .string zf], .int .i64 c]) (by simp [results, Try.results31, go_sem, e0, e1, e2]) rfl ⟨rfl, res_below (HW.out.trans (hb5.mono HW.out.size)) (by omega) _ _ _⟩
      · have g1 : ¬ (p : Int) < (k : Int) := by omega
        by_cases hk2 : k < p
        · have g2 : (k : Int) < (p : Int) := by omega
          have wz : IntKind.i64.wrap ((p : Int) - (k : Int)) = (p : Int) - (k : Int) := IntWalk.i64_in _ (by omega)
          obtain ⟨NN, hNN⟩ : ∃ NN, NN = dStr (List.replicate (p - k) 0) := ⟨_, rfl⟩
          have DN : Hid (∀ (wx : World) {nI : Int}, nI = (p : Int) - (k : Int) → Calls Try.prog 64 #[.int .i64 nI] wx fun r w' => r = .returned (.string NN) ∧ Below wx.heap.size wx w') := fun wx nI h => by rw [hNN]; exact rnoughts_any (p - k) nI wx (by omega) (by omega)
          have hNz : NN.size ≤ 1000 := by rw [hNN, dStr_size, List.length_replicate]; omega
          have SX : Hid (S ++ NN = dStr (x.f.take (cutTo x.f p x.f.length) ++ List.replicate (p - cutTo x.f p x.f.length) 0)) := by
            show _ = _
            rw [← KE.out, ← dStr_append, HS.out, hNN]
          have g6 : ¬ 9223372036854775807 < S.size + NN.size := by omega
          have g7 : ¬ 9223372036854775807 < k + NN.size := by omega
          clear hgo hNN
          go_upto_region 12 with fail
          go_region_with (go_at_call 64; (with_reducible refine (DN.out _ ?_).mono ?_); (focus rfl); rintro e wA ⟨rfl, hbA⟩; have hb1 : Below wr.heap.size wr wA := undrew hbA; obtain ⟨b0, b1, b2⟩ := HA.out.keep hb1 (by omega); have fA := frozen_keep hfa hb1 (by omega))
          all_goals
            obtain ⟨W6, hW6⟩ : ∃ W6, W6 = wA.setCell ⟨w.heap.size, 2, none⟩ (.string (S ++ NN)) := ⟨_, rfl⟩
            have HB6 : Hid (Below w.heap.size w W6) := by show Below _ _ _; rw [hW6]; exact (HW.out.trans (hb1.mono HW.out.size)).setCell (p := ⟨w.heap.size, 2, none⟩) (Nat.le_refl _) _
            have hzA : w.heap.size + 2 ≤ wA.heap.size := by have := hb1.size; omega
            have hz6 : w.heap.size + 2 ≤ W6.heap.size := by rw [hW6]; simpa [World.setCell] using hzA
            obtain ⟨c0, c1, c2⟩ : Cells3 W6 w.heap.size (.bool x.neg) (.string (dStr x.i)) (.string (S ++ NN)) := by
              rw [hW6]
              exact ⟨cell_set_far _ _ _ _ _ _ (by decide) b0, cell_set_far _ _ _ _ _ _ (by decide) b1, cell_set_same _ _ _ _ b2⟩
            have hcA := HCR.out.keep hb1 (by omega)
            have CR6 : Hid (Cells3 W6 (w.heap.size + 1) (.bool false) (.string ⟨#[]⟩) (.string ⟨#[]⟩)) := by
              show Cells3 _ _ _ _ _
              rw [hW6]
              exact ⟨(World.cell?_setCell_other _ _ _ _ (fun e => by have := congrArg Addr.block e; simp at this)).trans hcA.1, (World.cell?_setCell_other _ _ _ _ (fun e => by have := congrArg Addr.block e; simp at this)).trans hcA.2.1, (World.cell?_setCell_other _ _ _ _ (fun e => by have := congrArg Addr.block e; simp at this)).trans hcA.2.2⟩
            have hfA := frozen_keep HFR.out hb1 (by omega)
            have FR6 : Hid (∀ i, W6.frozen? ⟨w.heap.size + 1, i, none⟩ = false) := by
              show ∀ i, _
              rw [hW6]
              intro i
              simpa using hfA i
            rw [← hW6]
            clear hW6 hcA hfA hzA b0 b1 b2 fA hb1 hbA
            go_wp2_with fail
            (with_reducible refine (D3.out _ ?_).mono ?_)
            · exact SX.out
            rintro e W5 ⟨rfl, hb5⟩
            obtain ⟨r0, r1, r2⟩ := CR6.out.keep hb5 (by omega)
            have z0 := frozen_keep FR6.out hb5 (by omega)
            obtain ⟨e0, e1, e2⟩ := res_cells r0 r1 r2 (.bool zn) (.string zi) (.string zf)
            go_wp2
            exact bodyPost_ret (v := .tuple #[.agg #[.bool zn, .string zi, .string zf], .int .i64 c]) (by simp [results, Try.results31, go_sem, e0, e1, e2]) rfl ⟨rfl, res_below (HB6.out.trans (hb5.mono HB6.out.size)) (by omega) _ _ _⟩
        · have SX : Hid (S = dStr (x.f.take (cutTo x.f p x.f.length) ++ List.replicate (p - cutTo x.f p x.f.length) 0)) := by
            show _ = _
            rw [← KE.out, show p - k = 0 by omega, List.replicate_zero, List.append_nil]
            exact HS.out
          have g2 : ¬ (k : Int) < (p : Int) := by omega
          clear hgo
          go_wp2_with fail
          (with_reducible refine (D3.out _ ?_).mono ?_)
          · exact SX.out
          rintro e W5 ⟨rfl, hb5⟩
          obtain ⟨r0, r1, r2⟩ := HCR.out.keep hb5 (by omega)
          have z0 := frozen_keep HFR.out hb5 (by omega)
          obtain ⟨e0, e1, e2⟩ := res_cells r0 r1 r2 (.bool zn) (.string zi) (.string zf)
          go_wp2
          exact bodyPost_ret (v := .tuple #[.agg #[.bool zn, .string zi, .string zf], .int .i64 c]) (by simp [results, Try.results31, go_sem, e0, e1, e2]) rfl ⟨rfl, res_below (HW.out.trans (hb5.mono HW.out.size)) (by omega) _ _ _⟩
end Go.Proofs.Ytcdmanhhddcmcaa

namespace Go.Proofs.Ytcdmanhhddcmcaa
open Go.RowKit

def TpP (mode most : Int) (n : Bool) (i f : ByteArray) (v : Value) : Prop := ∀ w : World, Calls Try.prog 67 #[.agg #[.bool n, .string i, .string f], .int .i64 mode, .int .i64 most] w fun e w' => e = .returned v ∧ Below w.heap.size w w'
def FxP (mode least most : Int) (n : Bool) (i f : ByteArray) (v : Value) : Prop := ∀ w : World, Calls Try.prog 30 #[.agg #[.bool n, .string i, .string f], .int .i64 mode, .int .i64 least, .int .i64 most] w fun e w' => e = .returned v ∧ Below w.heap.size w w'
def FxR (mode least most : Int) (n : Bool) (i f : ByteArray) (v : Value) : Prop := ∀ w : World, Calls Try.prog 31 #[.agg #[.bool n, .string i, .string f], .int .i64 mode, .int .i64 least, .int .i64 most] w fun e w' => e = .returned v ∧ Below w.heap.size w w'
/-- What toPlaces and the reference's Places tell of a decimal that may be. -/
theorem tplaces_ok (d : Dc) (mode : Int) (m : Nat) (hd : d.Ok) (m1 : 1 ≤ mode) (m8 : mode ≤ 8) (hm : m ≤ 40) :
    (d.f.length ≤ m → TpP mode m d.neg (dStr d.i) (dStr d.f) (RES (some d)) ∧ PlR mode m d.neg (dStr d.i) (dStr d.f) (RES (some d))) ∧
    (¬ d.f.length ≤ m → mode = 8 ∧ d.num % 10 ^ (d.f.length - m) ≠ 0 → TpP mode m d.neg (dStr d.i) (dStr d.f) (zeroV 31) ∧ PlR mode m d.neg (dStr d.i) (dStr d.f) (zeroV 31)) ∧
    (¬ d.f.length ≤ m → ¬ (mode = 8 ∧ d.num % 10 ^ (d.f.length - m) ≠ 0) → ∃ x, mkN d.neg (roQ mode d.neg d.num (10 ^ (d.f.length - m))) m = some x ∧ TpP mode m d.neg (dStr d.i) (dStr d.f) (RES (some x)) ∧ PlR mode m d.neg (dStr d.i) (dStr d.f) (RES (some x))) := by
  have sz : (dStr d.f).size = d.f.length := dStr_size d.f
  have szi : (dStr d.i).size = d.i.length := dStr_size d.i
  have hmost := hd.most
  have hb1 : (dStr d.i).size ≤ 140737488355328 := by omega
  have hb2 : (dStr d.f).size ≤ 140737488355328 := by omega
  have hmB : modeB mode = true := by unfold modeB; rw [decide_eq_true m1, decide_eq_true m8]; rfl
  have hE : modeE (okB d.neg (dStr d.i) (dStr d.f)) mode = 0 := by unfold modeE; rw [ok_of hd, hmB]; rfl
  have HC := fun wx => checkRange_any d.neg (dStr d.i) (dStr d.f) mode 0 0 m wx hb1 hb2
  have hR : rangeE (okB d.neg (dStr d.i) (dStr d.f)) mode 0 0 m = 0 := by unfold rangeE; rw [if_pos hE, if_neg (by omega)]
  rw [hR] at HC
  have HA := fun wx => asked_any d.neg (dStr d.i) (dStr d.f) mode wx hb1 hb2
  rw [hE] at HA
  refine ⟨fun hle => ⟨fun w => ?_, fun w => ?_⟩, fun hle h8 => ?_, fun hle h8 => ?_⟩
  · have HP := fun wx => pad_ok d 0 wx _ (pad_self hd) hd (by omega)
    exact tp_pad d.neg _ _ mode m _ _ _ _ w HP (by omega)
  · exact rp_same d.neg _ _ mode m w HA (by omega) (by omega) (by omega)
  all_goals
    have hf := f_lt hd
    obtain ⟨t, t1, t2, t3, t4, t5⟩ := tenth_ok m (by omega)
    have hmax : max d.f.length t.f.length = d.f.length := by omega
    have hX : d.raised d.f.length = d.num := by unfold Dc.raised; rw [Nat.sub_self, Nat.pow_zero, Nat.mul_one]
    have hU : t.raised d.f.length = 10 ^ (d.f.length - m) := by unfold Dc.raised; rw [t3, t4, Nat.one_mul]
    have HM := fun wx => multiple_both mode d t wx m1 m8 hd t2 t5 (by omega)
    rw [hmax, hX, hU] at HM
    have HPW := fun wx => power_ok (-(m : Int)) t wx (by omega) (by omega) t1
    have HD : Digs (d.i ++ d.f) := hd.di.append hd.df
    have hN : ∀ (wx : World) {nI : Int}, nI = ((dStr d.f).size : Int) - m → Calls Try.prog 64 #[.int .i64 nI] wx fun r w' => r = .returned (.string (dStr (List.replicate (d.f.length - m) 0))) ∧ Below wx.heap.size wx w' := fun wx nI h => rnoughts_any (d.f.length - m) nI wx (by omega) (by omega)
    have hT : ∀ (wx : World) {X Y : ByteArray}, X = dStr d.i ++ dStr d.f → Y = ⟨#[49]⟩ ++ dStr (List.replicate (d.f.length - m) 0) → Calls Try.prog 63 #[.int .i64 mode, .bool d.neg, .string X, .string Y] wx fun r w' => r = .returned (if mode = 8 ∧ d.num % 10 ^ (d.f.length - m) ≠ 0 then .tuple #[.string (dStr (digs (d.num / 10 ^ (d.f.length - m)))), .int .i64 31] else .tuple #[.string (dStr (digs (roQ mode d.neg d.num (10 ^ (d.f.length - m))))), .int .i64 0]) ∧ Below wx.heap.size wx w' := by
      intro wx X Y hX hY
      rw [hX, hY, one_text, dStr_append, dStr_append]
      have := rturned_both mode d.neg (d.i ++ d.f) (10 ^ (d.f.length - m)) wx m1 m8 (Nat.pow_pos (by omega)) HD (by rw [List.length_append]; omega) (by rw [digs_pow, List.length_cons, List.length_replicate]; omega)
      rw [digs_pow] at this
      exact this
    have hNs : (dStr (List.replicate (d.f.length - m) 0)).size ≤ 1000 := by rw [dStr_size, List.length_replicate]; omega
  · rw [if_pos h8] at HM hT
    refine ⟨fun w => ?_, fun w => ?_⟩
    · have HM2 := fun wx => tp_mult d.neg _ _ mode m _ _ _ _ _ _ _ wx HPW HM (by omega) (by omega) (by omega)
      exact HM2 w
    · exact rp_err d.neg _ _ mode m _ _ w HA hN hT (by omega) (by omega) (by omega) (by omega) hNs
  · rw [if_neg h8] at HM hT
    have hro : roD mode d t = mkN d.neg (roQ mode d.neg d.num (10 ^ (d.f.length - m))) m := by
      unfold roD
      rw [hmax, hX, hU, t3, t4, Nat.mul_one]
    rw [hro] at HM
    generalize hQ : roQ mode d.neg d.num (10 ^ (d.f.length - m)) = Q at *
    obtain ⟨P, hP⟩ : ∃ P, P = padTo (m + 1) (digs Q) := ⟨_, rfl⟩
    have hQl : (digs Q).length ≤ 40 := by
      refine (digs_le Q 40 (by omega)).2 ?_
      have hn : d.num < 10 ^ (d.i.length + d.f.length) := by
        have := dVal_lt HD
        rw [List.length_append] at this
        exact this
      have hq : d.num / 10 ^ (d.f.length - m) < 10 ^ (d.i.length + m) := by
        refine Nat.div_lt_of_lt_mul ?_
        rw [← Nat.pow_add]
        rw [show d.f.length - m + (d.i.length + m) = d.i.length + d.f.length by omega]
        exact hn
      have hQ2 : Q ≤ d.num / 10 ^ (d.f.length - m) + 1 := by
        rw [← hQ]
        unfold roQ
        split <;> omega
      have h10 : 10 ^ (d.i.length + m) < 10 ^ (d.i.length + m + 1) := Nat.pow_lt_pow_right (by omega) (by omega)
      have h40 : 10 ^ (d.i.length + m + 1) ≤ 10 ^ 40 := Nat.pow_le_pow_right (by omega) (by omega)
      omega
    have hPl : ¬ 40 < P.length := by rw [hP, padTo_len]; omega
    have hms := made_some (neg := d.neg) hP hPl
    refine ⟨_, hms, fun w => ?_, fun w => ?_⟩
    · rw [hms] at HM
      have HM2 := fun wx => tp_mult d.neg _ _ mode m _ _ _ _ _ _ _ wx HPW HM (by omega) (by omega) (by omega)
      exact HM2 w
    · have HMd : ∀ wx : World, Calls Try.prog 65 #[.bool d.neg, .string (dStr (digs Q)), .int .i64 (m : Int)] wx fun r w' => r = .returned (.agg #[.bool (d.neg && decide (Q ≠ 0)), .string (dStr (digs (dVal (P.take (P.length - m))))), .string (dStr (P.drop (P.length - m)))]) ∧ Below wx.heap.size wx w' := by
        intro wx
        cases hn : d.neg with
        | true => have := rmade_true (digs Q) m P wx hP (digs_digs Q) (by omega) (by omega); rw [dVal_digs] at this; exact this
        | false => have := rmade_false (digs Q) m P wx hP (digs_digs Q) (by omega) (by omega); rw [dVal_digs] at this; exact this
      exact rp_ok d.neg _ _ mode m _ _ _ _ _ w HA hN hT HMd (by omega) (by omega) (by omega) (by omega) hNs


/-- What Fix tells of an answer of Places. -/
theorem fix_ok (d x : Dc) (mode : Int) (p m : Nat) (hd : d.Ok) (hx : x.Ok) (m1 : 1 ≤ mode) (m8 : mode ≤ 8) (hpm : p ≤ m) (hm : m ≤ 40) (h1 : TpP mode m d.neg (dStr d.i) (dStr d.f) (RES (some x))) (h2 : PlR mode m d.neg (dStr d.i) (dStr d.f) (RES (some x))) :
    FxP mode p m d.neg (dStr d.i) (dStr d.f) (RES (padD (cutZ x p) p)) ∧ FxR mode p m d.neg (dStr d.i) (dStr d.f) (RES (padD (cutZ x p) p)) := by
  have dm := hd.most
  have xm := hx.most
  have hmB : modeB mode = true := by unfold modeB; rw [decide_eq_true m1, decide_eq_true m8]; rfl
  have hE : modeE (okB d.neg (dStr d.i) (dStr d.f)) mode = 0 := by unfold modeE; rw [ok_of hd, hmB]; rfl
  have hb1 : (dStr d.i).size ≤ 140737488355328 := by rw [dStr_size]; omega
  have hb2 : (dStr d.f).size ≤ 140737488355328 := by rw [dStr_size]; omega
  have HC := fun wx => checkRange_any d.neg (dStr d.i) (dStr d.f) mode 0 p m wx hb1 hb2
  have hR : rangeE (okB d.neg (dStr d.i) (dStr d.f)) mode 0 p m = 0 := by unfold rangeE; rw [if_pos hE, if_neg (by omega)]
  rw [hR] at HC
  have HA := fun wx => asked_any d.neg (dStr d.i) (dStr d.f) mode wx hb1 hb2
  rw [hE] at HA
  refine ⟨fun w => ?_, fun w => ?_⟩
  · exact fx_ok d.neg _ _ mode p m _ _ _ _ _ _ _ w HC h1 (fun wx => wz_pos x p wx _ rfl hx (by omega))
  · refine rf_ok d.neg _ _ mode m p x _ _ _ _ w HA h2 (fun wx F hF => ?_) (by omega) (by omega) (by omega) hx.most hx.df
    rw [hF]
    have hc := cutTo_le x.f p x.f.length
    have := rbound_any x.neg (dStr x.i) (dStr (x.f.take (cutTo x.f p x.f.length) ++ List.replicate (p - cutTo x.f p x.f.length) 0)) wx (by rw [dStr_size, dStr_size, List.length_append, List.length_take, List.length_replicate]; omega)
    rw [bound_cut hx p] at this
    exact this

/-- Both sides tell the same of any decimal, mode and numbers of places. -/
theorem fix_pair (n : Bool) (i f : ByteArray) (mode least most : Int) (hi : i.size ≤ 140737488355328) (hf : f.size ≤ 140737488355328) :
    ∃ (yn : Bool) (yi yf : ByteArray) (c : Int), FxP mode least most n i f (.tuple #[.agg #[.bool yn, .string yi, .string yf], .int .i64 c]) ∧ FxR mode least most n i f (.tuple #[.agg #[.bool yn, .string yi, .string yf], .int .i64 c]) := by
  have HC := fun wx => checkRange_any n i f mode 0 least most wx hi hf
  have HA := fun wx => asked_any n i f mode wx hi hf
  by_cases hE : modeE (okB n i f) mode = 0
  case neg =>
    rw [show rangeE (okB n i f) mode 0 least most = modeE (okB n i f) mode by unfold rangeE; rw [if_neg hE]] at HC
    exact ⟨_, _, _, _, fun w => fx_bad n i f mode least most _ w HC (bne_iff_ne.2 hE), fun w => rf_bad n i f mode least most _ w HA (bne_iff_ne.2 hE)⟩
  rw [hE] at HA
  by_cases hb : least < 0 ∨ most < least ∨ 40 < most
  · rw [show rangeE (okB n i f) mode 0 least most = 1 by unfold rangeE; rw [if_pos hE, if_pos (by omega)]] at HC
    refine ⟨_, _, _, _, fun w => fx_bad n i f mode least most 1 w HC (by decide), fun w => ?_⟩
    by_cases h0 : least < 0
    · exact rf_arg0 n i f mode least most w HA h0
    by_cases h1 : 40 < least
    · exact rf_arg1 n i f mode least most w HA h0 h1
    by_cases h2 : most < least
    · exact rf_arg2 n i f mode least most w HA h0 h1 h2
    exact rf_arg3 n i f mode least most w HA h0 h1 h2 (by omega)
  obtain ⟨p, rfl⟩ : ∃ p : Nat, least = p := ⟨least.toNat, by omega⟩
  obtain ⟨m, rfl⟩ : ∃ m : Nat, most = m := ⟨most.toNat, by omega⟩
  obtain ⟨hk, m1, m8⟩ := mode_of3 hE
  rw [show rangeE (okB n i f) mode 0 p m = 0 by unfold rangeE; rw [if_pos hE, if_neg (by omega)]] at HC
  obtain ⟨d, hd, rfl, rfl, rfl⟩ := ok_cases hk
  obtain ⟨p1, p2, p3⟩ := tplaces_ok d mode m hd m1 m8 (by omega)
  by_cases hle : d.f.length ≤ m
  · obtain ⟨h1, h2⟩ := p1 hle
    exact ⟨_, _, _, _, fix_ok d d mode p m hd hd m1 m8 (by omega) (by omega) h1 h2⟩
  by_cases h8 : mode = 8 ∧ d.num % 10 ^ (d.f.length - m) ≠ 0
  · obtain ⟨h1, h2⟩ := p2 hle h8
    exact ⟨_, _, _, _, fun w => fx_err d.neg _ _ mode p m _ _ _ 31 w HC h1 (by decide), fun w => rf_err d.neg _ _ mode p m _ _ _ 31 w HA h2 (by omega) (by omega) (by omega) (by omega) (by decide)⟩
  · obtain ⟨x, hx, h1, h2⟩ := p3 hle h8
    exact ⟨_, _, _, _, fix_ok d x mode p m hd (mk_some hx).2.2.1 m1 m8 (by omega) (by omega) h1 h2⟩
end Go.Proofs.Ytcdmanhhddcmcaa
