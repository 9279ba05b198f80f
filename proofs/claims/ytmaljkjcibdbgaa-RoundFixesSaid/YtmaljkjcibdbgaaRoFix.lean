/- Fix of the program, way by way. -/
import Derived.Test.YtmaljkjcibdbgaaRoZ
namespace Go.Proofs.Ytmaljkjcibdbgaa
open Go.RowKit
attribute [local go_sem ↓] Go.wp_at_zero Go.wp_at_succ
theorem set_box {W : World} {b : Nat} {x0 x1 x2 : Value} (h : Cells3 W b x0 x1 x2) (y0 y1 y2 : Value) : Cells3 (((W.setCell ⟨b, 0, none⟩ y0).setCell ⟨b, 1, none⟩ y1).setCell ⟨b, 2, none⟩ y2) b y0 y1 y2 :=
  ⟨cell_set_far _ _ _ _ _ _ (by decide) (cell_set_far _ _ _ _ _ _ (by decide) (cell_set_same _ _ _ _ h.1)), cell_set_far _ _ _ _ _ _ (by decide) (cell_set_same _ _ _ _ (cell_set_far _ _ _ _ _ _ (by decide) h.2.1)), cell_set_same _ _ _ _ (cell_set_far _ _ _ _ _ _ (by decide) (cell_set_far _ _ _ _ _ _ (by decide) h.2.2))⟩
theorem far_box {W : World} {b c : Nat} {x0 x1 x2 : Value} (h : Cells3 W b x0 x1 x2) (hne : b ≠ c) (y0 y1 y2 : Value) : Cells3 (((W.setCell ⟨c, 0, none⟩ y0).setCell ⟨c, 1, none⟩ y1).setCell ⟨c, 2, none⟩ y2) b x0 x1 x2 :=
  ⟨(far3 _ _ _ _ _ _ _ hne).trans h.1, (far3 _ _ _ _ _ _ _ hne).trans h.2.1, (far3 _ _ _ _ _ _ _ hne).trans h.2.2⟩


set_option maxHeartbeats 4000000 in
set_option maxRecDepth 100000 in
theorem fx_bad (an : Bool) (ai af : ByteArray) (mode least most : Int) (ec : Int) (w : World) (H1 : (∀ wx : World, Calls Try.prog 69 #[(.agg #[.bool an, .string ai, .string af]), .int .i64 mode, .int .i64 0, .int .i64 least, .int .i64 most] wx fun e w' => e = .returned (.int .i64 ec) ∧ Below wx.heap.size wx w')) (he : (ec != 0) = true) :
    Calls Try.prog 35 #[(.agg #[.bool an, .string ai, .string af]), .int .i64 mode, .int .i64 least, .int .i64 most] w fun e w' => e = .returned (.tuple #[.agg #[.bool false, .string ⟨#[]⟩, .string ⟨#[]⟩], .int .i64 ec]) ∧ Below w.heap.size w w' := by
  have D1 := Lib.hid H1
  clear H1
  go_enter Try.func35, Try.ntmps35
  go_wp2_with fail
  obtain ⟨W0, hW0⟩ : ∃ W0, W0 = ((w.alloc (.cells #[.bool an, .string ai, .string af] 23)).alloc (.cells #[.bool false, .string ⟨#[]⟩, .string ⟨#[]⟩] 23)) := ⟨_, rfl⟩
  obtain ⟨hB, hz, C0, C1, FL⟩ : Below w.heap.size w W0 ∧ w.heap.size + 2 ≤ W0.heap.size ∧ Cells3 W0 w.heap.size (.bool an) (.string ai) (.string af) ∧ Cells3 W0 (w.heap.size + 1) (.bool false) (.string ⟨#[]⟩) (.string ⟨#[]⟩) ∧ ∀ i, W0.frozen? ⟨(w.heap.size + 1), i, none⟩ = false := by rw [hW0]; exact ⟨below_two w _ _, two_boxes w _ _ _ _ _ _ _⟩
  have z0 : w.heap.size + 1 ≤ W0.heap.size := by omega
  have z1 : (w.heap.size + 1) + 1 ≤ W0.heap.size := by omega
  rw [← hW0]
  have HB := Lib.hid hB
  have F1 := Lib.hid FL
  clear hW0 hB hz FL
  (with_reducible refine (D1.out _).mono ?_)
  rintro e V1 ⟨rfl, hb⟩
  replace F1 := Lib.hid (frozen_keep F1.out hb (by omega))
  replace C0 := C0.keep hb (by omega)
  replace z0 : w.heap.size + 1 ≤ V1.heap.size := by have := hb.size; omega
  replace C1 := C1.keep hb (by omega)
  replace z1 : (w.heap.size + 1) + 1 ≤ V1.heap.size := by have := hb.size; omega
  replace HB := Lib.hid (HB.out.trans (hb.mono HB.out.size))
  clear hb
  have o00 := C0.1
  have o10 := C1.1
  have o01 := C0.2.1
  have o02 := C0.2.2
  have o11 := C1.2.1
  have o12 := C1.2.2
  obtain ⟨r0, r1, r2⟩ := C1
  have z0 := F1.out
  obtain ⟨e0, e1, e2⟩ := res_cells r0 r1 r2 (.bool false) (.string ⟨#[]⟩) (.string ⟨#[]⟩)
  go_wp2
  exact bodyPost_ret (v := .tuple #[.agg #[.bool false, .string ⟨#[]⟩, .string ⟨#[]⟩], .int .i64 ec]) (by simp [results, Try.results35, go_sem, e0, e1, e2]) rfl ⟨rfl, res_below HB.out (by omega) _ _ _⟩

set_option maxHeartbeats 4000000 in
set_option maxRecDepth 100000 in
theorem fx_err (an : Bool) (ai af : ByteArray) (mode least most : Int) (yn : Bool) (yi yf : ByteArray) (c : Int) (w : World) (H1 : (∀ wx : World, Calls Try.prog 69 #[(.agg #[.bool an, .string ai, .string af]), .int .i64 mode, .int .i64 0, .int .i64 least, .int .i64 most] wx fun e w' => e = .returned (.int .i64 0) ∧ Below wx.heap.size wx w')) (H2 : (∀ wx : World, Calls Try.prog 70 #[(.agg #[.bool an, .string ai, .string af]), .int .i64 mode, .int .i64 most] wx fun e w' => e = .returned (.tuple #[(.agg #[.bool yn, .string yi, .string yf]), .int .i64 c]) ∧ Below wx.heap.size wx w')) (he : (c != 0) = true) :
    Calls Try.prog 35 #[(.agg #[.bool an, .string ai, .string af]), .int .i64 mode, .int .i64 least, .int .i64 most] w fun e w' => e = .returned (.tuple #[.agg #[.bool false, .string ⟨#[]⟩, .string ⟨#[]⟩], .int .i64 c]) ∧ Below w.heap.size w w' := by
  have D1 := Lib.hid H1
  have D2 := Lib.hid H2
  clear H1 H2
  have q0 : ((0 : Int) != 0) = false := by decide
  go_enter Try.func35, Try.ntmps35
  go_wp2_with fail
  obtain ⟨W0, hW0⟩ : ∃ W0, W0 = ((w.alloc (.cells #[.bool an, .string ai, .string af] 23)).alloc (.cells #[.bool false, .string ⟨#[]⟩, .string ⟨#[]⟩] 23)) := ⟨_, rfl⟩
  obtain ⟨hB, hz, C0, C1, FL⟩ : Below w.heap.size w W0 ∧ w.heap.size + 2 ≤ W0.heap.size ∧ Cells3 W0 w.heap.size (.bool an) (.string ai) (.string af) ∧ Cells3 W0 (w.heap.size + 1) (.bool false) (.string ⟨#[]⟩) (.string ⟨#[]⟩) ∧ ∀ i, W0.frozen? ⟨(w.heap.size + 1), i, none⟩ = false := by rw [hW0]; exact ⟨below_two w _ _, two_boxes w _ _ _ _ _ _ _⟩
  have z0 : w.heap.size + 1 ≤ W0.heap.size := by omega
  have z1 : (w.heap.size + 1) + 1 ≤ W0.heap.size := by omega
  rw [← hW0]
  have HB := Lib.hid hB
  have F1 := Lib.hid FL
  have F0 := Lib.hid (show ∀ i, W0.frozen? ⟨w.heap.size, i, none⟩ = false by rw [hW0]; exact frozen_keep (one_box w (.bool an) (.string ai) (.string af) 23).2.2 ((Below.refl _ _).alloc (Nat.le_refl _) _) (by simp))
  clear hW0 hB hz FL
  (with_reducible refine (D1.out _).mono ?_)
  rintro e V1 ⟨rfl, hb⟩
  replace F0 := Lib.hid (frozen_keep F0.out hb (by omega))
  replace F1 := Lib.hid (frozen_keep F1.out hb (by omega))
  replace C0 := C0.keep hb (by omega)
  replace z0 : w.heap.size + 1 ≤ V1.heap.size := by have := hb.size; omega
  replace C1 := C1.keep hb (by omega)
  replace z1 : (w.heap.size + 1) + 1 ≤ V1.heap.size := by have := hb.size; omega
  replace HB := Lib.hid (HB.out.trans (hb.mono HB.out.size))
  clear hb
  have o00 := C0.1
  have o10 := C1.1
  have o01 := C0.2.1
  have o02 := C0.2.2
  have o11 := C1.2.1
  have o12 := C1.2.2
  go_wp2_with fail
  clear o00 o01 o02 o10 o11 o12
  (with_reducible refine (D2.out _).mono ?_)
  rintro e V2 ⟨rfl, hb⟩
  replace F0 := Lib.hid (frozen_keep F0.out hb (by omega))
  replace F1 := Lib.hid (frozen_keep F1.out hb (by omega))
  replace C0 := C0.keep hb (by omega)
  replace z0 : w.heap.size + 1 ≤ V2.heap.size := by have := hb.size; omega
  replace C1 := C1.keep hb (by omega)
  replace z1 : (w.heap.size + 1) + 1 ≤ V2.heap.size := by have := hb.size; omega
  replace HB := Lib.hid (HB.out.trans (hb.mono HB.out.size))
  clear hb
  have o00 := C0.1
  have o10 := C1.1
  have o01 := C0.2.1
  have o02 := C0.2.2
  have o11 := C1.2.1
  have o12 := C1.2.2
  have f0 := F0.out
  have f1 := F1.out
  go_wp2_with fail
  clear f0
  clear f1
  clear o00 o01 o02 o10 o11 o12
  obtain ⟨V2s, hV2s⟩ : ∃ X, X = ((V2.setCell ⟨w.heap.size, 0, none⟩ (.bool yn)).setCell ⟨w.heap.size, 1, none⟩ (.string yi)).setCell ⟨w.heap.size, 2, none⟩ (.string yf) := ⟨_, rfl⟩
  have C0n := set_box C0 (.bool yn) (.string yi) (.string yf)
  have C1n := far_box C1 (show (w.heap.size + 1) ≠ w.heap.size by omega) (.bool yn) (.string yi) (.string yf)
  have HBn := Lib.hid (res_below HB.out (show w.heap.size ≤ w.heap.size by omega) (.bool yn) (.string yi) (.string yf))
  have hsz : V2s.heap.size = V2.heap.size := by rw [hV2s]; simp [World.setCell]
  replace F0 : Hid (∀ i, V2s.frozen? ⟨w.heap.size, i, none⟩ = false) := by have t := F0.out; show ∀ i, _; rw [hV2s]; intro i; simpa using t i
  replace F1 : Hid (∀ i, V2s.frozen? ⟨(w.heap.size + 1), i, none⟩ = false) := by have t := F1.out; show ∀ i, _; rw [hV2s]; intro i; simpa using t i
  rw [← hV2s]
  rw [← hV2s] at HBn C0n C1n
  clear HB C0 C1 hV2s
  have HB := HBn
  clear HBn
  have C0 := C0n
  clear C0n
  replace z0 : w.heap.size + 1 ≤ V2s.heap.size := by omega
  have C1 := C1n
  clear C1n
  replace z1 : (w.heap.size + 1) + 1 ≤ V2s.heap.size := by omega
  clear hsz
  obtain ⟨r0, r1, r2⟩ := C1
  have z0 := F1.out
  obtain ⟨e0, e1, e2⟩ := res_cells r0 r1 r2 (.bool false) (.string ⟨#[]⟩) (.string ⟨#[]⟩)
  go_wp2
  exact bodyPost_ret (v := .tuple #[.agg #[.bool false, .string ⟨#[]⟩, .string ⟨#[]⟩], .int .i64 c]) (by simp [results, Try.results35, go_sem, e0, e1, e2]) rfl ⟨rfl, res_below HB.out (by omega) _ _ _⟩

set_option maxHeartbeats 4000000 in
set_option maxRecDepth 100000 in
theorem fx_ok (an : Bool) (ai af : ByteArray) (mode least most : Int) (yn : Bool) (yi yf : ByteArray) (xn : Bool) (xi xf : ByteArray) (c : Int) (w : World) (H1 : (∀ wx : World, Calls Try.prog 69 #[(.agg #[.bool an, .string ai, .string af]), .int .i64 mode, .int .i64 0, .int .i64 least, .int .i64 most] wx fun e w' => e = .returned (.int .i64 0) ∧ Below wx.heap.size wx w')) (H2 : (∀ wx : World, Calls Try.prog 70 #[(.agg #[.bool an, .string ai, .string af]), .int .i64 mode, .int .i64 most] wx fun e w' => e = .returned (.tuple #[(.agg #[.bool yn, .string yi, .string yf]), .int .i64 0]) ∧ Below wx.heap.size wx w')) (H3 : (∀ wx : World, Calls Try.prog 75 #[(.agg #[.bool yn, .string yi, .string yf]), .int .i64 least] wx fun e w' => e = .returned (.tuple #[(.agg #[.bool xn, .string xi, .string xf]), .int .i64 c]) ∧ Below wx.heap.size wx w'))  :
    Calls Try.prog 35 #[(.agg #[.bool an, .string ai, .string af]), .int .i64 mode, .int .i64 least, .int .i64 most] w fun e w' => e = .returned (.tuple #[(.agg #[.bool xn, .string xi, .string xf]), .int .i64 c]) ∧ Below w.heap.size w w' := by
  have D1 := Lib.hid H1
  have D2 := Lib.hid H2
  have D3 := Lib.hid H3
  clear H1 H2 H3
  have q0 : ((0 : Int) != 0) = false := by decide
  go_enter Try.func35, Try.ntmps35
  go_wp2_with fail
  obtain ⟨W0, hW0⟩ : ∃ W0, W0 = ((w.alloc (.cells #[.bool an, .string ai, .string af] 23)).alloc (.cells #[.bool false, .string ⟨#[]⟩, .string ⟨#[]⟩] 23)) := ⟨_, rfl⟩
  obtain ⟨hB, hz, C0, C1, FL⟩ : Below w.heap.size w W0 ∧ w.heap.size + 2 ≤ W0.heap.size ∧ Cells3 W0 w.heap.size (.bool an) (.string ai) (.string af) ∧ Cells3 W0 (w.heap.size + 1) (.bool false) (.string ⟨#[]⟩) (.string ⟨#[]⟩) ∧ ∀ i, W0.frozen? ⟨(w.heap.size + 1), i, none⟩ = false := by rw [hW0]; exact ⟨below_two w _ _, two_boxes w _ _ _ _ _ _ _⟩
  have z0 : w.heap.size + 1 ≤ W0.heap.size := by omega
  have z1 : (w.heap.size + 1) + 1 ≤ W0.heap.size := by omega
  rw [← hW0]
  have HB := Lib.hid hB
  have F1 := Lib.hid FL
  have F0 := Lib.hid (show ∀ i, W0.frozen? ⟨w.heap.size, i, none⟩ = false by rw [hW0]; exact frozen_keep (one_box w (.bool an) (.string ai) (.string af) 23).2.2 ((Below.refl _ _).alloc (Nat.le_refl _) _) (by simp))
  clear hW0 hB hz FL
  (with_reducible refine (D1.out _).mono ?_)
  rintro e V1 ⟨rfl, hb⟩
  replace F0 := Lib.hid (frozen_keep F0.out hb (by omega))
  replace F1 := Lib.hid (frozen_keep F1.out hb (by omega))
  replace C0 := C0.keep hb (by omega)
  replace z0 : w.heap.size + 1 ≤ V1.heap.size := by have := hb.size; omega
  replace C1 := C1.keep hb (by omega)
  replace z1 : (w.heap.size + 1) + 1 ≤ V1.heap.size := by have := hb.size; omega
  replace HB := Lib.hid (HB.out.trans (hb.mono HB.out.size))
  clear hb
  have o00 := C0.1
  have o10 := C1.1
  have o01 := C0.2.1
  have o02 := C0.2.2
  have o11 := C1.2.1
  have o12 := C1.2.2
  go_wp2_with fail
  clear o00 o01 o02 o10 o11 o12
  (with_reducible refine (D2.out _).mono ?_)
  rintro e V2 ⟨rfl, hb⟩
  replace F0 := Lib.hid (frozen_keep F0.out hb (by omega))
  replace F1 := Lib.hid (frozen_keep F1.out hb (by omega))
  replace C0 := C0.keep hb (by omega)
  replace z0 : w.heap.size + 1 ≤ V2.heap.size := by have := hb.size; omega
  replace C1 := C1.keep hb (by omega)
  replace z1 : (w.heap.size + 1) + 1 ≤ V2.heap.size := by have := hb.size; omega
  replace HB := Lib.hid (HB.out.trans (hb.mono HB.out.size))
  clear hb
  have o00 := C0.1
  have o10 := C1.1
  have o01 := C0.2.1
  have o02 := C0.2.2
  have o11 := C1.2.1
  have o12 := C1.2.2
  have f0 := F0.out
  have f1 := F1.out
  go_wp2_with fail
  clear f0
  clear f1
  clear o00 o01 o02 o10 o11 o12
  obtain ⟨V2s, hV2s⟩ : ∃ X, X = ((V2.setCell ⟨w.heap.size, 0, none⟩ (.bool yn)).setCell ⟨w.heap.size, 1, none⟩ (.string yi)).setCell ⟨w.heap.size, 2, none⟩ (.string yf) := ⟨_, rfl⟩
  have C0n := set_box C0 (.bool yn) (.string yi) (.string yf)
  have C1n := far_box C1 (show (w.heap.size + 1) ≠ w.heap.size by omega) (.bool yn) (.string yi) (.string yf)
  have HBn := Lib.hid (res_below HB.out (show w.heap.size ≤ w.heap.size by omega) (.bool yn) (.string yi) (.string yf))
  have hsz : V2s.heap.size = V2.heap.size := by rw [hV2s]; simp [World.setCell]
  replace F0 : Hid (∀ i, V2s.frozen? ⟨w.heap.size, i, none⟩ = false) := by have t := F0.out; show ∀ i, _; rw [hV2s]; intro i; simpa using t i
  replace F1 : Hid (∀ i, V2s.frozen? ⟨(w.heap.size + 1), i, none⟩ = false) := by have t := F1.out; show ∀ i, _; rw [hV2s]; intro i; simpa using t i
  rw [← hV2s]
  rw [← hV2s] at HBn C0n C1n
  clear HB C0 C1 hV2s
  have HB := HBn
  clear HBn
  have C0 := C0n
  clear C0n
  replace z0 : w.heap.size + 1 ≤ V2s.heap.size := by omega
  have C1 := C1n
  clear C1n
  replace z1 : (w.heap.size + 1) + 1 ≤ V2s.heap.size := by omega
  clear hsz
  (with_reducible refine (D3.out _).mono ?_)
  rintro e V3 ⟨rfl, hb⟩
  replace F0 := Lib.hid (frozen_keep F0.out hb (by omega))
  replace F1 := Lib.hid (frozen_keep F1.out hb (by omega))
  replace C0 := C0.keep hb (by omega)
  replace z0 : w.heap.size + 1 ≤ V3.heap.size := by have := hb.size; omega
  replace C1 := C1.keep hb (by omega)
  replace z1 : (w.heap.size + 1) + 1 ≤ V3.heap.size := by have := hb.size; omega
  replace HB := Lib.hid (HB.out.trans (hb.mono HB.out.size))
  clear hb
  have o00 := C0.1
  have o10 := C1.1
  have o01 := C0.2.1
  have o02 := C0.2.2
  have o11 := C1.2.1
  have o12 := C1.2.2
  obtain ⟨r0, r1, r2⟩ := C1
  have z0 := F1.out
  obtain ⟨e0, e1, e2⟩ := res_cells r0 r1 r2 (.bool xn) (.string xi) (.string xf)
  go_wp2
  exact bodyPost_ret (v := .tuple #[.agg #[.bool xn, .string xi, .string xf], .int .i64 c]) (by simp [results, Try.results35, go_sem, e0, e1, e2]) rfl ⟨rfl, res_below HB.out (by omega) _ _ _⟩
end Go.Proofs.Ytmaljkjcibdbgaa
