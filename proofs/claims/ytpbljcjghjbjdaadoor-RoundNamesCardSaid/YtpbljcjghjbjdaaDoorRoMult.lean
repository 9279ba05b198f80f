/- toMultiple, way by way. -/
import Derived.Test.YtpbljcjghjbjdaaDoorRoSign
import Derived.Deep.DeepCutAuto
namespace Go.Proofs.YtpbljcjghjbjdaaDoor
open Go.RowKit
attribute [local go_sem ↓] Go.wp_at_zero Go.wp_at_succ

theorem Cells3.far {W : World} {b c : Nat} {x0 x1 x2 : Value} (h : Cells3 W b x0 x1 x2) (hne : b ≠ c) (i : Nat) (y : Value) : Cells3 (W.setCell ⟨c, i, none⟩ y) b x0 x1 x2 :=
  ⟨(World.cell?_setCell_other _ _ _ _ (fun e => hne (congrArg Addr.block e).symm)).trans h.1, (World.cell?_setCell_other _ _ _ _ (fun e => hne (congrArg Addr.block e).symm)).trans h.2.1, (World.cell?_setCell_other _ _ _ _ (fun e => hne (congrArg Addr.block e).symm)).trans h.2.2⟩

set_option maxHeartbeats 8000000 in
set_option maxRecDepth 100000 in
theorem tm_none (an rn : Bool) (ai af ri rf ui uf : ByteArray) (mode sg : Int) (w : World) (H1 : (∀ wx : World, Calls Tryd.prog 58 #[(.agg #[.bool an, .string ai, .string af]), (.agg #[.bool false, .string ui, .string uf])] wx fun e w' => e = .returned (.tuple #[(.agg #[.bool rn, .string ri, .string rf]), .int .i64 0]) ∧ Below wx.heap.size wx w')) (H2 : (∀ wx : World, Calls Tryd.prog 175 #[(.agg #[.bool rn, .string ri, .string rf])] wx fun e w' => e = .returned (.int .i64 sg) ∧ Below wx.heap.size wx w')) (k8 : (mode == 8) = true) (ks : (sg == 0) = false) :
    Calls Tryd.prog 144 #[(.agg #[.bool an, .string ai, .string af]), .int .i64 mode, (.agg #[.bool false, .string ui, .string uf])] w fun e w' => e = .returned (.tuple #[.agg #[.bool false, .string ⟨#[]⟩, .string ⟨#[]⟩], .int .i64 31]) ∧ Below w.heap.size w w' := by
  have D1 := Lib.hid H1
  have D2 := Lib.hid H2
  clear H1 H2
  go_enter Tryd.func144, Tryd.ntmps144
  go_wp2_with fail
  obtain ⟨W0, hW0⟩ : ∃ W0, W0 = (((w.alloc (.cells #[.bool an, .string ai, .string af] 23)).alloc (.cells #[.bool false, .string ui, .string uf] 23)).alloc (.cells #[.bool false, .string ⟨#[]⟩, .string ⟨#[]⟩] 23)) := ⟨_, rfl⟩
  obtain ⟨hB, hz, C0, C1, C2, FL⟩ : Below w.heap.size w W0 ∧ w.heap.size + 3 ≤ W0.heap.size ∧ Cells3 W0 w.heap.size (.bool an) (.string ai) (.string af) ∧ Cells3 W0 (w.heap.size + 1) (.bool false) (.string ui) (.string uf) ∧ Cells3 W0 (w.heap.size + 2) (.bool false) (.string ⟨#[]⟩) (.string ⟨#[]⟩) ∧ ∀ i, W0.frozen? ⟨(w.heap.size + 2), i, none⟩ = false := by rw [hW0]; exact ⟨below_three w _ _ _, three_boxes w _ _ _ _ _ _ _ _ _ _⟩
  have z0 : w.heap.size + 1 ≤ W0.heap.size := by omega
  have z1 : (w.heap.size + 1) + 1 ≤ W0.heap.size := by omega
  have z2 : (w.heap.size + 2) + 1 ≤ W0.heap.size := by omega
  rw [← hW0]
  have HB := Lib.hid hB
  have F2 := Lib.hid FL
  clear hW0 hB hz FL
  (with_reducible refine (D1.out _).mono ?_)
  rintro e V1 ⟨rfl, hb⟩
  replace F2 := Lib.hid (frozen_keep F2.out hb (by omega))
  replace C0 := C0.keep hb (by omega)
  replace z0 : w.heap.size + 1 ≤ V1.heap.size := by have := hb.size; omega
  replace C1 := C1.keep hb (by omega)
  replace z1 : (w.heap.size + 1) + 1 ≤ V1.heap.size := by have := hb.size; omega
  replace C2 := C2.keep hb (by omega)
  replace z2 : (w.heap.size + 2) + 1 ≤ V1.heap.size := by have := hb.size; omega
  replace HB := Lib.hid (HB.out.trans (hb.mono HB.out.size))
  clear hb
  have y3_2 := z2
  have y3_1 := z1
  have y3_0 := z0
  have ba : Below V1.heap.size V1 (V1.alloc (.cells #[.bool rn, .string ri, .string rf] 23)) := (Below.refl _ _).alloc (Nat.le_refl _) _
  replace C0 := C0.keep ba (by omega)
  replace z0 : w.heap.size + 1 ≤ (V1.alloc (.cells #[.bool rn, .string ri, .string rf] 23)).heap.size := by have := ba.size; omega
  replace C1 := C1.keep ba (by omega)
  replace z1 : (w.heap.size + 1) + 1 ≤ (V1.alloc (.cells #[.bool rn, .string ri, .string rf] 23)).heap.size := by have := ba.size; omega
  replace C2 := C2.keep ba (by omega)
  replace z2 : (w.heap.size + 2) + 1 ≤ (V1.alloc (.cells #[.bool rn, .string ri, .string rf] 23)).heap.size := by have := ba.size; omega
  replace HB := Lib.hid (HB.out.trans (ba.mono HB.out.size))
  clear ba
  have C3 : Cells3 (V1.alloc (.cells #[.bool rn, .string ri, .string rf] 23)) V1.heap.size (.bool rn) (.string ri) (.string rf) := (one_box V1 _ _ _ _).2.1
  have z3 : V1.heap.size + 1 ≤ (V1.alloc (.cells #[.bool rn, .string ri, .string rf] 23)).heap.size := by simp
  have o00 := C0.1
  have o10 := C1.1
  have o20 := C2.1
  have o30 := C3.1
  have o01 := C0.2.1
  have o02 := C0.2.2
  have o11 := C1.2.1
  have o12 := C1.2.2
  have o21 := C2.2.1
  have o22 := C2.2.2
  have o31 := C3.2.1
  have o32 := C3.2.2
  replace F2 := Lib.hid (frozen_keep F2.out ((Below.refl _ _).alloc (Nat.le_refl _) (.cells #[.bool rn, .string ri, .string rf] 23)) (by omega))
  have F3 := Lib.hid (one_box V1 (.bool rn) (.string ri) (.string rf) 23).2.2
  go_wp2_with fail
  clear o00 o01 o02 o10 o11 o12 o20 o21 o22 o30 o31 o32
  obtain ⟨V1x, hV1x⟩ : ∃ V1x, V1x = V1.alloc (.cells #[.bool rn, .string ri, .string rf] 23) := ⟨_, rfl⟩
  have HX := Lib.hid (show V1.heap.size + 1 = V1x.heap.size by rw [hV1x]; simp)
  rw [← hV1x]
  rw [← hV1x] at HB C0 z0 C1 z1 C2 z2 C3 z3 F2 F3
  clear hV1x
  (with_reducible refine (D2.out _).mono ?_)
  rintro e V2 ⟨rfl, hb⟩
  replace F2 := Lib.hid (frozen_keep F2.out hb (by omega))
  replace F3 := Lib.hid (frozen_keep F3.out hb (by omega))
  replace C0 := C0.keep hb (by omega)
  replace z0 : w.heap.size + 1 ≤ V2.heap.size := by have := hb.size; omega
  replace C1 := C1.keep hb (by omega)
  replace z1 : (w.heap.size + 1) + 1 ≤ V2.heap.size := by have := hb.size; omega
  replace C2 := C2.keep hb (by omega)
  replace z2 : (w.heap.size + 2) + 1 ≤ V2.heap.size := by have := hb.size; omega
  replace C3 := C3.keep hb (by omega)
  replace z3 : V1.heap.size + 1 ≤ V2.heap.size := by have := hb.size; omega
  replace HB := Lib.hid (HB.out.trans (hb.mono HB.out.size))
  clear hb
  have o00 := C0.1
  have o10 := C1.1
  have o20 := C2.1
  have o30 := C3.1
  have o01 := C0.2.1
  have o02 := C0.2.2
  have o11 := C1.2.1
  have o12 := C1.2.2
  have o21 := C2.2.1
  have o22 := C2.2.2
  have o31 := C3.2.1
  have o32 := C3.2.2
  obtain ⟨r0, r1, r2⟩ := C2
  have z0 := F2.out
  obtain ⟨e0, e1, e2⟩ := res_cells r0 r1 r2 (.bool false) (.string ⟨#[]⟩) (.string ⟨#[]⟩)
  go_wp2
  exact bodyPost_ret (v := .tuple #[.agg #[.bool false, .string ⟨#[]⟩, .string ⟨#[]⟩], .int .i64 31]) (by simp [results, Tryd.results144, go_sem, e0, e1, e2]) rfl ⟨rfl, res_below HB.out (by omega) _ _ _⟩

set_option maxHeartbeats 8000000 in
set_option maxRecDepth 100000 in
theorem tm_bound_false (an rn : Bool) (ai af ri rf ui uf : ByteArray) (mode sg : Int) (w : World) (H1 : (∀ wx : World, Calls Tryd.prog 58 #[(.agg #[.bool an, .string ai, .string af]), (.agg #[.bool false, .string ui, .string uf])] wx fun e w' => e = .returned (.tuple #[(.agg #[.bool rn, .string ri, .string rf]), .int .i64 0]) ∧ Below wx.heap.size wx w')) (H2 : (∀ wx : World, Calls Tryd.prog 175 #[(.agg #[.bool rn, .string ri, .string rf])] wx fun e w' => e = .returned (.int .i64 sg) ∧ Below wx.heap.size wx w')) (H3 : (∀ wx : World, Calls Tryd.prog 176 #[(.agg #[.bool an, .string ai, .string af]), (.agg #[.bool rn, .string ri, .string rf])] wx fun e w' => e = .returned (.tuple #[.agg #[.bool false, .string ⟨#[]⟩, .string ⟨#[]⟩], .int .i64 3]) ∧ Below wx.heap.size wx w')) (k8 : (mode == 8) = false) :
    Calls Tryd.prog 144 #[(.agg #[.bool an, .string ai, .string af]), .int .i64 mode, (.agg #[.bool false, .string ui, .string uf])] w fun e w' => e = .returned (.tuple #[.agg #[.bool false, .string ⟨#[]⟩, .string ⟨#[]⟩], .int .i64 3]) ∧ Below w.heap.size w w' := by
  have D1 := Lib.hid H1
  have D2 := Lib.hid H2
  have D3 := Lib.hid H3
  clear H1 H2 H3
  have q3 : ((3 : Int) != 0) = true := by decide
  go_enter Tryd.func144, Tryd.ntmps144
  go_wp2_with fail
  obtain ⟨W0, hW0⟩ : ∃ W0, W0 = (((w.alloc (.cells #[.bool an, .string ai, .string af] 23)).alloc (.cells #[.bool false, .string ui, .string uf] 23)).alloc (.cells #[.bool false, .string ⟨#[]⟩, .string ⟨#[]⟩] 23)) := ⟨_, rfl⟩
  obtain ⟨hB, hz, C0, C1, C2, FL⟩ : Below w.heap.size w W0 ∧ w.heap.size + 3 ≤ W0.heap.size ∧ Cells3 W0 w.heap.size (.bool an) (.string ai) (.string af) ∧ Cells3 W0 (w.heap.size + 1) (.bool false) (.string ui) (.string uf) ∧ Cells3 W0 (w.heap.size + 2) (.bool false) (.string ⟨#[]⟩) (.string ⟨#[]⟩) ∧ ∀ i, W0.frozen? ⟨(w.heap.size + 2), i, none⟩ = false := by rw [hW0]; exact ⟨below_three w _ _ _, three_boxes w _ _ _ _ _ _ _ _ _ _⟩
  have z0 : w.heap.size + 1 ≤ W0.heap.size := by omega
  have z1 : (w.heap.size + 1) + 1 ≤ W0.heap.size := by omega
  have z2 : (w.heap.size + 2) + 1 ≤ W0.heap.size := by omega
  rw [← hW0]
  have HB := Lib.hid hB
  have F2 := Lib.hid FL
  clear hW0 hB hz FL
  (with_reducible refine (D1.out _).mono ?_)
  rintro e V1 ⟨rfl, hb⟩
  replace F2 := Lib.hid (frozen_keep F2.out hb (by omega))
  replace C0 := C0.keep hb (by omega)
  replace z0 : w.heap.size + 1 ≤ V1.heap.size := by have := hb.size; omega
  replace C1 := C1.keep hb (by omega)
  replace z1 : (w.heap.size + 1) + 1 ≤ V1.heap.size := by have := hb.size; omega
  replace C2 := C2.keep hb (by omega)
  replace z2 : (w.heap.size + 2) + 1 ≤ V1.heap.size := by have := hb.size; omega
  replace HB := Lib.hid (HB.out.trans (hb.mono HB.out.size))
  clear hb
  have y3_2 := z2
  have y3_1 := z1
  have y3_0 := z0
  have ba : Below V1.heap.size V1 (V1.alloc (.cells #[.bool rn, .string ri, .string rf] 23)) := (Below.refl _ _).alloc (Nat.le_refl _) _
  replace C0 := C0.keep ba (by omega)
  replace z0 : w.heap.size + 1 ≤ (V1.alloc (.cells #[.bool rn, .string ri, .string rf] 23)).heap.size := by have := ba.size; omega
  replace C1 := C1.keep ba (by omega)
  replace z1 : (w.heap.size + 1) + 1 ≤ (V1.alloc (.cells #[.bool rn, .string ri, .string rf] 23)).heap.size := by have := ba.size; omega
  replace C2 := C2.keep ba (by omega)
  replace z2 : (w.heap.size + 2) + 1 ≤ (V1.alloc (.cells #[.bool rn, .string ri, .string rf] 23)).heap.size := by have := ba.size; omega
  replace HB := Lib.hid (HB.out.trans (ba.mono HB.out.size))
  clear ba
  have C3 : Cells3 (V1.alloc (.cells #[.bool rn, .string ri, .string rf] 23)) V1.heap.size (.bool rn) (.string ri) (.string rf) := (one_box V1 _ _ _ _).2.1
  have z3 : V1.heap.size + 1 ≤ (V1.alloc (.cells #[.bool rn, .string ri, .string rf] 23)).heap.size := by simp
  have o00 := C0.1
  have o10 := C1.1
  have o20 := C2.1
  have o30 := C3.1
  have o01 := C0.2.1
  have o02 := C0.2.2
  have o11 := C1.2.1
  have o12 := C1.2.2
  have o21 := C2.2.1
  have o22 := C2.2.2
  have o31 := C3.2.1
  have o32 := C3.2.2
  replace F2 := Lib.hid (frozen_keep F2.out ((Below.refl _ _).alloc (Nat.le_refl _) (.cells #[.bool rn, .string ri, .string rf] 23)) (by omega))
  have F3 := Lib.hid (one_box V1 (.bool rn) (.string ri) (.string rf) 23).2.2
  go_wp2_with fail
  clear o00 o01 o02 o10 o11 o12 o20 o21 o22 o30 o31 o32
  obtain ⟨V1x, hV1x⟩ : ∃ V1x, V1x = V1.alloc (.cells #[.bool rn, .string ri, .string rf] 23) := ⟨_, rfl⟩
  have HX := Lib.hid (show V1.heap.size + 1 = V1x.heap.size by rw [hV1x]; simp)
  rw [← hV1x]
  rw [← hV1x] at HB C0 z0 C1 z1 C2 z2 C3 z3 F2 F3
  clear hV1x
  (with_reducible refine (D2.out _).mono ?_)
  rintro e V2 ⟨rfl, hb⟩
  replace F2 := Lib.hid (frozen_keep F2.out hb (by omega))
  replace F3 := Lib.hid (frozen_keep F3.out hb (by omega))
  replace C0 := C0.keep hb (by omega)
  replace z0 : w.heap.size + 1 ≤ V2.heap.size := by have := hb.size; omega
  replace C1 := C1.keep hb (by omega)
  replace z1 : (w.heap.size + 1) + 1 ≤ V2.heap.size := by have := hb.size; omega
  replace C2 := C2.keep hb (by omega)
  replace z2 : (w.heap.size + 2) + 1 ≤ V2.heap.size := by have := hb.size; omega
  replace C3 := C3.keep hb (by omega)
  replace z3 : V1.heap.size + 1 ≤ V2.heap.size := by have := hb.size; omega
  replace HB := Lib.hid (HB.out.trans (hb.mono HB.out.size))
  clear hb
  have o00 := C0.1
  have o10 := C1.1
  have o20 := C2.1
  have o30 := C3.1
  have o01 := C0.2.1
  have o02 := C0.2.2
  have o11 := C1.2.1
  have o12 := C1.2.2
  have o21 := C2.2.1
  have o22 := C2.2.2
  have o31 := C3.2.1
  have o32 := C3.2.2
  go_wp2_with fail
  clear o00 o01 o02 o10 o11 o12 o20 o21 o22 o30 o31 o32
  (with_reducible refine (D3.out _).mono ?_)
  rintro e V3 ⟨rfl, hb⟩
  replace F2 := Lib.hid (frozen_keep F2.out hb (by omega))
  replace F3 := Lib.hid (frozen_keep F3.out hb (by omega))
  replace C0 := C0.keep hb (by omega)
  replace z0 : w.heap.size + 1 ≤ V3.heap.size := by have := hb.size; omega
  replace C1 := C1.keep hb (by omega)
  replace z1 : (w.heap.size + 1) + 1 ≤ V3.heap.size := by have := hb.size; omega
  replace C2 := C2.keep hb (by omega)
  replace z2 : (w.heap.size + 2) + 1 ≤ V3.heap.size := by have := hb.size; omega
  replace C3 := C3.keep hb (by omega)
  replace z3 : V1.heap.size + 1 ≤ V3.heap.size := by have := hb.size; omega
  replace HB := Lib.hid (HB.out.trans (hb.mono HB.out.size))
  clear hb
  have y4_3 := z3
  have y4_2 := z2
  have y4_1 := z1
  have y4_0 := z0
  have ba : Below V3.heap.size V3 (V3.alloc (.cells #[.bool false, .string ⟨#[]⟩, .string ⟨#[]⟩] 23)) := (Below.refl _ _).alloc (Nat.le_refl _) _
  replace C0 := C0.keep ba (by omega)
  replace z0 : w.heap.size + 1 ≤ (V3.alloc (.cells #[.bool false, .string ⟨#[]⟩, .string ⟨#[]⟩] 23)).heap.size := by have := ba.size; omega
  replace C1 := C1.keep ba (by omega)
  replace z1 : (w.heap.size + 1) + 1 ≤ (V3.alloc (.cells #[.bool false, .string ⟨#[]⟩, .string ⟨#[]⟩] 23)).heap.size := by have := ba.size; omega
  replace C2 := C2.keep ba (by omega)
  replace z2 : (w.heap.size + 2) + 1 ≤ (V3.alloc (.cells #[.bool false, .string ⟨#[]⟩, .string ⟨#[]⟩] 23)).heap.size := by have := ba.size; omega
  replace C3 := C3.keep ba (by omega)
  replace z3 : V1.heap.size + 1 ≤ (V3.alloc (.cells #[.bool false, .string ⟨#[]⟩, .string ⟨#[]⟩] 23)).heap.size := by have := ba.size; omega
  replace HB := Lib.hid (HB.out.trans (ba.mono HB.out.size))
  clear ba
  have C4 : Cells3 (V3.alloc (.cells #[.bool false, .string ⟨#[]⟩, .string ⟨#[]⟩] 23)) V3.heap.size (.bool false) (.string ⟨#[]⟩) (.string ⟨#[]⟩) := (one_box V3 _ _ _ _).2.1
  have z4 : V3.heap.size + 1 ≤ (V3.alloc (.cells #[.bool false, .string ⟨#[]⟩, .string ⟨#[]⟩] 23)).heap.size := by simp
  have o00 := C0.1
  have o10 := C1.1
  have o20 := C2.1
  have o30 := C3.1
  have o40 := C4.1
  have o01 := C0.2.1
  have o02 := C0.2.2
  have o11 := C1.2.1
  have o12 := C1.2.2
  have o21 := C2.2.1
  have o22 := C2.2.2
  have o31 := C3.2.1
  have o32 := C3.2.2
  have o41 := C4.2.1
  have o42 := C4.2.2
  replace F2 := Lib.hid (frozen_keep F2.out ((Below.refl _ _).alloc (Nat.le_refl _) (.cells #[.bool false, .string ⟨#[]⟩, .string ⟨#[]⟩] 23)) (by omega))
  replace F3 := Lib.hid (frozen_keep F3.out ((Below.refl _ _).alloc (Nat.le_refl _) (.cells #[.bool false, .string ⟨#[]⟩, .string ⟨#[]⟩] 23)) (by omega))
  have F4 := Lib.hid (one_box V3 (.bool false) (.string ⟨#[]⟩) (.string ⟨#[]⟩) 23).2.2
  obtain ⟨r0, r1, r2⟩ := C2
  have z0 := F2.out
  obtain ⟨e0, e1, e2⟩ := res_cells r0 r1 r2 (.bool false) (.string ⟨#[]⟩) (.string ⟨#[]⟩)
  go_wp2
  exact bodyPost_ret (v := .tuple #[.agg #[.bool false, .string ⟨#[]⟩, .string ⟨#[]⟩], .int .i64 3]) (by simp [results, Tryd.results144, go_sem, e0, e1, e2]) rfl ⟨rfl, res_below HB.out (by omega) _ _ _⟩

set_option maxHeartbeats 8000000 in
set_option maxRecDepth 100000 in
theorem tm_bound_true (an rn : Bool) (ai af ri rf ui uf : ByteArray) (mode sg : Int) (w : World) (H1 : (∀ wx : World, Calls Tryd.prog 58 #[(.agg #[.bool an, .string ai, .string af]), (.agg #[.bool false, .string ui, .string uf])] wx fun e w' => e = .returned (.tuple #[(.agg #[.bool rn, .string ri, .string rf]), .int .i64 0]) ∧ Below wx.heap.size wx w')) (H2 : (∀ wx : World, Calls Tryd.prog 175 #[(.agg #[.bool rn, .string ri, .string rf])] wx fun e w' => e = .returned (.int .i64 sg) ∧ Below wx.heap.size wx w')) (H3 : (∀ wx : World, Calls Tryd.prog 176 #[(.agg #[.bool an, .string ai, .string af]), (.agg #[.bool rn, .string ri, .string rf])] wx fun e w' => e = .returned (.tuple #[.agg #[.bool false, .string ⟨#[]⟩, .string ⟨#[]⟩], .int .i64 3]) ∧ Below wx.heap.size wx w')) (k8 : (mode == 8) = true) (ks : (sg == 0) = true) :
    Calls Tryd.prog 144 #[(.agg #[.bool an, .string ai, .string af]), .int .i64 mode, (.agg #[.bool false, .string ui, .string uf])] w fun e w' => e = .returned (.tuple #[.agg #[.bool false, .string ⟨#[]⟩, .string ⟨#[]⟩], .int .i64 3]) ∧ Below w.heap.size w w' := by
  have D1 := Lib.hid H1
  have D2 := Lib.hid H2
  have D3 := Lib.hid H3
  clear H1 H2 H3
  have q3 : ((3 : Int) != 0) = true := by decide
  go_enter Tryd.func144, Tryd.ntmps144
  go_wp2_with fail
  obtain ⟨W0, hW0⟩ : ∃ W0, W0 = (((w.alloc (.cells #[.bool an, .string ai, .string af] 23)).alloc (.cells #[.bool false, .string ui, .string uf] 23)).alloc (.cells #[.bool false, .string ⟨#[]⟩, .string ⟨#[]⟩] 23)) := ⟨_, rfl⟩
  obtain ⟨hB, hz, C0, C1, C2, FL⟩ : Below w.heap.size w W0 ∧ w.heap.size + 3 ≤ W0.heap.size ∧ Cells3 W0 w.heap.size (.bool an) (.string ai) (.string af) ∧ Cells3 W0 (w.heap.size + 1) (.bool false) (.string ui) (.string uf) ∧ Cells3 W0 (w.heap.size + 2) (.bool false) (.string ⟨#[]⟩) (.string ⟨#[]⟩) ∧ ∀ i, W0.frozen? ⟨(w.heap.size + 2), i, none⟩ = false := by rw [hW0]; exact ⟨below_three w _ _ _, three_boxes w _ _ _ _ _ _ _ _ _ _⟩
  have z0 : w.heap.size + 1 ≤ W0.heap.size := by omega
  have z1 : (w.heap.size + 1) + 1 ≤ W0.heap.size := by omega
  have z2 : (w.heap.size + 2) + 1 ≤ W0.heap.size := by omega
  rw [← hW0]
  have HB := Lib.hid hB
  have F2 := Lib.hid FL
  clear hW0 hB hz FL
  (with_reducible refine (D1.out _).mono ?_)
  rintro e V1 ⟨rfl, hb⟩
  replace F2 := Lib.hid (frozen_keep F2.out hb (by omega))
  replace C0 := C0.keep hb (by omega)
  replace z0 : w.heap.size + 1 ≤ V1.heap.size := by have := hb.size; omega
  replace C1 := C1.keep hb (by omega)
  replace z1 : (w.heap.size + 1) + 1 ≤ V1.heap.size := by have := hb.size; omega
  replace C2 := C2.keep hb (by omega)
  replace z2 : (w.heap.size + 2) + 1 ≤ V1.heap.size := by have := hb.size; omega
  replace HB := Lib.hid (HB.out.trans (hb.mono HB.out.size))
  clear hb
  have y3_2 := z2
  have y3_1 := z1
  have y3_0 := z0
  have ba : Below V1.heap.size V1 (V1.alloc (.cells #[.bool rn, .string ri, .string rf] 23)) := (Below.refl _ _).alloc (Nat.le_refl _) _
  replace C0 := C0.keep ba (by omega)
  replace z0 : w.heap.size + 1 ≤ (V1.alloc (.cells #[.bool rn, .string ri, .string rf] 23)).heap.size := by have := ba.size; omega
  replace C1 := C1.keep ba (by omega)
  replace z1 : (w.heap.size + 1) + 1 ≤ (V1.alloc (.cells #[.bool rn, .string ri, .string rf] 23)).heap.size := by have := ba.size; omega
  replace C2 := C2.keep ba (by omega)
  replace z2 : (w.heap.size + 2) + 1 ≤ (V1.alloc (.cells #[.bool rn, .string ri, .string rf] 23)).heap.size := by have := ba.size; omega
  replace HB := Lib.hid (HB.out.trans (ba.mono HB.out.size))
  clear ba
  have C3 : Cells3 (V1.alloc (.cells #[.bool rn, .string ri, .string rf] 23)) V1.heap.size (.bool rn) (.string ri) (.string rf) := (one_box V1 _ _ _ _).2.1
  have z3 : V1.heap.size + 1 ≤ (V1.alloc (.cells #[.bool rn, .string ri, .string rf] 23)).heap.size := by simp
  have o00 := C0.1
  have o10 := C1.1
  have o20 := C2.1
  have o30 := C3.1
  have o01 := C0.2.1
  have o02 := C0.2.2
  have o11 := C1.2.1
  have o12 := C1.2.2
  have o21 := C2.2.1
  have o22 := C2.2.2
  have o31 := C3.2.1
  have o32 := C3.2.2
  replace F2 := Lib.hid (frozen_keep F2.out ((Below.refl _ _).alloc (Nat.le_refl _) (.cells #[.bool rn, .string ri, .string rf] 23)) (by omega))
  have F3 := Lib.hid (one_box V1 (.bool rn) (.string ri) (.string rf) 23).2.2
  go_wp2_with fail
  clear o00 o01 o02 o10 o11 o12 o20 o21 o22 o30 o31 o32
  obtain ⟨V1x, hV1x⟩ : ∃ V1x, V1x = V1.alloc (.cells #[.bool rn, .string ri, .string rf] 23) := ⟨_, rfl⟩
  have HX := Lib.hid (show V1.heap.size + 1 = V1x.heap.size by rw [hV1x]; simp)
  rw [← hV1x]
  rw [← hV1x] at HB C0 z0 C1 z1 C2 z2 C3 z3 F2 F3
  clear hV1x
  (with_reducible refine (D2.out _).mono ?_)
  rintro e V2 ⟨rfl, hb⟩
  replace F2 := Lib.hid (frozen_keep F2.out hb (by omega))
  replace F3 := Lib.hid (frozen_keep F3.out hb (by omega))
  replace C0 := C0.keep hb (by omega)
  replace z0 : w.heap.size + 1 ≤ V2.heap.size := by have := hb.size; omega
  replace C1 := C1.keep hb (by omega)
  replace z1 : (w.heap.size + 1) + 1 ≤ V2.heap.size := by have := hb.size; omega
  replace C2 := C2.keep hb (by omega)
  replace z2 : (w.heap.size + 2) + 1 ≤ V2.heap.size := by have := hb.size; omega
  replace C3 := C3.keep hb (by omega)
  replace z3 : V1.heap.size + 1 ≤ V2.heap.size := by have := hb.size; omega
  replace HB := Lib.hid (HB.out.trans (hb.mono HB.out.size))
  clear hb
  have o00 := C0.1
  have o10 := C1.1
  have o20 := C2.1
  have o30 := C3.1
  have o01 := C0.2.1
  have o02 := C0.2.2
  have o11 := C1.2.1
  have o12 := C1.2.2
  have o21 := C2.2.1
  have o22 := C2.2.2
  have o31 := C3.2.1
  have o32 := C3.2.2
  go_wp2_with fail
  clear o00 o01 o02 o10 o11 o12 o20 o21 o22 o30 o31 o32
  (with_reducible refine (D3.out _).mono ?_)
  rintro e V3 ⟨rfl, hb⟩
  replace F2 := Lib.hid (frozen_keep F2.out hb (by omega))
  replace F3 := Lib.hid (frozen_keep F3.out hb (by omega))
  replace C0 := C0.keep hb (by omega)
  replace z0 : w.heap.size + 1 ≤ V3.heap.size := by have := hb.size; omega
  replace C1 := C1.keep hb (by omega)
  replace z1 : (w.heap.size + 1) + 1 ≤ V3.heap.size := by have := hb.size; omega
  replace C2 := C2.keep hb (by omega)
  replace z2 : (w.heap.size + 2) + 1 ≤ V3.heap.size := by have := hb.size; omega
  replace C3 := C3.keep hb (by omega)
  replace z3 : V1.heap.size + 1 ≤ V3.heap.size := by have := hb.size; omega
  replace HB := Lib.hid (HB.out.trans (hb.mono HB.out.size))
  clear hb
  have y4_3 := z3
  have y4_2 := z2
  have y4_1 := z1
  have y4_0 := z0
  have ba : Below V3.heap.size V3 (V3.alloc (.cells #[.bool false, .string ⟨#[]⟩, .string ⟨#[]⟩] 23)) := (Below.refl _ _).alloc (Nat.le_refl _) _
  replace C0 := C0.keep ba (by omega)
  replace z0 : w.heap.size + 1 ≤ (V3.alloc (.cells #[.bool false, .string ⟨#[]⟩, .string ⟨#[]⟩] 23)).heap.size := by have := ba.size; omega
  replace C1 := C1.keep ba (by omega)
  replace z1 : (w.heap.size + 1) + 1 ≤ (V3.alloc (.cells #[.bool false, .string ⟨#[]⟩, .string ⟨#[]⟩] 23)).heap.size := by have := ba.size; omega
  replace C2 := C2.keep ba (by omega)
  replace z2 : (w.heap.size + 2) + 1 ≤ (V3.alloc (.cells #[.bool false, .string ⟨#[]⟩, .string ⟨#[]⟩] 23)).heap.size := by have := ba.size; omega
  replace C3 := C3.keep ba (by omega)
  replace z3 : V1.heap.size + 1 ≤ (V3.alloc (.cells #[.bool false, .string ⟨#[]⟩, .string ⟨#[]⟩] 23)).heap.size := by have := ba.size; omega
  replace HB := Lib.hid (HB.out.trans (ba.mono HB.out.size))
  clear ba
  have C4 : Cells3 (V3.alloc (.cells #[.bool false, .string ⟨#[]⟩, .string ⟨#[]⟩] 23)) V3.heap.size (.bool false) (.string ⟨#[]⟩) (.string ⟨#[]⟩) := (one_box V3 _ _ _ _).2.1
  have z4 : V3.heap.size + 1 ≤ (V3.alloc (.cells #[.bool false, .string ⟨#[]⟩, .string ⟨#[]⟩] 23)).heap.size := by simp
  have o00 := C0.1
  have o10 := C1.1
  have o20 := C2.1
  have o30 := C3.1
  have o40 := C4.1
  have o01 := C0.2.1
  have o02 := C0.2.2
  have o11 := C1.2.1
  have o12 := C1.2.2
  have o21 := C2.2.1
  have o22 := C2.2.2
  have o31 := C3.2.1
  have o32 := C3.2.2
  have o41 := C4.2.1
  have o42 := C4.2.2
  replace F2 := Lib.hid (frozen_keep F2.out ((Below.refl _ _).alloc (Nat.le_refl _) (.cells #[.bool false, .string ⟨#[]⟩, .string ⟨#[]⟩] 23)) (by omega))
  replace F3 := Lib.hid (frozen_keep F3.out ((Below.refl _ _).alloc (Nat.le_refl _) (.cells #[.bool false, .string ⟨#[]⟩, .string ⟨#[]⟩] 23)) (by omega))
  have F4 := Lib.hid (one_box V3 (.bool false) (.string ⟨#[]⟩) (.string ⟨#[]⟩) 23).2.2
  obtain ⟨r0, r1, r2⟩ := C2
  have z0 := F2.out
  obtain ⟨e0, e1, e2⟩ := res_cells r0 r1 r2 (.bool false) (.string ⟨#[]⟩) (.string ⟨#[]⟩)
  go_wp2
  exact bodyPost_ret (v := .tuple #[.agg #[.bool false, .string ⟨#[]⟩, .string ⟨#[]⟩], .int .i64 3]) (by simp [results, Tryd.results144, go_sem, e0, e1, e2]) rfl ⟨rfl, res_below HB.out (by omega) _ _ _⟩

set_option maxHeartbeats 8000000 in
set_option maxRecDepth 100000 in
theorem tm_exact_true (an rn : Bool) (ai af ri rf ui uf : ByteArray) (mode sg : Int) (xn : Bool) (xi xf : ByteArray) (w : World) (H1 : (∀ wx : World, Calls Tryd.prog 58 #[(.agg #[.bool an, .string ai, .string af]), (.agg #[.bool false, .string ui, .string uf])] wx fun e w' => e = .returned (.tuple #[(.agg #[.bool rn, .string ri, .string rf]), .int .i64 0]) ∧ Below wx.heap.size wx w')) (H2 : (∀ wx : World, Calls Tryd.prog 175 #[(.agg #[.bool rn, .string ri, .string rf])] wx fun e w' => e = .returned (.int .i64 sg) ∧ Below wx.heap.size wx w')) (H3 : (∀ wx : World, Calls Tryd.prog 176 #[(.agg #[.bool an, .string ai, .string af]), (.agg #[.bool rn, .string ri, .string rf])] wx fun e w' => e = .returned (.tuple #[(.agg #[.bool xn, .string xi, .string xf]), .int .i64 0]) ∧ Below wx.heap.size wx w')) (k8 : (mode == 8) = true) (ks : (sg == 0) = true) (hz : uf.size ≤ xf.size) :
    Calls Tryd.prog 144 #[(.agg #[.bool an, .string ai, .string af]), .int .i64 mode, (.agg #[.bool false, .string ui, .string uf])] w fun e w' => e = .returned (.tuple #[.agg #[.bool xn, .string xi, .string (xf.extract 0 uf.size)], .int .i64 0]) ∧ Below w.heap.size w w' := by
  have D1 := Lib.hid H1
  have D2 := Lib.hid H2
  have D3 := Lib.hid H3
  clear H1 H2 H3
  have q3 : ((0 : Int) != 0) = false := by decide
  have g1 : (uf.size : Int) ≤ (xf.size : Int) := by omega
  have g2 : 0 ≤ (uf.size : Int) := by omega
  obtain ⟨yf, hyf⟩ : ∃ yf, yf = xf.extract 0 uf.size := ⟨_, rfl⟩
  have HYF := Lib.hid hyf
  rw [← hyf]
  clear hyf
  go_enter Tryd.func144, Tryd.ntmps144
  go_wp2_with fail
  obtain ⟨W0, hW0⟩ : ∃ W0, W0 = (((w.alloc (.cells #[.bool an, .string ai, .string af] 23)).alloc (.cells #[.bool false, .string ui, .string uf] 23)).alloc (.cells #[.bool false, .string ⟨#[]⟩, .string ⟨#[]⟩] 23)) := ⟨_, rfl⟩
  obtain ⟨hB, hz, C0, C1, C2, FL⟩ : Below w.heap.size w W0 ∧ w.heap.size + 3 ≤ W0.heap.size ∧ Cells3 W0 w.heap.size (.bool an) (.string ai) (.string af) ∧ Cells3 W0 (w.heap.size + 1) (.bool false) (.string ui) (.string uf) ∧ Cells3 W0 (w.heap.size + 2) (.bool false) (.string ⟨#[]⟩) (.string ⟨#[]⟩) ∧ ∀ i, W0.frozen? ⟨(w.heap.size + 2), i, none⟩ = false := by rw [hW0]; exact ⟨below_three w _ _ _, three_boxes w _ _ _ _ _ _ _ _ _ _⟩
  have z0 : w.heap.size + 1 ≤ W0.heap.size := by omega
  have z1 : (w.heap.size + 1) + 1 ≤ W0.heap.size := by omega
  have z2 : (w.heap.size + 2) + 1 ≤ W0.heap.size := by omega
  rw [← hW0]
  have HB := Lib.hid hB
  have F2 := Lib.hid FL
  clear hW0 hB hz FL
  (with_reducible refine (D1.out _).mono ?_)
  rintro e V1 ⟨rfl, hb⟩
  replace F2 := Lib.hid (frozen_keep F2.out hb (by omega))
  replace C0 := C0.keep hb (by omega)
  replace z0 : w.heap.size + 1 ≤ V1.heap.size := by have := hb.size; omega
  replace C1 := C1.keep hb (by omega)
  replace z1 : (w.heap.size + 1) + 1 ≤ V1.heap.size := by have := hb.size; omega
  replace C2 := C2.keep hb (by omega)
  replace z2 : (w.heap.size + 2) + 1 ≤ V1.heap.size := by have := hb.size; omega
  replace HB := Lib.hid (HB.out.trans (hb.mono HB.out.size))
  clear hb
  have y3_2 := z2
  have y3_1 := z1
  have y3_0 := z0
  have ba : Below V1.heap.size V1 (V1.alloc (.cells #[.bool rn, .string ri, .string rf] 23)) := (Below.refl _ _).alloc (Nat.le_refl _) _
  replace C0 := C0.keep ba (by omega)
  replace z0 : w.heap.size + 1 ≤ (V1.alloc (.cells #[.bool rn, .string ri, .string rf] 23)).heap.size := by have := ba.size; omega
  replace C1 := C1.keep ba (by omega)
  replace z1 : (w.heap.size + 1) + 1 ≤ (V1.alloc (.cells #[.bool rn, .string ri, .string rf] 23)).heap.size := by have := ba.size; omega
  replace C2 := C2.keep ba (by omega)
  replace z2 : (w.heap.size + 2) + 1 ≤ (V1.alloc (.cells #[.bool rn, .string ri, .string rf] 23)).heap.size := by have := ba.size; omega
  replace HB := Lib.hid (HB.out.trans (ba.mono HB.out.size))
  clear ba
  have C3 : Cells3 (V1.alloc (.cells #[.bool rn, .string ri, .string rf] 23)) V1.heap.size (.bool rn) (.string ri) (.string rf) := (one_box V1 _ _ _ _).2.1
  have z3 : V1.heap.size + 1 ≤ (V1.alloc (.cells #[.bool rn, .string ri, .string rf] 23)).heap.size := by simp
  have o00 := C0.1
  have o10 := C1.1
  have o20 := C2.1
  have o30 := C3.1
  have o01 := C0.2.1
  have o02 := C0.2.2
  have o11 := C1.2.1
  have o12 := C1.2.2
  have o21 := C2.2.1
  have o22 := C2.2.2
  have o31 := C3.2.1
  have o32 := C3.2.2
  replace F2 := Lib.hid (frozen_keep F2.out ((Below.refl _ _).alloc (Nat.le_refl _) (.cells #[.bool rn, .string ri, .string rf] 23)) (by omega))
  have F3 := Lib.hid (one_box V1 (.bool rn) (.string ri) (.string rf) 23).2.2
  go_wp2_with fail
  clear o00 o01 o02 o10 o11 o12 o20 o21 o22 o30 o31 o32
  obtain ⟨V1x, hV1x⟩ : ∃ V1x, V1x = V1.alloc (.cells #[.bool rn, .string ri, .string rf] 23) := ⟨_, rfl⟩
  have HX := Lib.hid (show V1.heap.size + 1 = V1x.heap.size by rw [hV1x]; simp)
  rw [← hV1x]
  rw [← hV1x] at HB C0 z0 C1 z1 C2 z2 C3 z3 F2 F3
  clear hV1x
  (with_reducible refine (D2.out _).mono ?_)
  rintro e V2 ⟨rfl, hb⟩
  replace F2 := Lib.hid (frozen_keep F2.out hb (by omega))
  replace F3 := Lib.hid (frozen_keep F3.out hb (by omega))
  replace C0 := C0.keep hb (by omega)
  replace z0 : w.heap.size + 1 ≤ V2.heap.size := by have := hb.size; omega
  replace C1 := C1.keep hb (by omega)
  replace z1 : (w.heap.size + 1) + 1 ≤ V2.heap.size := by have := hb.size; omega
  replace C2 := C2.keep hb (by omega)
  replace z2 : (w.heap.size + 2) + 1 ≤ V2.heap.size := by have := hb.size; omega
  replace C3 := C3.keep hb (by omega)
  replace z3 : V1.heap.size + 1 ≤ V2.heap.size := by have := hb.size; omega
  replace HB := Lib.hid (HB.out.trans (hb.mono HB.out.size))
  clear hb
  have o00 := C0.1
  have o10 := C1.1
  have o20 := C2.1
  have o30 := C3.1
  have o01 := C0.2.1
  have o02 := C0.2.2
  have o11 := C1.2.1
  have o12 := C1.2.2
  have o21 := C2.2.1
  have o22 := C2.2.2
  have o31 := C3.2.1
  have o32 := C3.2.2
  go_wp2_with fail
  clear o00 o01 o02 o10 o11 o12 o20 o21 o22 o30 o31 o32
  (with_reducible refine (D3.out _).mono ?_)
  rintro e V3 ⟨rfl, hb⟩
  replace F2 := Lib.hid (frozen_keep F2.out hb (by omega))
  replace F3 := Lib.hid (frozen_keep F3.out hb (by omega))
  replace C0 := C0.keep hb (by omega)
  replace z0 : w.heap.size + 1 ≤ V3.heap.size := by have := hb.size; omega
  replace C1 := C1.keep hb (by omega)
  replace z1 : (w.heap.size + 1) + 1 ≤ V3.heap.size := by have := hb.size; omega
  replace C2 := C2.keep hb (by omega)
  replace z2 : (w.heap.size + 2) + 1 ≤ V3.heap.size := by have := hb.size; omega
  replace C3 := C3.keep hb (by omega)
  replace z3 : V1.heap.size + 1 ≤ V3.heap.size := by have := hb.size; omega
  replace HB := Lib.hid (HB.out.trans (hb.mono HB.out.size))
  clear hb
  have HBs := HB
  have KF2 := F2
  have K0 := Lib.hid C0
  have K1 := Lib.hid C1
  have K2 := Lib.hid C2
  have K3 := Lib.hid C3
  have y0 := z0
  have y1 := z1
  have y2 := z2
  have y3 := z3
  have y4_3 := z3
  have y4_2 := z2
  have y4_1 := z1
  have y4_0 := z0
  have ba : Below V3.heap.size V3 (V3.alloc (.cells #[.bool xn, .string xi, .string xf] 23)) := (Below.refl _ _).alloc (Nat.le_refl _) _
  replace C0 := C0.keep ba (by omega)
  replace z0 : w.heap.size + 1 ≤ (V3.alloc (.cells #[.bool xn, .string xi, .string xf] 23)).heap.size := by have := ba.size; omega
  replace C1 := C1.keep ba (by omega)
  replace z1 : (w.heap.size + 1) + 1 ≤ (V3.alloc (.cells #[.bool xn, .string xi, .string xf] 23)).heap.size := by have := ba.size; omega
  replace C2 := C2.keep ba (by omega)
  replace z2 : (w.heap.size + 2) + 1 ≤ (V3.alloc (.cells #[.bool xn, .string xi, .string xf] 23)).heap.size := by have := ba.size; omega
  replace C3 := C3.keep ba (by omega)
  replace z3 : V1.heap.size + 1 ≤ (V3.alloc (.cells #[.bool xn, .string xi, .string xf] 23)).heap.size := by have := ba.size; omega
  replace HB := Lib.hid (HB.out.trans (ba.mono HB.out.size))
  clear ba
  have C4 : Cells3 (V3.alloc (.cells #[.bool xn, .string xi, .string xf] 23)) V3.heap.size (.bool xn) (.string xi) (.string xf) := (one_box V3 _ _ _ _).2.1
  have z4 : V3.heap.size + 1 ≤ (V3.alloc (.cells #[.bool xn, .string xi, .string xf] 23)).heap.size := by simp
  have o00 := C0.1
  have o10 := C1.1
  have o20 := C2.1
  have o30 := C3.1
  have o40 := C4.1
  have o01 := C0.2.1
  have o02 := C0.2.2
  have o11 := C1.2.1
  have o12 := C1.2.2
  have o21 := C2.2.1
  have o22 := C2.2.2
  have o31 := C3.2.1
  have o32 := C3.2.2
  have o41 := C4.2.1
  have o42 := C4.2.2
  replace F2 := Lib.hid (frozen_keep F2.out ((Below.refl _ _).alloc (Nat.le_refl _) (.cells #[.bool xn, .string xi, .string xf] 23)) (by omega))
  replace F3 := Lib.hid (frozen_keep F3.out ((Below.refl _ _).alloc (Nat.le_refl _) (.cells #[.bool xn, .string xi, .string xf] 23)) (by omega))
  have F4 := Lib.hid (one_box V3 (.bool xn) (.string xi) (.string xf) 23).2.2
  have f4 := F4.out
  go_upto_region 9 with fail
  clear o00 o01 o02 o10 o11 o12 o20 o21 o22 o30 o31 o32 o40 o41 o42
  clear f4
  obtain ⟨Ws, hWs⟩ : ∃ X, X = V3.alloc (.cells #[.bool xn, .string xi, .string (xf.extract 0 uf.size)] 23) := ⟨_, rfl⟩
  have ba : Below V3.heap.size V3 Ws := by rw [hWs]; exact (Below.refl _ _).alloc (Nat.le_refl _) _
  have hsz : V3.heap.size + 1 = Ws.heap.size := by rw [hWs]; simp
  have C4n : Cells3 Ws V3.heap.size (.bool xn) (.string xi) (.string yf) := by rw [hWs, HYF.out]; exact (one_box V3 _ _ _ _).2.1
  rw [← hWs]
  clear HB F2 hWs C0 z0 C1 z1 C2 z2 C3 z3 C4 z4 F3 F4
  have HB := Lib.hid (HBs.out.trans (ba.mono HBs.out.size))
  have F2 := Lib.hid (frozen_keep KF2.out ba (by omega))
  have C0 := K0.out.keep ba (by omega)
  have z0 : w.heap.size + 1 ≤ Ws.heap.size := by omega
  have C1 := K1.out.keep ba (by omega)
  have z1 : (w.heap.size + 1) + 1 ≤ Ws.heap.size := by omega
  have C2 := K2.out.keep ba (by omega)
  have z2 : (w.heap.size + 2) + 1 ≤ Ws.heap.size := by omega
  have C3 := K3.out.keep ba (by omega)
  have z3 : V1.heap.size + 1 ≤ Ws.heap.size := by omega
  have C4 := C4n
  have z4 : V3.heap.size + 1 ≤ Ws.heap.size := by omega
  clear ba hsz HBs KF2 C4n K0 y0 K1 y1 K2 y2 K3 y3
  have o00 := C0.1
  have o10 := C1.1
  have o20 := C2.1
  have o30 := C3.1
  have o40 := C4.1
  have o01 := C0.2.1
  have o02 := C0.2.2
  have o11 := C1.2.1
  have o12 := C1.2.2
  have o21 := C2.2.1
  have o22 := C2.2.2
  have o31 := C3.2.1
  have o32 := C3.2.2
  have o41 := C4.2.1
  have o42 := C4.2.2
  obtain ⟨r0, r1, r2⟩ := C2
  have z0 := F2.out
  obtain ⟨e0, e1, e2⟩ := res_cells r0 r1 r2 (.bool xn) (.string xi) (.string yf)
  go_wp2
  exact bodyPost_ret (v := .tuple #[.agg #[.bool xn, .string xi, .string yf], .int .i64 0]) (by simp [results, Tryd.results144, go_sem, e0, e1, e2]) rfl ⟨rfl, res_below HB.out (by omega) _ _ _⟩

set_option maxHeartbeats 8000000 in
set_option maxRecDepth 100000 in
theorem tm_exact_false (an rn : Bool) (ai af ri rf ui uf : ByteArray) (mode sg : Int) (xn : Bool) (xi xf : ByteArray) (w : World) (H1 : (∀ wx : World, Calls Tryd.prog 58 #[(.agg #[.bool an, .string ai, .string af]), (.agg #[.bool false, .string ui, .string uf])] wx fun e w' => e = .returned (.tuple #[(.agg #[.bool rn, .string ri, .string rf]), .int .i64 0]) ∧ Below wx.heap.size wx w')) (H2 : (∀ wx : World, Calls Tryd.prog 175 #[(.agg #[.bool rn, .string ri, .string rf])] wx fun e w' => e = .returned (.int .i64 sg) ∧ Below wx.heap.size wx w')) (H3 : (∀ wx : World, Calls Tryd.prog 176 #[(.agg #[.bool an, .string ai, .string af]), (.agg #[.bool rn, .string ri, .string rf])] wx fun e w' => e = .returned (.tuple #[(.agg #[.bool xn, .string xi, .string xf]), .int .i64 0]) ∧ Below wx.heap.size wx w')) (k8 : (mode == 8) = false) (ks : (sg == 0) = true) (hz : uf.size ≤ xf.size) :
    Calls Tryd.prog 144 #[(.agg #[.bool an, .string ai, .string af]), .int .i64 mode, (.agg #[.bool false, .string ui, .string uf])] w fun e w' => e = .returned (.tuple #[.agg #[.bool xn, .string xi, .string (xf.extract 0 uf.size)], .int .i64 0]) ∧ Below w.heap.size w w' := by
  have D1 := Lib.hid H1
  have D2 := Lib.hid H2
  have D3 := Lib.hid H3
  clear H1 H2 H3
  have q3 : ((0 : Int) != 0) = false := by decide
  have g1 : (uf.size : Int) ≤ (xf.size : Int) := by omega
  have g2 : 0 ≤ (uf.size : Int) := by omega
  obtain ⟨yf, hyf⟩ : ∃ yf, yf = xf.extract 0 uf.size := ⟨_, rfl⟩
  have HYF := Lib.hid hyf
  rw [← hyf]
  clear hyf
  go_enter Tryd.func144, Tryd.ntmps144
  go_wp2_with fail
  obtain ⟨W0, hW0⟩ : ∃ W0, W0 = (((w.alloc (.cells #[.bool an, .string ai, .string af] 23)).alloc (.cells #[.bool false, .string ui, .string uf] 23)).alloc (.cells #[.bool false, .string ⟨#[]⟩, .string ⟨#[]⟩] 23)) := ⟨_, rfl⟩
  obtain ⟨hB, hz, C0, C1, C2, FL⟩ : Below w.heap.size w W0 ∧ w.heap.size + 3 ≤ W0.heap.size ∧ Cells3 W0 w.heap.size (.bool an) (.string ai) (.string af) ∧ Cells3 W0 (w.heap.size + 1) (.bool false) (.string ui) (.string uf) ∧ Cells3 W0 (w.heap.size + 2) (.bool false) (.string ⟨#[]⟩) (.string ⟨#[]⟩) ∧ ∀ i, W0.frozen? ⟨(w.heap.size + 2), i, none⟩ = false := by rw [hW0]; exact ⟨below_three w _ _ _, three_boxes w _ _ _ _ _ _ _ _ _ _⟩
  have z0 : w.heap.size + 1 ≤ W0.heap.size := by omega
  have z1 : (w.heap.size + 1) + 1 ≤ W0.heap.size := by omega
  have z2 : (w.heap.size + 2) + 1 ≤ W0.heap.size := by omega
  rw [← hW0]
  have HB := Lib.hid hB
  have F2 := Lib.hid FL
  clear hW0 hB hz FL
  (with_reducible refine (D1.out _).mono ?_)
  rintro e V1 ⟨rfl, hb⟩
  replace F2 := Lib.hid (frozen_keep F2.out hb (by omega))
  replace C0 := C0.keep hb (by omega)
  replace z0 : w.heap.size + 1 ≤ V1.heap.size := by have := hb.size; omega
  replace C1 := C1.keep hb (by omega)
  replace z1 : (w.heap.size + 1) + 1 ≤ V1.heap.size := by have := hb.size; omega
  replace C2 := C2.keep hb (by omega)
  replace z2 : (w.heap.size + 2) + 1 ≤ V1.heap.size := by have := hb.size; omega
  replace HB := Lib.hid (HB.out.trans (hb.mono HB.out.size))
  clear hb
  have y3_2 := z2
  have y3_1 := z1
  have y3_0 := z0
  have ba : Below V1.heap.size V1 (V1.alloc (.cells #[.bool rn, .string ri, .string rf] 23)) := (Below.refl _ _).alloc (Nat.le_refl _) _
  replace C0 := C0.keep ba (by omega)
  replace z0 : w.heap.size + 1 ≤ (V1.alloc (.cells #[.bool rn, .string ri, .string rf] 23)).heap.size := by have := ba.size; omega
  replace C1 := C1.keep ba (by omega)
  replace z1 : (w.heap.size + 1) + 1 ≤ (V1.alloc (.cells #[.bool rn, .string ri, .string rf] 23)).heap.size := by have := ba.size; omega
  replace C2 := C2.keep ba (by omega)
  replace z2 : (w.heap.size + 2) + 1 ≤ (V1.alloc (.cells #[.bool rn, .string ri, .string rf] 23)).heap.size := by have := ba.size; omega
  replace HB := Lib.hid (HB.out.trans (ba.mono HB.out.size))
  clear ba
  have C3 : Cells3 (V1.alloc (.cells #[.bool rn, .string ri, .string rf] 23)) V1.heap.size (.bool rn) (.string ri) (.string rf) := (one_box V1 _ _ _ _).2.1
  have z3 : V1.heap.size + 1 ≤ (V1.alloc (.cells #[.bool rn, .string ri, .string rf] 23)).heap.size := by simp
  have o00 := C0.1
  have o10 := C1.1
  have o20 := C2.1
  have o30 := C3.1
  have o01 := C0.2.1
  have o02 := C0.2.2
  have o11 := C1.2.1
  have o12 := C1.2.2
  have o21 := C2.2.1
  have o22 := C2.2.2
  have o31 := C3.2.1
  have o32 := C3.2.2
  replace F2 := Lib.hid (frozen_keep F2.out ((Below.refl _ _).alloc (Nat.le_refl _) (.cells #[.bool rn, .string ri, .string rf] 23)) (by omega))
  have F3 := Lib.hid (one_box V1 (.bool rn) (.string ri) (.string rf) 23).2.2
  go_wp2_with fail
  clear o00 o01 o02 o10 o11 o12 o20 o21 o22 o30 o31 o32
  obtain ⟨V1x, hV1x⟩ : ∃ V1x, V1x = V1.alloc (.cells #[.bool rn, .string ri, .string rf] 23) := ⟨_, rfl⟩
  have HX := Lib.hid (show V1.heap.size + 1 = V1x.heap.size by rw [hV1x]; simp)
  rw [← hV1x]
  rw [← hV1x] at HB C0 z0 C1 z1 C2 z2 C3 z3 F2 F3
  clear hV1x
  (with_reducible refine (D2.out _).mono ?_)
  rintro e V2 ⟨rfl, hb⟩
  replace F2 := Lib.hid (frozen_keep F2.out hb (by omega))
  replace F3 := Lib.hid (frozen_keep F3.out hb (by omega))
  replace C0 := C0.keep hb (by omega)
  replace z0 : w.heap.size + 1 ≤ V2.heap.size := by have := hb.size; omega
  replace C1 := C1.keep hb (by omega)
  replace z1 : (w.heap.size + 1) + 1 ≤ V2.heap.size := by have := hb.size; omega
  replace C2 := C2.keep hb (by omega)
  replace z2 : (w.heap.size + 2) + 1 ≤ V2.heap.size := by have := hb.size; omega
  replace C3 := C3.keep hb (by omega)
  replace z3 : V1.heap.size + 1 ≤ V2.heap.size := by have := hb.size; omega
  replace HB := Lib.hid (HB.out.trans (hb.mono HB.out.size))
  clear hb
  have o00 := C0.1
  have o10 := C1.1
  have o20 := C2.1
  have o30 := C3.1
  have o01 := C0.2.1
  have o02 := C0.2.2
  have o11 := C1.2.1
  have o12 := C1.2.2
  have o21 := C2.2.1
  have o22 := C2.2.2
  have o31 := C3.2.1
  have o32 := C3.2.2
  go_wp2_with fail
  clear o00 o01 o02 o10 o11 o12 o20 o21 o22 o30 o31 o32
  (with_reducible refine (D3.out _).mono ?_)
  rintro e V3 ⟨rfl, hb⟩
  replace F2 := Lib.hid (frozen_keep F2.out hb (by omega))
  replace F3 := Lib.hid (frozen_keep F3.out hb (by omega))
  replace C0 := C0.keep hb (by omega)
  replace z0 : w.heap.size + 1 ≤ V3.heap.size := by have := hb.size; omega
  replace C1 := C1.keep hb (by omega)
  replace z1 : (w.heap.size + 1) + 1 ≤ V3.heap.size := by have := hb.size; omega
  replace C2 := C2.keep hb (by omega)
  replace z2 : (w.heap.size + 2) + 1 ≤ V3.heap.size := by have := hb.size; omega
  replace C3 := C3.keep hb (by omega)
  replace z3 : V1.heap.size + 1 ≤ V3.heap.size := by have := hb.size; omega
  replace HB := Lib.hid (HB.out.trans (hb.mono HB.out.size))
  clear hb
  have HBs := HB
  have KF2 := F2
  have K0 := Lib.hid C0
  have K1 := Lib.hid C1
  have K2 := Lib.hid C2
  have K3 := Lib.hid C3
  have y0 := z0
  have y1 := z1
  have y2 := z2
  have y3 := z3
  have y4_3 := z3
  have y4_2 := z2
  have y4_1 := z1
  have y4_0 := z0
  have ba : Below V3.heap.size V3 (V3.alloc (.cells #[.bool xn, .string xi, .string xf] 23)) := (Below.refl _ _).alloc (Nat.le_refl _) _
  replace C0 := C0.keep ba (by omega)
  replace z0 : w.heap.size + 1 ≤ (V3.alloc (.cells #[.bool xn, .string xi, .string xf] 23)).heap.size := by have := ba.size; omega
  replace C1 := C1.keep ba (by omega)
  replace z1 : (w.heap.size + 1) + 1 ≤ (V3.alloc (.cells #[.bool xn, .string xi, .string xf] 23)).heap.size := by have := ba.size; omega
  replace C2 := C2.keep ba (by omega)
  replace z2 : (w.heap.size + 2) + 1 ≤ (V3.alloc (.cells #[.bool xn, .string xi, .string xf] 23)).heap.size := by have := ba.size; omega
  replace C3 := C3.keep ba (by omega)
  replace z3 : V1.heap.size + 1 ≤ (V3.alloc (.cells #[.bool xn, .string xi, .string xf] 23)).heap.size := by have := ba.size; omega
  replace HB := Lib.hid (HB.out.trans (ba.mono HB.out.size))
  clear ba
  have C4 : Cells3 (V3.alloc (.cells #[.bool xn, .string xi, .string xf] 23)) V3.heap.size (.bool xn) (.string xi) (.string xf) := (one_box V3 _ _ _ _).2.1
  have z4 : V3.heap.size + 1 ≤ (V3.alloc (.cells #[.bool xn, .string xi, .string xf] 23)).heap.size := by simp
  have o00 := C0.1
  have o10 := C1.1
  have o20 := C2.1
  have o30 := C3.1
  have o40 := C4.1
  have o01 := C0.2.1
  have o02 := C0.2.2
  have o11 := C1.2.1
  have o12 := C1.2.2
  have o21 := C2.2.1
  have o22 := C2.2.2
  have o31 := C3.2.1
  have o32 := C3.2.2
  have o41 := C4.2.1
  have o42 := C4.2.2
  replace F2 := Lib.hid (frozen_keep F2.out ((Below.refl _ _).alloc (Nat.le_refl _) (.cells #[.bool xn, .string xi, .string xf] 23)) (by omega))
  replace F3 := Lib.hid (frozen_keep F3.out ((Below.refl _ _).alloc (Nat.le_refl _) (.cells #[.bool xn, .string xi, .string xf] 23)) (by omega))
  have F4 := Lib.hid (one_box V3 (.bool xn) (.string xi) (.string xf) 23).2.2
  have f4 := F4.out
  go_upto_region 9 with fail
  clear o00 o01 o02 o10 o11 o12 o20 o21 o22 o30 o31 o32 o40 o41 o42
  clear f4
  obtain ⟨Ws, hWs⟩ : ∃ X, X = V3.alloc (.cells #[.bool xn, .string xi, .string (xf.extract 0 uf.size)] 23) := ⟨_, rfl⟩
  have ba : Below V3.heap.size V3 Ws := by rw [hWs]; exact (Below.refl _ _).alloc (Nat.le_refl _) _
  have hsz : V3.heap.size + 1 = Ws.heap.size := by rw [hWs]; simp
  have C4n : Cells3 Ws V3.heap.size (.bool xn) (.string xi) (.string yf) := by rw [hWs, HYF.out]; exact (one_box V3 _ _ _ _).2.1
  rw [← hWs]
  clear HB F2 hWs C0 z0 C1 z1 C2 z2 C3 z3 C4 z4 F3 F4
  have HB := Lib.hid (HBs.out.trans (ba.mono HBs.out.size))
  have F2 := Lib.hid (frozen_keep KF2.out ba (by omega))
  have C0 := K0.out.keep ba (by omega)
  have z0 : w.heap.size + 1 ≤ Ws.heap.size := by omega
  have C1 := K1.out.keep ba (by omega)
  have z1 : (w.heap.size + 1) + 1 ≤ Ws.heap.size := by omega
  have C2 := K2.out.keep ba (by omega)
  have z2 : (w.heap.size + 2) + 1 ≤ Ws.heap.size := by omega
  have C3 := K3.out.keep ba (by omega)
  have z3 : V1.heap.size + 1 ≤ Ws.heap.size := by omega
  have C4 := C4n
  have z4 : V3.heap.size + 1 ≤ Ws.heap.size := by omega
  clear ba hsz HBs KF2 C4n K0 y0 K1 y1 K2 y2 K3 y3
  have o00 := C0.1
  have o10 := C1.1
  have o20 := C2.1
  have o30 := C3.1
  have o40 := C4.1
  have o01 := C0.2.1
  have o02 := C0.2.2
  have o11 := C1.2.1
  have o12 := C1.2.2
  have o21 := C2.2.1
  have o22 := C2.2.2
  have o31 := C3.2.1
  have o32 := C3.2.2
  have o41 := C4.2.1
  have o42 := C4.2.2
  obtain ⟨r0, r1, r2⟩ := C2
  have z0 := F2.out
  obtain ⟨e0, e1, e2⟩ := res_cells r0 r1 r2 (.bool xn) (.string xi) (.string yf)
  go_wp2
  exact bodyPost_ret (v := .tuple #[.agg #[.bool xn, .string xi, .string yf], .int .i64 0]) (by simp [results, Tryd.results144, go_sem, e0, e1, e2]) rfl ⟨rfl, res_below HB.out (by omega) _ _ _⟩

set_option maxHeartbeats 8000000 in
set_option maxRecDepth 100000 in
theorem tm_inner (an rn : Bool) (ai af ri rf ui uf : ByteArray) (mode sg : Int) (xn : Bool) (xi xf : ByteArray) (w : World) (H1 : (∀ wx : World, Calls Tryd.prog 58 #[(.agg #[.bool an, .string ai, .string af]), (.agg #[.bool false, .string ui, .string uf])] wx fun e w' => e = .returned (.tuple #[(.agg #[.bool rn, .string ri, .string rf]), .int .i64 0]) ∧ Below wx.heap.size wx w')) (H2 : (∀ wx : World, Calls Tryd.prog 175 #[(.agg #[.bool rn, .string ri, .string rf])] wx fun e w' => e = .returned (.int .i64 sg) ∧ Below wx.heap.size wx w')) (H3 : (∀ wx : World, Calls Tryd.prog 176 #[(.agg #[.bool an, .string ai, .string af]), (.agg #[.bool rn, .string ri, .string rf])] wx fun e w' => e = .returned (.tuple #[(.agg #[.bool xn, .string xi, .string xf]), .int .i64 0]) ∧ Below wx.heap.size wx w')) (H4 : (∀ wx : World, Calls Tryd.prog 177 #[(.agg #[.bool an, .string ai, .string af]), .int .i64 mode, (.agg #[.bool rn, .string ri, .string rf]), (.agg #[.bool false, .string ui, .string uf])] wx fun e w' => e = .returned (.bool false) ∧ Below wx.heap.size wx w')) (k8 : (mode == 8) = false) (ks : (sg == 0) = false) (hz : uf.size ≤ xf.size) :
    Calls Tryd.prog 144 #[(.agg #[.bool an, .string ai, .string af]), .int .i64 mode, (.agg #[.bool false, .string ui, .string uf])] w fun e w' => e = .returned (.tuple #[.agg #[.bool xn, .string xi, .string (xf.extract 0 uf.size)], .int .i64 0]) ∧ Below w.heap.size w w' := by
  have D1 := Lib.hid H1
  have D2 := Lib.hid H2
  have D3 := Lib.hid H3
  have D4 := Lib.hid H4
  clear H1 H2 H3 H4
  have q3 : ((0 : Int) != 0) = false := by decide
  have g1 : (uf.size : Int) ≤ (xf.size : Int) := by omega
  have g2 : 0 ≤ (uf.size : Int) := by omega
  obtain ⟨yf, hyf⟩ : ∃ yf, yf = xf.extract 0 uf.size := ⟨_, rfl⟩
  have HYF := Lib.hid hyf
  rw [← hyf]
  clear hyf
  go_enter Tryd.func144, Tryd.ntmps144
  go_wp2_with fail
  obtain ⟨W0, hW0⟩ : ∃ W0, W0 = (((w.alloc (.cells #[.bool an, .string ai, .string af] 23)).alloc (.cells #[.bool false, .string ui, .string uf] 23)).alloc (.cells #[.bool false, .string ⟨#[]⟩, .string ⟨#[]⟩] 23)) := ⟨_, rfl⟩
  obtain ⟨hB, hz, C0, C1, C2, FL⟩ : Below w.heap.size w W0 ∧ w.heap.size + 3 ≤ W0.heap.size ∧ Cells3 W0 w.heap.size (.bool an) (.string ai) (.string af) ∧ Cells3 W0 (w.heap.size + 1) (.bool false) (.string ui) (.string uf) ∧ Cells3 W0 (w.heap.size + 2) (.bool false) (.string ⟨#[]⟩) (.string ⟨#[]⟩) ∧ ∀ i, W0.frozen? ⟨(w.heap.size + 2), i, none⟩ = false := by rw [hW0]; exact ⟨below_three w _ _ _, three_boxes w _ _ _ _ _ _ _ _ _ _⟩
  have z0 : w.heap.size + 1 ≤ W0.heap.size := by omega
  have z1 : (w.heap.size + 1) + 1 ≤ W0.heap.size := by omega
  have z2 : (w.heap.size + 2) + 1 ≤ W0.heap.size := by omega
  rw [← hW0]
  have HB := Lib.hid hB
  have F2 := Lib.hid FL
  clear hW0 hB hz FL
  (with_reducible refine (D1.out _).mono ?_)
  rintro e V1 ⟨rfl, hb⟩
  replace F2 := Lib.hid (frozen_keep F2.out hb (by omega))
  replace C0 := C0.keep hb (by omega)
  replace z0 : w.heap.size + 1 ≤ V1.heap.size := by have := hb.size; omega
  replace C1 := C1.keep hb (by omega)
  replace z1 : (w.heap.size + 1) + 1 ≤ V1.heap.size := by have := hb.size; omega
  replace C2 := C2.keep hb (by omega)
  replace z2 : (w.heap.size + 2) + 1 ≤ V1.heap.size := by have := hb.size; omega
  replace HB := Lib.hid (HB.out.trans (hb.mono HB.out.size))
  clear hb
  have y3_2 := z2
  have y3_1 := z1
  have y3_0 := z0
  have ba : Below V1.heap.size V1 (V1.alloc (.cells #[.bool rn, .string ri, .string rf] 23)) := (Below.refl _ _).alloc (Nat.le_refl _) _
  replace C0 := C0.keep ba (by omega)
  replace z0 : w.heap.size + 1 ≤ (V1.alloc (.cells #[.bool rn, .string ri, .string rf] 23)).heap.size := by have := ba.size; omega
  replace C1 := C1.keep ba (by omega)
  replace z1 : (w.heap.size + 1) + 1 ≤ (V1.alloc (.cells #[.bool rn, .string ri, .string rf] 23)).heap.size := by have := ba.size; omega
  replace C2 := C2.keep ba (by omega)
  replace z2 : (w.heap.size + 2) + 1 ≤ (V1.alloc (.cells #[.bool rn, .string ri, .string rf] 23)).heap.size := by have := ba.size; omega
  replace HB := Lib.hid (HB.out.trans (ba.mono HB.out.size))
  clear ba
  have C3 : Cells3 (V1.alloc (.cells #[.bool rn, .string ri, .string rf] 23)) V1.heap.size (.bool rn) (.string ri) (.string rf) := (one_box V1 _ _ _ _).2.1
  have z3 : V1.heap.size + 1 ≤ (V1.alloc (.cells #[.bool rn, .string ri, .string rf] 23)).heap.size := by simp
  have o00 := C0.1
  have o10 := C1.1
  have o20 := C2.1
  have o30 := C3.1
  have o01 := C0.2.1
  have o02 := C0.2.2
  have o11 := C1.2.1
  have o12 := C1.2.2
  have o21 := C2.2.1
  have o22 := C2.2.2
  have o31 := C3.2.1
  have o32 := C3.2.2
  replace F2 := Lib.hid (frozen_keep F2.out ((Below.refl _ _).alloc (Nat.le_refl _) (.cells #[.bool rn, .string ri, .string rf] 23)) (by omega))
  have F3 := Lib.hid (one_box V1 (.bool rn) (.string ri) (.string rf) 23).2.2
  go_wp2_with fail
  clear o00 o01 o02 o10 o11 o12 o20 o21 o22 o30 o31 o32
  obtain ⟨V1x, hV1x⟩ : ∃ V1x, V1x = V1.alloc (.cells #[.bool rn, .string ri, .string rf] 23) := ⟨_, rfl⟩
  have HX := Lib.hid (show V1.heap.size + 1 = V1x.heap.size by rw [hV1x]; simp)
  rw [← hV1x]
  rw [← hV1x] at HB C0 z0 C1 z1 C2 z2 C3 z3 F2 F3
  clear hV1x
  (with_reducible refine (D2.out _).mono ?_)
  rintro e V2 ⟨rfl, hb⟩
  replace F2 := Lib.hid (frozen_keep F2.out hb (by omega))
  replace F3 := Lib.hid (frozen_keep F3.out hb (by omega))
  replace C0 := C0.keep hb (by omega)
  replace z0 : w.heap.size + 1 ≤ V2.heap.size := by have := hb.size; omega
  replace C1 := C1.keep hb (by omega)
  replace z1 : (w.heap.size + 1) + 1 ≤ V2.heap.size := by have := hb.size; omega
  replace C2 := C2.keep hb (by omega)
  replace z2 : (w.heap.size + 2) + 1 ≤ V2.heap.size := by have := hb.size; omega
  replace C3 := C3.keep hb (by omega)
  replace z3 : V1.heap.size + 1 ≤ V2.heap.size := by have := hb.size; omega
  replace HB := Lib.hid (HB.out.trans (hb.mono HB.out.size))
  clear hb
  have o00 := C0.1
  have o10 := C1.1
  have o20 := C2.1
  have o30 := C3.1
  have o01 := C0.2.1
  have o02 := C0.2.2
  have o11 := C1.2.1
  have o12 := C1.2.2
  have o21 := C2.2.1
  have o22 := C2.2.2
  have o31 := C3.2.1
  have o32 := C3.2.2
  go_wp2_with fail
  clear o00 o01 o02 o10 o11 o12 o20 o21 o22 o30 o31 o32
  (with_reducible refine (D3.out _).mono ?_)
  rintro e V3 ⟨rfl, hb⟩
  replace F2 := Lib.hid (frozen_keep F2.out hb (by omega))
  replace F3 := Lib.hid (frozen_keep F3.out hb (by omega))
  replace C0 := C0.keep hb (by omega)
  replace z0 : w.heap.size + 1 ≤ V3.heap.size := by have := hb.size; omega
  replace C1 := C1.keep hb (by omega)
  replace z1 : (w.heap.size + 1) + 1 ≤ V3.heap.size := by have := hb.size; omega
  replace C2 := C2.keep hb (by omega)
  replace z2 : (w.heap.size + 2) + 1 ≤ V3.heap.size := by have := hb.size; omega
  replace C3 := C3.keep hb (by omega)
  replace z3 : V1.heap.size + 1 ≤ V3.heap.size := by have := hb.size; omega
  replace HB := Lib.hid (HB.out.trans (hb.mono HB.out.size))
  clear hb
  have HBs := HB
  have KF2 := F2
  have K0 := Lib.hid C0
  have K1 := Lib.hid C1
  have K2 := Lib.hid C2
  have K3 := Lib.hid C3
  have y0 := z0
  have y1 := z1
  have y2 := z2
  have y3 := z3
  have y4_3 := z3
  have y4_2 := z2
  have y4_1 := z1
  have y4_0 := z0
  have ba : Below V3.heap.size V3 (V3.alloc (.cells #[.bool xn, .string xi, .string xf] 23)) := (Below.refl _ _).alloc (Nat.le_refl _) _
  replace C0 := C0.keep ba (by omega)
  replace z0 : w.heap.size + 1 ≤ (V3.alloc (.cells #[.bool xn, .string xi, .string xf] 23)).heap.size := by have := ba.size; omega
  replace C1 := C1.keep ba (by omega)
  replace z1 : (w.heap.size + 1) + 1 ≤ (V3.alloc (.cells #[.bool xn, .string xi, .string xf] 23)).heap.size := by have := ba.size; omega
  replace C2 := C2.keep ba (by omega)
  replace z2 : (w.heap.size + 2) + 1 ≤ (V3.alloc (.cells #[.bool xn, .string xi, .string xf] 23)).heap.size := by have := ba.size; omega
  replace C3 := C3.keep ba (by omega)
  replace z3 : V1.heap.size + 1 ≤ (V3.alloc (.cells #[.bool xn, .string xi, .string xf] 23)).heap.size := by have := ba.size; omega
  replace HB := Lib.hid (HB.out.trans (ba.mono HB.out.size))
  clear ba
  have C4 : Cells3 (V3.alloc (.cells #[.bool xn, .string xi, .string xf] 23)) V3.heap.size (.bool xn) (.string xi) (.string xf) := (one_box V3 _ _ _ _).2.1
  have z4 : V3.heap.size + 1 ≤ (V3.alloc (.cells #[.bool xn, .string xi, .string xf] 23)).heap.size := by simp
  have o00 := C0.1
  have o10 := C1.1
  have o20 := C2.1
  have o30 := C3.1
  have o40 := C4.1
  have o01 := C0.2.1
  have o02 := C0.2.2
  have o11 := C1.2.1
  have o12 := C1.2.2
  have o21 := C2.2.1
  have o22 := C2.2.2
  have o31 := C3.2.1
  have o32 := C3.2.2
  have o41 := C4.2.1
  have o42 := C4.2.2
  replace F2 := Lib.hid (frozen_keep F2.out ((Below.refl _ _).alloc (Nat.le_refl _) (.cells #[.bool xn, .string xi, .string xf] 23)) (by omega))
  replace F3 := Lib.hid (frozen_keep F3.out ((Below.refl _ _).alloc (Nat.le_refl _) (.cells #[.bool xn, .string xi, .string xf] 23)) (by omega))
  have F4 := Lib.hid (one_box V3 (.bool xn) (.string xi) (.string xf) 23).2.2
  have f4 := F4.out
  go_upto_region 9 with fail
  clear o00 o01 o02 o10 o11 o12 o20 o21 o22 o30 o31 o32 o40 o41 o42
  clear f4
  obtain ⟨Ws, hWs⟩ : ∃ X, X = V3.alloc (.cells #[.bool xn, .string xi, .string (xf.extract 0 uf.size)] 23) := ⟨_, rfl⟩
  have ba : Below V3.heap.size V3 Ws := by rw [hWs]; exact (Below.refl _ _).alloc (Nat.le_refl _) _
  have hsz : V3.heap.size + 1 = Ws.heap.size := by rw [hWs]; simp
  have C4n : Cells3 Ws V3.heap.size (.bool xn) (.string xi) (.string yf) := by rw [hWs, HYF.out]; exact (one_box V3 _ _ _ _).2.1
  rw [← hWs]
  clear HB F2 hWs C0 z0 C1 z1 C2 z2 C3 z3 C4 z4 F3 F4
  have HB := Lib.hid (HBs.out.trans (ba.mono HBs.out.size))
  have F2 := Lib.hid (frozen_keep KF2.out ba (by omega))
  have C0 := K0.out.keep ba (by omega)
  have z0 : w.heap.size + 1 ≤ Ws.heap.size := by omega
  have C1 := K1.out.keep ba (by omega)
  have z1 : (w.heap.size + 1) + 1 ≤ Ws.heap.size := by omega
  have C2 := K2.out.keep ba (by omega)
  have z2 : (w.heap.size + 2) + 1 ≤ Ws.heap.size := by omega
  have C3 := K3.out.keep ba (by omega)
  have z3 : V1.heap.size + 1 ≤ Ws.heap.size := by omega
  have C4 := C4n
  have z4 : V3.heap.size + 1 ≤ Ws.heap.size := by omega
  clear ba hsz HBs KF2 C4n K0 y0 K1 y1 K2 y2 K3 y3
  have o00 := C0.1
  have o10 := C1.1
  have o20 := C2.1
  have o30 := C3.1
  have o40 := C4.1
  have o01 := C0.2.1
  have o02 := C0.2.2
  have o11 := C1.2.1
  have o12 := C1.2.2
  have o21 := C2.2.1
  have o22 := C2.2.2
  have o31 := C3.2.1
  have o32 := C3.2.2
  have o41 := C4.2.1
  have o42 := C4.2.2
  go_wp2_with fail
  clear o00 o01 o02 o10 o11 o12 o20 o21 o22 o30 o31 o32 o40 o41 o42
  (with_reducible refine (D4.out _).mono ?_)
  rintro e V4 ⟨rfl, hb⟩
  replace F2 := Lib.hid (frozen_keep F2.out hb (by omega))
  replace C0 := C0.keep hb (by omega)
  replace z0 : w.heap.size + 1 ≤ V4.heap.size := by have := hb.size; omega
  replace C1 := C1.keep hb (by omega)
  replace z1 : (w.heap.size + 1) + 1 ≤ V4.heap.size := by have := hb.size; omega
  replace C2 := C2.keep hb (by omega)
  replace z2 : (w.heap.size + 2) + 1 ≤ V4.heap.size := by have := hb.size; omega
  replace C3 := C3.keep hb (by omega)
  replace z3 : V1.heap.size + 1 ≤ V4.heap.size := by have := hb.size; omega
  replace C4 := C4.keep hb (by omega)
  replace z4 : V3.heap.size + 1 ≤ V4.heap.size := by have := hb.size; omega
  replace HB := Lib.hid (HB.out.trans (hb.mono HB.out.size))
  clear hb
  have o00 := C0.1
  have o10 := C1.1
  have o20 := C2.1
  have o30 := C3.1
  have o40 := C4.1
  have o01 := C0.2.1
  have o02 := C0.2.2
  have o11 := C1.2.1
  have o12 := C1.2.2
  have o21 := C2.2.1
  have o22 := C2.2.2
  have o31 := C3.2.1
  have o32 := C3.2.2
  have o41 := C4.2.1
  have o42 := C4.2.2
  obtain ⟨r0, r1, r2⟩ := C2
  have z0 := F2.out
  obtain ⟨e0, e1, e2⟩ := res_cells r0 r1 r2 (.bool xn) (.string xi) (.string yf)
  go_wp2
  exact bodyPost_ret (v := .tuple #[.agg #[.bool xn, .string xi, .string yf], .int .i64 0]) (by simp [results, Tryd.results144, go_sem, e0, e1, e2]) rfl ⟨rfl, res_below HB.out (by omega) _ _ _⟩

set_option maxHeartbeats 8000000 in
set_option maxRecDepth 100000 in
theorem tm_outer_true (rn : Bool) (ai af ri rf ui uf : ByteArray) (mode sg : Int) (xn : Bool) (xi xf : ByteArray) (yn : Bool) (yi yg : ByteArray) (c : Int) (w : World) (H1 : (∀ wx : World, Calls Tryd.prog 58 #[(.agg #[.bool true, .string ai, .string af]), (.agg #[.bool false, .string ui, .string uf])] wx fun e w' => e = .returned (.tuple #[(.agg #[.bool rn, .string ri, .string rf]), .int .i64 0]) ∧ Below wx.heap.size wx w')) (H2 : (∀ wx : World, Calls Tryd.prog 175 #[(.agg #[.bool rn, .string ri, .string rf])] wx fun e w' => e = .returned (.int .i64 sg) ∧ Below wx.heap.size wx w')) (H3 : (∀ wx : World, Calls Tryd.prog 176 #[(.agg #[.bool true, .string ai, .string af]), (.agg #[.bool rn, .string ri, .string rf])] wx fun e w' => e = .returned (.tuple #[(.agg #[.bool xn, .string xi, .string xf]), .int .i64 0]) ∧ Below wx.heap.size wx w')) (H4 : (∀ wx : World, Calls Tryd.prog 177 #[(.agg #[.bool true, .string ai, .string af]), .int .i64 mode, (.agg #[.bool rn, .string ri, .string rf]), (.agg #[.bool false, .string ui, .string uf])] wx fun e w' => e = .returned (.bool true) ∧ Below wx.heap.size wx w')) (H5 : (∀ wx : World, Calls Tryd.prog 176 #[(.agg #[.bool xn, .string xi, .string (xf.extract 0 uf.size)]), (.agg #[.bool false, .string ui, .string uf])] wx fun e w' => e = .returned (.tuple #[(.agg #[.bool yn, .string yi, .string yg]), .int .i64 c]) ∧ Below wx.heap.size wx w')) (k8 : (mode == 8) = false) (ks : (sg == 0) = false) (hz : uf.size ≤ xf.size) :
    Calls Tryd.prog 144 #[(.agg #[.bool true, .string ai, .string af]), .int .i64 mode, (.agg #[.bool false, .string ui, .string uf])] w fun e w' => e = .returned (.tuple #[(.agg #[.bool yn, .string yi, .string yg]), .int .i64 c]) ∧ Below w.heap.size w w' := by
  have D1 := Lib.hid H1
  have D2 := Lib.hid H2
  have D3 := Lib.hid H3
  have D4 := Lib.hid H4
  have D5 := Lib.hid H5
  clear H1 H2 H3 H4 H5
  have q3 : ((0 : Int) != 0) = false := by decide
  have g1 : (uf.size : Int) ≤ (xf.size : Int) := by omega
  have g2 : 0 ≤ (uf.size : Int) := by omega
  obtain ⟨yf, hyf⟩ : ∃ yf, yf = xf.extract 0 uf.size := ⟨_, rfl⟩
  have HYF := Lib.hid hyf
  rw [← hyf] at D5
  clear hyf
  go_enter Tryd.func144, Tryd.ntmps144
  go_wp2_with fail
  obtain ⟨W0, hW0⟩ : ∃ W0, W0 = (((w.alloc (.cells #[.bool true, .string ai, .string af] 23)).alloc (.cells #[.bool false, .string ui, .string uf] 23)).alloc (.cells #[.bool false, .string ⟨#[]⟩, .string ⟨#[]⟩] 23)) := ⟨_, rfl⟩
  obtain ⟨hB, hz, C0, C1, C2, FL⟩ : Below w.heap.size w W0 ∧ w.heap.size + 3 ≤ W0.heap.size ∧ Cells3 W0 w.heap.size (.bool true) (.string ai) (.string af) ∧ Cells3 W0 (w.heap.size + 1) (.bool false) (.string ui) (.string uf) ∧ Cells3 W0 (w.heap.size + 2) (.bool false) (.string ⟨#[]⟩) (.string ⟨#[]⟩) ∧ ∀ i, W0.frozen? ⟨(w.heap.size + 2), i, none⟩ = false := by rw [hW0]; exact ⟨below_three w _ _ _, three_boxes w _ _ _ _ _ _ _ _ _ _⟩
  have z0 : w.heap.size + 1 ≤ W0.heap.size := by omega
  have z1 : (w.heap.size + 1) + 1 ≤ W0.heap.size := by omega
  have z2 : (w.heap.size + 2) + 1 ≤ W0.heap.size := by omega
  rw [← hW0]
  have HB := Lib.hid hB
  have F2 := Lib.hid FL
  clear hW0 hB hz FL
  (with_reducible refine (D1.out _).mono ?_)
  rintro e V1 ⟨rfl, hb⟩
  replace F2 := Lib.hid (frozen_keep F2.out hb (by omega))
  replace C0 := C0.keep hb (by omega)
  replace z0 : w.heap.size + 1 ≤ V1.heap.size := by have := hb.size; omega
  replace C1 := C1.keep hb (by omega)
  replace z1 : (w.heap.size + 1) + 1 ≤ V1.heap.size := by have := hb.size; omega
  replace C2 := C2.keep hb (by omega)
  replace z2 : (w.heap.size + 2) + 1 ≤ V1.heap.size := by have := hb.size; omega
  replace HB := Lib.hid (HB.out.trans (hb.mono HB.out.size))
  clear hb
  have y3_2 := z2
  have y3_1 := z1
  have y3_0 := z0
  have ba : Below V1.heap.size V1 (V1.alloc (.cells #[.bool rn, .string ri, .string rf] 23)) := (Below.refl _ _).alloc (Nat.le_refl _) _
  replace C0 := C0.keep ba (by omega)
  replace z0 : w.heap.size + 1 ≤ (V1.alloc (.cells #[.bool rn, .string ri, .string rf] 23)).heap.size := by have := ba.size; omega
  replace C1 := C1.keep ba (by omega)
  replace z1 : (w.heap.size + 1) + 1 ≤ (V1.alloc (.cells #[.bool rn, .string ri, .string rf] 23)).heap.size := by have := ba.size; omega
  replace C2 := C2.keep ba (by omega)
  replace z2 : (w.heap.size + 2) + 1 ≤ (V1.alloc (.cells #[.bool rn, .string ri, .string rf] 23)).heap.size := by have := ba.size; omega
  replace HB := Lib.hid (HB.out.trans (ba.mono HB.out.size))
  clear ba
  have C3 : Cells3 (V1.alloc (.cells #[.bool rn, .string ri, .string rf] 23)) V1.heap.size (.bool rn) (.string ri) (.string rf) := (one_box V1 _ _ _ _).2.1
  have z3 : V1.heap.size + 1 ≤ (V1.alloc (.cells #[.bool rn, .string ri, .string rf] 23)).heap.size := by simp
  have o00 := C0.1
  have o10 := C1.1
  have o20 := C2.1
  have o30 := C3.1
  have o01 := C0.2.1
  have o02 := C0.2.2
  have o11 := C1.2.1
  have o12 := C1.2.2
  have o21 := C2.2.1
  have o22 := C2.2.2
  have o31 := C3.2.1
  have o32 := C3.2.2
  replace F2 := Lib.hid (frozen_keep F2.out ((Below.refl _ _).alloc (Nat.le_refl _) (.cells #[.bool rn, .string ri, .string rf] 23)) (by omega))
  have F3 := Lib.hid (one_box V1 (.bool rn) (.string ri) (.string rf) 23).2.2
  go_wp2_with fail
  clear o00 o01 o02 o10 o11 o12 o20 o21 o22 o30 o31 o32
  obtain ⟨V1x, hV1x⟩ : ∃ V1x, V1x = V1.alloc (.cells #[.bool rn, .string ri, .string rf] 23) := ⟨_, rfl⟩
  have HX := Lib.hid (show V1.heap.size + 1 = V1x.heap.size by rw [hV1x]; simp)
  rw [← hV1x]
  rw [← hV1x] at HB C0 z0 C1 z1 C2 z2 C3 z3 F2 F3
  clear hV1x
  (with_reducible refine (D2.out _).mono ?_)
  rintro e V2 ⟨rfl, hb⟩
  replace F2 := Lib.hid (frozen_keep F2.out hb (by omega))
  replace F3 := Lib.hid (frozen_keep F3.out hb (by omega))
  replace C0 := C0.keep hb (by omega)
  replace z0 : w.heap.size + 1 ≤ V2.heap.size := by have := hb.size; omega
  replace C1 := C1.keep hb (by omega)
  replace z1 : (w.heap.size + 1) + 1 ≤ V2.heap.size := by have := hb.size; omega
  replace C2 := C2.keep hb (by omega)
  replace z2 : (w.heap.size + 2) + 1 ≤ V2.heap.size := by have := hb.size; omega
  replace C3 := C3.keep hb (by omega)
  replace z3 : V1.heap.size + 1 ≤ V2.heap.size := by have := hb.size; omega
  replace HB := Lib.hid (HB.out.trans (hb.mono HB.out.size))
  clear hb
  have o00 := C0.1
  have o10 := C1.1
  have o20 := C2.1
  have o30 := C3.1
  have o01 := C0.2.1
  have o02 := C0.2.2
  have o11 := C1.2.1
  have o12 := C1.2.2
  have o21 := C2.2.1
  have o22 := C2.2.2
  have o31 := C3.2.1
  have o32 := C3.2.2
  go_wp2_with fail
  clear o00 o01 o02 o10 o11 o12 o20 o21 o22 o30 o31 o32
  (with_reducible refine (D3.out _).mono ?_)
  rintro e V3 ⟨rfl, hb⟩
  replace F2 := Lib.hid (frozen_keep F2.out hb (by omega))
  replace F3 := Lib.hid (frozen_keep F3.out hb (by omega))
  replace C0 := C0.keep hb (by omega)
  replace z0 : w.heap.size + 1 ≤ V3.heap.size := by have := hb.size; omega
  replace C1 := C1.keep hb (by omega)
  replace z1 : (w.heap.size + 1) + 1 ≤ V3.heap.size := by have := hb.size; omega
  replace C2 := C2.keep hb (by omega)
  replace z2 : (w.heap.size + 2) + 1 ≤ V3.heap.size := by have := hb.size; omega
  replace C3 := C3.keep hb (by omega)
  replace z3 : V1.heap.size + 1 ≤ V3.heap.size := by have := hb.size; omega
  replace HB := Lib.hid (HB.out.trans (hb.mono HB.out.size))
  clear hb
  have HBs := HB
  have KF2 := F2
  have K0 := Lib.hid C0
  have K1 := Lib.hid C1
  have K2 := Lib.hid C2
  have K3 := Lib.hid C3
  have y0 := z0
  have y1 := z1
  have y2 := z2
  have y3 := z3
  have y4_3 := z3
  have y4_2 := z2
  have y4_1 := z1
  have y4_0 := z0
  have ba : Below V3.heap.size V3 (V3.alloc (.cells #[.bool xn, .string xi, .string xf] 23)) := (Below.refl _ _).alloc (Nat.le_refl _) _
  replace C0 := C0.keep ba (by omega)
  replace z0 : w.heap.size + 1 ≤ (V3.alloc (.cells #[.bool xn, .string xi, .string xf] 23)).heap.size := by have := ba.size; omega
  replace C1 := C1.keep ba (by omega)
  replace z1 : (w.heap.size + 1) + 1 ≤ (V3.alloc (.cells #[.bool xn, .string xi, .string xf] 23)).heap.size := by have := ba.size; omega
  replace C2 := C2.keep ba (by omega)
  replace z2 : (w.heap.size + 2) + 1 ≤ (V3.alloc (.cells #[.bool xn, .string xi, .string xf] 23)).heap.size := by have := ba.size; omega
  replace C3 := C3.keep ba (by omega)
  replace z3 : V1.heap.size + 1 ≤ (V3.alloc (.cells #[.bool xn, .string xi, .string xf] 23)).heap.size := by have := ba.size; omega
  replace HB := Lib.hid (HB.out.trans (ba.mono HB.out.size))
  clear ba
  have C4 : Cells3 (V3.alloc (.cells #[.bool xn, .string xi, .string xf] 23)) V3.heap.size (.bool xn) (.string xi) (.string xf) := (one_box V3 _ _ _ _).2.1
  have z4 : V3.heap.size + 1 ≤ (V3.alloc (.cells #[.bool xn, .string xi, .string xf] 23)).heap.size := by simp
  have o00 := C0.1
  have o10 := C1.1
  have o20 := C2.1
  have o30 := C3.1
  have o40 := C4.1
  have o01 := C0.2.1
  have o02 := C0.2.2
  have o11 := C1.2.1
  have o12 := C1.2.2
  have o21 := C2.2.1
  have o22 := C2.2.2
  have o31 := C3.2.1
  have o32 := C3.2.2
  have o41 := C4.2.1
  have o42 := C4.2.2
  replace F2 := Lib.hid (frozen_keep F2.out ((Below.refl _ _).alloc (Nat.le_refl _) (.cells #[.bool xn, .string xi, .string xf] 23)) (by omega))
  replace F3 := Lib.hid (frozen_keep F3.out ((Below.refl _ _).alloc (Nat.le_refl _) (.cells #[.bool xn, .string xi, .string xf] 23)) (by omega))
  have F4 := Lib.hid (one_box V3 (.bool xn) (.string xi) (.string xf) 23).2.2
  have f4 := F4.out
  go_upto_region 9 with fail
  clear o00 o01 o02 o10 o11 o12 o20 o21 o22 o30 o31 o32 o40 o41 o42
  clear f4
  obtain ⟨Ws, hWs⟩ : ∃ X, X = V3.alloc (.cells #[.bool xn, .string xi, .string (xf.extract 0 uf.size)] 23) := ⟨_, rfl⟩
  have ba : Below V3.heap.size V3 Ws := by rw [hWs]; exact (Below.refl _ _).alloc (Nat.le_refl _) _
  have hsz : V3.heap.size + 1 = Ws.heap.size := by rw [hWs]; simp
  have C4n : Cells3 Ws V3.heap.size (.bool xn) (.string xi) (.string yf) := by rw [hWs, HYF.out]; exact (one_box V3 _ _ _ _).2.1
  rw [← hWs]
  clear HB F2 hWs C0 z0 C1 z1 C2 z2 C3 z3 C4 z4 F3 F4
  have HB := Lib.hid (HBs.out.trans (ba.mono HBs.out.size))
  have F2 := Lib.hid (frozen_keep KF2.out ba (by omega))
  have C0 := K0.out.keep ba (by omega)
  have z0 : w.heap.size + 1 ≤ Ws.heap.size := by omega
  have C1 := K1.out.keep ba (by omega)
  have z1 : (w.heap.size + 1) + 1 ≤ Ws.heap.size := by omega
  have C2 := K2.out.keep ba (by omega)
  have z2 : (w.heap.size + 2) + 1 ≤ Ws.heap.size := by omega
  have C3 := K3.out.keep ba (by omega)
  have z3 : V1.heap.size + 1 ≤ Ws.heap.size := by omega
  have C4 := C4n
  have z4 : V3.heap.size + 1 ≤ Ws.heap.size := by omega
  clear ba hsz HBs KF2 C4n K0 y0 K1 y1 K2 y2 K3 y3
  have o00 := C0.1
  have o10 := C1.1
  have o20 := C2.1
  have o30 := C3.1
  have o40 := C4.1
  have o01 := C0.2.1
  have o02 := C0.2.2
  have o11 := C1.2.1
  have o12 := C1.2.2
  have o21 := C2.2.1
  have o22 := C2.2.2
  have o31 := C3.2.1
  have o32 := C3.2.2
  have o41 := C4.2.1
  have o42 := C4.2.2
  go_wp2_with fail
  clear o00 o01 o02 o10 o11 o12 o20 o21 o22 o30 o31 o32 o40 o41 o42
  (with_reducible refine (D4.out _).mono ?_)
  rintro e V4 ⟨rfl, hb⟩
  replace F2 := Lib.hid (frozen_keep F2.out hb (by omega))
  replace C0 := C0.keep hb (by omega)
  replace z0 : w.heap.size + 1 ≤ V4.heap.size := by have := hb.size; omega
  replace C1 := C1.keep hb (by omega)
  replace z1 : (w.heap.size + 1) + 1 ≤ V4.heap.size := by have := hb.size; omega
  replace C2 := C2.keep hb (by omega)
  replace z2 : (w.heap.size + 2) + 1 ≤ V4.heap.size := by have := hb.size; omega
  replace C3 := C3.keep hb (by omega)
  replace z3 : V1.heap.size + 1 ≤ V4.heap.size := by have := hb.size; omega
  replace C4 := C4.keep hb (by omega)
  replace z4 : V3.heap.size + 1 ≤ V4.heap.size := by have := hb.size; omega
  replace HB := Lib.hid (HB.out.trans (hb.mono HB.out.size))
  clear hb
  have o00 := C0.1
  have o10 := C1.1
  have o20 := C2.1
  have o30 := C3.1
  have o40 := C4.1
  have o01 := C0.2.1
  have o02 := C0.2.2
  have o11 := C1.2.1
  have o12 := C1.2.2
  have o21 := C2.2.1
  have o22 := C2.2.2
  have o31 := C3.2.1
  have o32 := C3.2.2
  have o41 := C4.2.1
  have o42 := C4.2.2
  go_wp2_with fail
  clear o00 o01 o02 o10 o11 o12 o20 o21 o22 o30 o31 o32 o40 o41 o42
  (with_reducible refine (D5.out _).mono ?_)
  rintro e V5 ⟨rfl, hb⟩
  replace F2 := Lib.hid (frozen_keep F2.out hb (by omega))
  replace C0 := C0.keep hb (by omega)
  replace z0 : w.heap.size + 1 ≤ V5.heap.size := by have := hb.size; omega
  replace C1 := C1.keep hb (by omega)
  replace z1 : (w.heap.size + 1) + 1 ≤ V5.heap.size := by have := hb.size; omega
  replace C2 := C2.keep hb (by omega)
  replace z2 : (w.heap.size + 2) + 1 ≤ V5.heap.size := by have := hb.size; omega
  replace C3 := C3.keep hb (by omega)
  replace z3 : V1.heap.size + 1 ≤ V5.heap.size := by have := hb.size; omega
  replace C4 := C4.keep hb (by omega)
  replace z4 : V3.heap.size + 1 ≤ V5.heap.size := by have := hb.size; omega
  replace HB := Lib.hid (HB.out.trans (hb.mono HB.out.size))
  clear hb
  have o00 := C0.1
  have o10 := C1.1
  have o20 := C2.1
  have o30 := C3.1
  have o40 := C4.1
  have o01 := C0.2.1
  have o02 := C0.2.2
  have o11 := C1.2.1
  have o12 := C1.2.2
  have o21 := C2.2.1
  have o22 := C2.2.2
  have o31 := C3.2.1
  have o32 := C3.2.2
  have o41 := C4.2.1
  have o42 := C4.2.2
  obtain ⟨r0, r1, r2⟩ := C2
  have z0 := F2.out
  obtain ⟨e0, e1, e2⟩ := res_cells r0 r1 r2 (.bool yn) (.string yi) (.string yg)
  go_wp2
  exact bodyPost_ret (v := .tuple #[.agg #[.bool yn, .string yi, .string yg], .int .i64 c]) (by simp [results, Tryd.results144, go_sem, e0, e1, e2]) rfl ⟨rfl, res_below HB.out (by omega) _ _ _⟩

set_option maxHeartbeats 8000000 in
set_option maxRecDepth 100000 in
theorem tm_outer_false (rn : Bool) (ai af ri rf ui uf : ByteArray) (mode sg : Int) (xn : Bool) (xi xf : ByteArray) (yn : Bool) (yi yg : ByteArray) (c : Int) (w : World) (H1 : (∀ wx : World, Calls Tryd.prog 58 #[(.agg #[.bool false, .string ai, .string af]), (.agg #[.bool false, .string ui, .string uf])] wx fun e w' => e = .returned (.tuple #[(.agg #[.bool rn, .string ri, .string rf]), .int .i64 0]) ∧ Below wx.heap.size wx w')) (H2 : (∀ wx : World, Calls Tryd.prog 175 #[(.agg #[.bool rn, .string ri, .string rf])] wx fun e w' => e = .returned (.int .i64 sg) ∧ Below wx.heap.size wx w')) (H3 : (∀ wx : World, Calls Tryd.prog 176 #[(.agg #[.bool false, .string ai, .string af]), (.agg #[.bool rn, .string ri, .string rf])] wx fun e w' => e = .returned (.tuple #[(.agg #[.bool xn, .string xi, .string xf]), .int .i64 0]) ∧ Below wx.heap.size wx w')) (H4 : (∀ wx : World, Calls Tryd.prog 177 #[(.agg #[.bool false, .string ai, .string af]), .int .i64 mode, (.agg #[.bool rn, .string ri, .string rf]), (.agg #[.bool false, .string ui, .string uf])] wx fun e w' => e = .returned (.bool true) ∧ Below wx.heap.size wx w')) (H5 : (∀ wx : World, Calls Tryd.prog 50 #[(.agg #[.bool xn, .string xi, .string (xf.extract 0 uf.size)]), (.agg #[.bool false, .string ui, .string uf])] wx fun e w' => e = .returned (.tuple #[(.agg #[.bool yn, .string yi, .string yg]), .int .i64 c]) ∧ Below wx.heap.size wx w')) (k8 : (mode == 8) = false) (ks : (sg == 0) = false) (hz : uf.size ≤ xf.size) :
    Calls Tryd.prog 144 #[(.agg #[.bool false, .string ai, .string af]), .int .i64 mode, (.agg #[.bool false, .string ui, .string uf])] w fun e w' => e = .returned (.tuple #[(.agg #[.bool yn, .string yi, .string yg]), .int .i64 c]) ∧ Below w.heap.size w w' := by
  have D1 := Lib.hid H1
  have D2 := Lib.hid H2
  have D3 := Lib.hid H3
  have D4 := Lib.hid H4
  have D5 := Lib.hid H5
  clear H1 H2 H3 H4 H5
  have q3 : ((0 : Int) != 0) = false := by decide
  have g1 : (uf.size : Int) ≤ (xf.size : Int) := by omega
  have g2 : 0 ≤ (uf.size : Int) := by omega
  obtain ⟨yf, hyf⟩ : ∃ yf, yf = xf.extract 0 uf.size := ⟨_, rfl⟩
  have HYF := Lib.hid hyf
  rw [← hyf] at D5
  clear hyf
  go_enter Tryd.func144, Tryd.ntmps144
  go_wp2_with fail
  obtain ⟨W0, hW0⟩ : ∃ W0, W0 = (((w.alloc (.cells #[.bool false, .string ai, .string af] 23)).alloc (.cells #[.bool false, .string ui, .string uf] 23)).alloc (.cells #[.bool false, .string ⟨#[]⟩, .string ⟨#[]⟩] 23)) := ⟨_, rfl⟩
  obtain ⟨hB, hz, C0, C1, C2, FL⟩ : Below w.heap.size w W0 ∧ w.heap.size + 3 ≤ W0.heap.size ∧ Cells3 W0 w.heap.size (.bool false) (.string ai) (.string af) ∧ Cells3 W0 (w.heap.size + 1) (.bool false) (.string ui) (.string uf) ∧ Cells3 W0 (w.heap.size + 2) (.bool false) (.string ⟨#[]⟩) (.string ⟨#[]⟩) ∧ ∀ i, W0.frozen? ⟨(w.heap.size + 2), i, none⟩ = false := by rw [hW0]; exact ⟨below_three w _ _ _, three_boxes w _ _ _ _ _ _ _ _ _ _⟩
  have z0 : w.heap.size + 1 ≤ W0.heap.size := by omega
  have z1 : (w.heap.size + 1) + 1 ≤ W0.heap.size := by omega
  have z2 : (w.heap.size + 2) + 1 ≤ W0.heap.size := by omega
  rw [← hW0]
  have HB := Lib.hid hB
  have F2 := Lib.hid FL
  clear hW0 hB hz FL
  (with_reducible refine (D1.out _).mono ?_)
  rintro e V1 ⟨rfl, hb⟩
  replace F2 := Lib.hid (frozen_keep F2.out hb (by omega))
  replace C0 := C0.keep hb (by omega)
  replace z0 : w.heap.size + 1 ≤ V1.heap.size := by have := hb.size; omega
  replace C1 := C1.keep hb (by omega)
  replace z1 : (w.heap.size + 1) + 1 ≤ V1.heap.size := by have := hb.size; omega
  replace C2 := C2.keep hb (by omega)
  replace z2 : (w.heap.size + 2) + 1 ≤ V1.heap.size := by have := hb.size; omega
  replace HB := Lib.hid (HB.out.trans (hb.mono HB.out.size))
  clear hb
  have y3_2 := z2
  have y3_1 := z1
  have y3_0 := z0
  have ba : Below V1.heap.size V1 (V1.alloc (.cells #[.bool rn, .string ri, .string rf] 23)) := (Below.refl _ _).alloc (Nat.le_refl _) _
  replace C0 := C0.keep ba (by omega)
  replace z0 : w.heap.size + 1 ≤ (V1.alloc (.cells #[.bool rn, .string ri, .string rf] 23)).heap.size := by have := ba.size; omega
  replace C1 := C1.keep ba (by omega)
  replace z1 : (w.heap.size + 1) + 1 ≤ (V1.alloc (.cells #[.bool rn, .string ri, .string rf] 23)).heap.size := by have := ba.size; omega
  replace C2 := C2.keep ba (by omega)
  replace z2 : (w.heap.size + 2) + 1 ≤ (V1.alloc (.cells #[.bool rn, .string ri, .string rf] 23)).heap.size := by have := ba.size; omega
  replace HB := Lib.hid (HB.out.trans (ba.mono HB.out.size))
  clear ba
  have C3 : Cells3 (V1.alloc (.cells #[.bool rn, .string ri, .string rf] 23)) V1.heap.size (.bool rn) (.string ri) (.string rf) := (one_box V1 _ _ _ _).2.1
  have z3 : V1.heap.size + 1 ≤ (V1.alloc (.cells #[.bool rn, .string ri, .string rf] 23)).heap.size := by simp
  have o00 := C0.1
  have o10 := C1.1
  have o20 := C2.1
  have o30 := C3.1
  have o01 := C0.2.1
  have o02 := C0.2.2
  have o11 := C1.2.1
  have o12 := C1.2.2
  have o21 := C2.2.1
  have o22 := C2.2.2
  have o31 := C3.2.1
  have o32 := C3.2.2
  replace F2 := Lib.hid (frozen_keep F2.out ((Below.refl _ _).alloc (Nat.le_refl _) (.cells #[.bool rn, .string ri, .string rf] 23)) (by omega))
  have F3 := Lib.hid (one_box V1 (.bool rn) (.string ri) (.string rf) 23).2.2
  go_wp2_with fail
  clear o00 o01 o02 o10 o11 o12 o20 o21 o22 o30 o31 o32
  obtain ⟨V1x, hV1x⟩ : ∃ V1x, V1x = V1.alloc (.cells #[.bool rn, .string ri, .string rf] 23) := ⟨_, rfl⟩
  have HX := Lib.hid (show V1.heap.size + 1 = V1x.heap.size by rw [hV1x]; simp)
  rw [← hV1x]
  rw [← hV1x] at HB C0 z0 C1 z1 C2 z2 C3 z3 F2 F3
  clear hV1x
  (with_reducible refine (D2.out _).mono ?_)
  rintro e V2 ⟨rfl, hb⟩
  replace F2 := Lib.hid (frozen_keep F2.out hb (by omega))
  replace F3 := Lib.hid (frozen_keep F3.out hb (by omega))
  replace C0 := C0.keep hb (by omega)
  replace z0 : w.heap.size + 1 ≤ V2.heap.size := by have := hb.size; omega
  replace C1 := C1.keep hb (by omega)
  replace z1 : (w.heap.size + 1) + 1 ≤ V2.heap.size := by have := hb.size; omega
  replace C2 := C2.keep hb (by omega)
  replace z2 : (w.heap.size + 2) + 1 ≤ V2.heap.size := by have := hb.size; omega
  replace C3 := C3.keep hb (by omega)
  replace z3 : V1.heap.size + 1 ≤ V2.heap.size := by have := hb.size; omega
  replace HB := Lib.hid (HB.out.trans (hb.mono HB.out.size))
  clear hb
  have o00 := C0.1
  have o10 := C1.1
  have o20 := C2.1
  have o30 := C3.1
  have o01 := C0.2.1
  have o02 := C0.2.2
  have o11 := C1.2.1
  have o12 := C1.2.2
  have o21 := C2.2.1
  have o22 := C2.2.2
  have o31 := C3.2.1
  have o32 := C3.2.2
  go_wp2_with fail
  clear o00 o01 o02 o10 o11 o12 o20 o21 o22 o30 o31 o32
  (with_reducible refine (D3.out _).mono ?_)
  rintro e V3 ⟨rfl, hb⟩
  replace F2 := Lib.hid (frozen_keep F2.out hb (by omega))
  replace F3 := Lib.hid (frozen_keep F3.out hb (by omega))
  replace C0 := C0.keep hb (by omega)
  replace z0 : w.heap.size + 1 ≤ V3.heap.size := by have := hb.size; omega
  replace C1 := C1.keep hb (by omega)
  replace z1 : (w.heap.size + 1) + 1 ≤ V3.heap.size := by have := hb.size; omega
  replace C2 := C2.keep hb (by omega)
  replace z2 : (w.heap.size + 2) + 1 ≤ V3.heap.size := by have := hb.size; omega
  replace C3 := C3.keep hb (by omega)
  replace z3 : V1.heap.size + 1 ≤ V3.heap.size := by have := hb.size; omega
  replace HB := Lib.hid (HB.out.trans (hb.mono HB.out.size))
  clear hb
  have HBs := HB
  have KF2 := F2
  have K0 := Lib.hid C0
  have K1 := Lib.hid C1
  have K2 := Lib.hid C2
  have K3 := Lib.hid C3
  have y0 := z0
  have y1 := z1
  have y2 := z2
  have y3 := z3
  have y4_3 := z3
  have y4_2 := z2
  have y4_1 := z1
  have y4_0 := z0
  have ba : Below V3.heap.size V3 (V3.alloc (.cells #[.bool xn, .string xi, .string xf] 23)) := (Below.refl _ _).alloc (Nat.le_refl _) _
  replace C0 := C0.keep ba (by omega)
  replace z0 : w.heap.size + 1 ≤ (V3.alloc (.cells #[.bool xn, .string xi, .string xf] 23)).heap.size := by have := ba.size; omega
  replace C1 := C1.keep ba (by omega)
  replace z1 : (w.heap.size + 1) + 1 ≤ (V3.alloc (.cells #[.bool xn, .string xi, .string xf] 23)).heap.size := by have := ba.size; omega
  replace C2 := C2.keep ba (by omega)
  replace z2 : (w.heap.size + 2) + 1 ≤ (V3.alloc (.cells #[.bool xn, .string xi, .string xf] 23)).heap.size := by have := ba.size; omega
  replace C3 := C3.keep ba (by omega)
  replace z3 : V1.heap.size + 1 ≤ (V3.alloc (.cells #[.bool xn, .string xi, .string xf] 23)).heap.size := by have := ba.size; omega
  replace HB := Lib.hid (HB.out.trans (ba.mono HB.out.size))
  clear ba
  have C4 : Cells3 (V3.alloc (.cells #[.bool xn, .string xi, .string xf] 23)) V3.heap.size (.bool xn) (.string xi) (.string xf) := (one_box V3 _ _ _ _).2.1
  have z4 : V3.heap.size + 1 ≤ (V3.alloc (.cells #[.bool xn, .string xi, .string xf] 23)).heap.size := by simp
  have o00 := C0.1
  have o10 := C1.1
  have o20 := C2.1
  have o30 := C3.1
  have o40 := C4.1
  have o01 := C0.2.1
  have o02 := C0.2.2
  have o11 := C1.2.1
  have o12 := C1.2.2
  have o21 := C2.2.1
  have o22 := C2.2.2
  have o31 := C3.2.1
  have o32 := C3.2.2
  have o41 := C4.2.1
  have o42 := C4.2.2
  replace F2 := Lib.hid (frozen_keep F2.out ((Below.refl _ _).alloc (Nat.le_refl _) (.cells #[.bool xn, .string xi, .string xf] 23)) (by omega))
  replace F3 := Lib.hid (frozen_keep F3.out ((Below.refl _ _).alloc (Nat.le_refl _) (.cells #[.bool xn, .string xi, .string xf] 23)) (by omega))
  have F4 := Lib.hid (one_box V3 (.bool xn) (.string xi) (.string xf) 23).2.2
  have f4 := F4.out
  go_upto_region 9 with fail
  clear o00 o01 o02 o10 o11 o12 o20 o21 o22 o30 o31 o32 o40 o41 o42
  clear f4
  obtain ⟨Ws, hWs⟩ : ∃ X, X = V3.alloc (.cells #[.bool xn, .string xi, .string (xf.extract 0 uf.size)] 23) := ⟨_, rfl⟩
  have ba : Below V3.heap.size V3 Ws := by rw [hWs]; exact (Below.refl _ _).alloc (Nat.le_refl _) _
  have hsz : V3.heap.size + 1 = Ws.heap.size := by rw [hWs]; simp
  have C4n : Cells3 Ws V3.heap.size (.bool xn) (.string xi) (.string yf) := by rw [hWs, HYF.out]; exact (one_box V3 _ _ _ _).2.1
  rw [← hWs]
  clear HB F2 hWs C0 z0 C1 z1 C2 z2 C3 z3 C4 z4 F3 F4
  have HB := Lib.hid (HBs.out.trans (ba.mono HBs.out.size))
  have F2 := Lib.hid (frozen_keep KF2.out ba (by omega))
  have C0 := K0.out.keep ba (by omega)
  have z0 : w.heap.size + 1 ≤ Ws.heap.size := by omega
  have C1 := K1.out.keep ba (by omega)
  have z1 : (w.heap.size + 1) + 1 ≤ Ws.heap.size := by omega
  have C2 := K2.out.keep ba (by omega)
  have z2 : (w.heap.size + 2) + 1 ≤ Ws.heap.size := by omega
  have C3 := K3.out.keep ba (by omega)
  have z3 : V1.heap.size + 1 ≤ Ws.heap.size := by omega
  have C4 := C4n
  have z4 : V3.heap.size + 1 ≤ Ws.heap.size := by omega
  clear ba hsz HBs KF2 C4n K0 y0 K1 y1 K2 y2 K3 y3
  have o00 := C0.1
  have o10 := C1.1
  have o20 := C2.1
  have o30 := C3.1
  have o40 := C4.1
  have o01 := C0.2.1
  have o02 := C0.2.2
  have o11 := C1.2.1
  have o12 := C1.2.2
  have o21 := C2.2.1
  have o22 := C2.2.2
  have o31 := C3.2.1
  have o32 := C3.2.2
  have o41 := C4.2.1
  have o42 := C4.2.2
  go_wp2_with fail
  clear o00 o01 o02 o10 o11 o12 o20 o21 o22 o30 o31 o32 o40 o41 o42
  (with_reducible refine (D4.out _).mono ?_)
  rintro e V4 ⟨rfl, hb⟩
  replace F2 := Lib.hid (frozen_keep F2.out hb (by omega))
  replace C0 := C0.keep hb (by omega)
  replace z0 : w.heap.size + 1 ≤ V4.heap.size := by have := hb.size; omega
  replace C1 := C1.keep hb (by omega)
  replace z1 : (w.heap.size + 1) + 1 ≤ V4.heap.size := by have := hb.size; omega
  replace C2 := C2.keep hb (by omega)
  replace z2 : (w.heap.size + 2) + 1 ≤ V4.heap.size := by have := hb.size; omega
  replace C3 := C3.keep hb (by omega)
  replace z3 : V1.heap.size + 1 ≤ V4.heap.size := by have := hb.size; omega
  replace C4 := C4.keep hb (by omega)
  replace z4 : V3.heap.size + 1 ≤ V4.heap.size := by have := hb.size; omega
  replace HB := Lib.hid (HB.out.trans (hb.mono HB.out.size))
  clear hb
  have o00 := C0.1
  have o10 := C1.1
  have o20 := C2.1
  have o30 := C3.1
  have o40 := C4.1
  have o01 := C0.2.1
  have o02 := C0.2.2
  have o11 := C1.2.1
  have o12 := C1.2.2
  have o21 := C2.2.1
  have o22 := C2.2.2
  have o31 := C3.2.1
  have o32 := C3.2.2
  have o41 := C4.2.1
  have o42 := C4.2.2
  go_wp2_with fail
  clear o00 o01 o02 o10 o11 o12 o20 o21 o22 o30 o31 o32 o40 o41 o42
  (with_reducible refine (D5.out _).mono ?_)
  rintro e V5 ⟨rfl, hb⟩
  replace F2 := Lib.hid (frozen_keep F2.out hb (by omega))
  replace C0 := C0.keep hb (by omega)
  replace z0 : w.heap.size + 1 ≤ V5.heap.size := by have := hb.size; omega
  replace C1 := C1.keep hb (by omega)
  replace z1 : (w.heap.size + 1) + 1 ≤ V5.heap.size := by have := hb.size; omega
  replace C2 := C2.keep hb (by omega)
  replace z2 : (w.heap.size + 2) + 1 ≤ V5.heap.size := by have := hb.size; omega
  replace C3 := C3.keep hb (by omega)
  replace z3 : V1.heap.size + 1 ≤ V5.heap.size := by have := hb.size; omega
  replace C4 := C4.keep hb (by omega)
  replace z4 : V3.heap.size + 1 ≤ V5.heap.size := by have := hb.size; omega
  replace HB := Lib.hid (HB.out.trans (hb.mono HB.out.size))
  clear hb
  have o00 := C0.1
  have o10 := C1.1
  have o20 := C2.1
  have o30 := C3.1
  have o40 := C4.1
  have o01 := C0.2.1
  have o02 := C0.2.2
  have o11 := C1.2.1
  have o12 := C1.2.2
  have o21 := C2.2.1
  have o22 := C2.2.2
  have o31 := C3.2.1
  have o32 := C3.2.2
  have o41 := C4.2.1
  have o42 := C4.2.2
  obtain ⟨r0, r1, r2⟩ := C2
  have z0 := F2.out
  obtain ⟨e0, e1, e2⟩ := res_cells r0 r1 r2 (.bool yn) (.string yi) (.string yg)
  go_wp2
  exact bodyPost_ret (v := .tuple #[.agg #[.bool yn, .string yi, .string yg], .int .i64 c]) (by simp [results, Tryd.results144, go_sem, e0, e1, e2]) rfl ⟨rfl, res_below HB.out (by omega) _ _ _⟩
end Go.Proofs.YtpbljcjghjbjdaaDoor
