/- RoundNear, way by way. -/
import Derived.Test.YtmaljkjcibdbgaaRnUnit
import Derived.Deep.DeepCutAuto
namespace Go.Proofs.Ytmaljkjcibdbgaa
open Go.RowKit
attribute [local go_sem ↓] Go.wp_at_zero Go.wp_at_succ

theorem set_box {W : World} {b : Nat} {x0 x1 x2 : Value} (h : Cells3 W b x0 x1 x2) (y0 y1 y2 : Value) : Cells3 (((W.setCell ⟨b, 0, none⟩ y0).setCell ⟨b, 1, none⟩ y1).setCell ⟨b, 2, none⟩ y2) b y0 y1 y2 := rset_box h y0 y1 y2
theorem far_box {W : World} {b c : Nat} {x0 x1 x2 : Value} (h : Cells3 W b x0 x1 x2) (hne : b ≠ c) (y0 y1 y2 : Value) : Cells3 (((W.setCell ⟨c, 0, none⟩ y0).setCell ⟨c, 1, none⟩ y1).setCell ⟨c, 2, none⟩ y2) b x0 x1 x2 := rfar_box h hne y0 y1 y2

set_option maxHeartbeats 4000000 in
set_option maxRecDepth 100000 in
theorem rn_err (an : Bool) (ai af : ByteArray) (mode most : Int) (yn : Bool) (yi yf : ByteArray) (c : Int) (w : World) (H1 : (∀ wx : World, Calls Try.prog 32 #[(.agg #[.bool an, .string ai, .string af]), .int .i64 mode, .int .i64 most] wx fun e w' => e = .returned (.tuple #[(.agg #[.bool yn, .string yi, .string yf]), .int .i64 c]) ∧ Below wx.heap.size wx w')) (H2 : (∀ wx : World, Calls Try.prog 33 #[(.agg #[.bool an, .string ai, .string af]), .int .i64 mode, .int .i64 most] wx fun e w' => e = .returned (.tuple #[(.agg #[.bool yn, .string yi, .string yf]), .int .i64 c]) ∧ Below wx.heap.size wx w')) (hc : (c != 0) = true) :
    Calls Try.prog 11 #[(.agg #[.bool an, .string ai, .string af]), .int .i64 mode, .int .i64 most] w fun e w' => e = .returned (.bool true) ∧ Below w.heap.size w w' := by
  have D1 := Lib.hid H1
  have D2 := Lib.hid H2
  clear H1 H2
  have DW := Lib.hid rawake_any
  have q4 : (c == c) = true := beq_self_eq_true _
  go_enter Try.func11, Try.ntmps11
  go_wp2_with fail
  obtain ⟨W0, hW0⟩ : ∃ W0, W0 = (w.alloc (.cells #[.bool an, .string ai, .string af] 23)) := ⟨_, rfl⟩
  obtain ⟨hB, hz, C0, FL⟩ : Below w.heap.size w W0 ∧ w.heap.size + 1 ≤ W0.heap.size ∧ Cells3 W0 w.heap.size (.bool an) (.string ai) (.string af) ∧ ∀ i, W0.frozen? ⟨w.heap.size, i, none⟩ = false := by rw [hW0]; exact ⟨(Below.refl _ w).alloc (Nat.le_refl _) _, one_box w _ _ _ _⟩
  have z0 : w.heap.size + 1 ≤ W0.heap.size := by omega
  rw [← hW0]
  have HB := Lib.hid hB
  have F0 := Lib.hid FL
  clear hW0 hB hz FL
  (with_reducible refine (D1.out _).mono ?_)
  rintro e V1 ⟨rfl, hb⟩
  replace C0 := C0.keep hb (by omega)
  replace z0 : w.heap.size + 1 ≤ V1.heap.size := by have := hb.size; omega
  replace HB := Lib.hid (HB.out.trans (hb.mono HB.out.size))
  clear hb
  have ba : Below V1.heap.size V1 (V1.alloc (.cells #[.bool yn, .string yi, .string yf] 23)) := (Below.refl _ _).alloc (Nat.le_refl _) _
  replace C0 := C0.keep ba (by omega)
  replace z0 : w.heap.size + 1 ≤ (V1.alloc (.cells #[.bool yn, .string yi, .string yf] 23)).heap.size := by have := ba.size; omega
  replace HB := Lib.hid (HB.out.trans (ba.mono HB.out.size))
  clear ba
  have C1 : Cells3 (V1.alloc (.cells #[.bool yn, .string yi, .string yf] 23)) V1.heap.size (.bool yn) (.string yi) (.string yf) := (one_box V1 _ _ _ _).2.1
  have z1 : V1.heap.size + 1 ≤ (V1.alloc (.cells #[.bool yn, .string yi, .string yf] 23)).heap.size := by simp
  have o00 := C0.1
  have o10 := C1.1
  have o01 := C0.2.1
  have o02 := C0.2.2
  have o11 := C1.2.1
  have o12 := C1.2.2
  go_wp2_with fail
  clear o00 o01 o02 o10 o11 o12
  obtain ⟨V1x, hV1x⟩ : ∃ V1x, V1x = V1.alloc (.cells #[.bool yn, .string yi, .string yf] 23) := ⟨_, rfl⟩
  have HX := Lib.hid (show V1.heap.size + 1 = V1x.heap.size by rw [hV1x]; simp)
  rw [← hV1x]
  rw [← hV1x] at HB C0 z0 C1 z1
  clear hV1x
  (with_reducible refine (D2.out _).mono ?_)
  rintro e V2 ⟨rfl, hb⟩
  replace C0 := C0.keep hb (by omega)
  replace z0 : w.heap.size + 1 ≤ V2.heap.size := by have := hb.size; omega
  replace C1 := C1.keep hb (by omega)
  replace z1 : V1.heap.size + 1 ≤ V2.heap.size := by have := hb.size; omega
  replace HB := Lib.hid (HB.out.trans (hb.mono HB.out.size))
  clear hb
  have ba : Below V2.heap.size V2 (V2.alloc (.cells #[.bool yn, .string yi, .string yf] 23)) := (Below.refl _ _).alloc (Nat.le_refl _) _
  replace C0 := C0.keep ba (by omega)
  replace z0 : w.heap.size + 1 ≤ (V2.alloc (.cells #[.bool yn, .string yi, .string yf] 23)).heap.size := by have := ba.size; omega
  replace C1 := C1.keep ba (by omega)
  replace z1 : V1.heap.size + 1 ≤ (V2.alloc (.cells #[.bool yn, .string yi, .string yf] 23)).heap.size := by have := ba.size; omega
  replace HB := Lib.hid (HB.out.trans (ba.mono HB.out.size))
  clear ba
  have C2 : Cells3 (V2.alloc (.cells #[.bool yn, .string yi, .string yf] 23)) V2.heap.size (.bool yn) (.string yi) (.string yf) := (one_box V2 _ _ _ _).2.1
  have z2 : V2.heap.size + 1 ≤ (V2.alloc (.cells #[.bool yn, .string yi, .string yf] 23)).heap.size := by simp
  have o00 := C0.1
  have o10 := C1.1
  have o20 := C2.1
  have o01 := C0.2.1
  have o02 := C0.2.2
  have o11 := C1.2.1
  have o12 := C1.2.2
  have o21 := C2.2.1
  have o22 := C2.2.2
  go_wp2_with fail
  clear o00 o01 o02 o10 o11 o12 o20 o21 o22
  obtain ⟨V2x, hV2x⟩ : ∃ V2x, V2x = V2.alloc (.cells #[.bool yn, .string yi, .string yf] 23) := ⟨_, rfl⟩
  have HX := Lib.hid (show V2.heap.size + 1 = V2x.heap.size by rw [hV2x]; simp)
  rw [← hV2x]
  rw [← hV2x] at HB C0 z0 C1 z1 C2 z2
  clear hV2x
  (with_reducible refine (DW.out _).mono ?_)
  rintro e V3 ⟨rfl, hb⟩
  replace C0 := C0.keep hb (by omega)
  replace z0 : w.heap.size + 1 ≤ V3.heap.size := by have := hb.size; omega
  replace C1 := C1.keep hb (by omega)
  replace z1 : V1.heap.size + 1 ≤ V3.heap.size := by have := hb.size; omega
  replace C2 := C2.keep hb (by omega)
  replace z2 : V2.heap.size + 1 ≤ V3.heap.size := by have := hb.size; omega
  replace HB := Lib.hid (HB.out.trans (hb.mono HB.out.size))
  clear hb
  have o00 := C0.1
  have o10 := C1.1
  have o20 := C2.1
  have o01 := C0.2.1
  have o02 := C0.2.2
  have o11 := C1.2.1
  have o12 := C1.2.2
  have o21 := C2.2.1
  have o22 := C2.2.2
  go_wp2
  go_ret
  exact ⟨rfl, HB.out⟩

set_option maxHeartbeats 4000000 in
set_option maxRecDepth 100000 in
theorem rn_same (an : Bool) (ai af : ByteArray) (mode most : Int) (w : World) (H1 : (∀ wx : World, Calls Try.prog 32 #[(.agg #[.bool an, .string ai, .string af]), .int .i64 mode, .int .i64 most] wx fun e w' => e = .returned (.tuple #[(.agg #[.bool an, .string ai, .string af]), .int .i64 0]) ∧ Below wx.heap.size wx w')) (h3 : (af.size : Int) ≤ most) :
    Calls Try.prog 11 #[(.agg #[.bool an, .string ai, .string af]), .int .i64 mode, .int .i64 most] w fun e w' => e = .returned (.bool true) ∧ Below w.heap.size w w' := by
  have D1 := Lib.hid H1
  clear H1
  have DW := Lib.hid rawake_any
  have q0 : ((0 : Int) != 0) = false := by decide
  have q3 : decide ((af.size : Int) ≤ most) = true := decide_eq_true h3
  have q5 : (an == an) = true := beq_self_eq_true _
  have q6 : (ai.toList == ai.toList) = true := beq_self_eq_true _
  have q7 : (af.toList == af.toList) = true := beq_self_eq_true _
  go_enter Try.func11, Try.ntmps11
  go_wp2_with fail
  obtain ⟨W0, hW0⟩ : ∃ W0, W0 = (w.alloc (.cells #[.bool an, .string ai, .string af] 23)) := ⟨_, rfl⟩
  obtain ⟨hB, hz, C0, FL⟩ : Below w.heap.size w W0 ∧ w.heap.size + 1 ≤ W0.heap.size ∧ Cells3 W0 w.heap.size (.bool an) (.string ai) (.string af) ∧ ∀ i, W0.frozen? ⟨w.heap.size, i, none⟩ = false := by rw [hW0]; exact ⟨(Below.refl _ w).alloc (Nat.le_refl _) _, one_box w _ _ _ _⟩
  have z0 : w.heap.size + 1 ≤ W0.heap.size := by omega
  rw [← hW0]
  have HB := Lib.hid hB
  have F0 := Lib.hid FL
  clear hW0 hB hz FL
  (with_reducible refine (D1.out _).mono ?_)
  rintro e V1 ⟨rfl, hb⟩
  replace C0 := C0.keep hb (by omega)
  replace z0 : w.heap.size + 1 ≤ V1.heap.size := by have := hb.size; omega
  replace HB := Lib.hid (HB.out.trans (hb.mono HB.out.size))
  clear hb
  have ba : Below V1.heap.size V1 (V1.alloc (.cells #[.bool an, .string ai, .string af] 23)) := (Below.refl _ _).alloc (Nat.le_refl _) _
  replace C0 := C0.keep ba (by omega)
  replace z0 : w.heap.size + 1 ≤ (V1.alloc (.cells #[.bool an, .string ai, .string af] 23)).heap.size := by have := ba.size; omega
  replace HB := Lib.hid (HB.out.trans (ba.mono HB.out.size))
  clear ba
  have C1 : Cells3 (V1.alloc (.cells #[.bool an, .string ai, .string af] 23)) V1.heap.size (.bool an) (.string ai) (.string af) := (one_box V1 _ _ _ _).2.1
  have z1 : V1.heap.size + 1 ≤ (V1.alloc (.cells #[.bool an, .string ai, .string af] 23)).heap.size := by simp
  have o00 := C0.1
  have o10 := C1.1
  have o01 := C0.2.1
  have o02 := C0.2.2
  have o11 := C1.2.1
  have o12 := C1.2.2
  go_wp2_with fail
  clear o00 o01 o02 o10 o11 o12
  obtain ⟨V1x, hV1x⟩ : ∃ V1x, V1x = V1.alloc (.cells #[.bool an, .string ai, .string af] 23) := ⟨_, rfl⟩
  have HX := Lib.hid (show V1.heap.size + 1 = V1x.heap.size by rw [hV1x]; simp)
  rw [← hV1x]
  rw [← hV1x] at HB C0 z0 C1 z1
  clear hV1x
  (with_reducible refine (DW.out _).mono ?_)
  rintro e V2 ⟨rfl, hb⟩
  replace C0 := C0.keep hb (by omega)
  replace z0 : w.heap.size + 1 ≤ V2.heap.size := by have := hb.size; omega
  replace C1 := C1.keep hb (by omega)
  replace z1 : V1.heap.size + 1 ≤ V2.heap.size := by have := hb.size; omega
  replace HB := Lib.hid (HB.out.trans (hb.mono HB.out.size))
  clear hb
  have o00 := C0.1
  have o10 := C1.1
  have o01 := C0.2.1
  have o02 := C0.2.2
  have o11 := C1.2.1
  have o12 := C1.2.2
  go_wp2
  go_ret
  exact ⟨rfl, HB.out⟩

set_option maxHeartbeats 4000000 in
set_option maxRecDepth 100000 in
theorem rn_core (an : Bool) (ai af : ByteArray) (mode most : Int) (yn gn tn un : Bool) (yi yf gi gf ti tf ui uf : ByteArray) (k1 k2 : Int) (w : World) (H1 : (∀ wx : World, Calls Try.prog 32 #[(.agg #[.bool an, .string ai, .string af]), .int .i64 mode, .int .i64 most] wx fun e w' => e = .returned (.tuple #[(.agg #[.bool yn, .string yi, .string yf]), .int .i64 0]) ∧ Below wx.heap.size wx w')) (H2 : (∀ wx : World, Calls Try.prog 22 #[(.agg #[.bool yn, .string yi, .string yf]), (.agg #[.bool an, .string ai, .string af])] wx fun e w' => e = .returned (.tuple #[(.agg #[.bool gn, .string gi, .string gf]), .int .i64 0]) ∧ Below wx.heap.size wx w')) (H3 : (∀ wx : World, Calls Try.prog 41 #[(.agg #[.bool gn, .string gi, .string gf])] wx fun e w' => e = .returned (.agg #[.bool false, .string gi, .string gf]) ∧ Below wx.heap.size wx w')) (HU : (∀ wx : World, Calls Try.prog 42 #[.int .i64 most] wx fun e w' => e = .returned (.agg #[.bool un, .string ui, .string uf]) ∧ Below wx.heap.size wx w')) (H4 : (∀ wx : World, Calls Try.prog 17 #[(.agg #[.bool false, .string gi, .string gf]), (.agg #[.bool un, .string ui, .string uf])] wx fun e w' => e = .returned (.tuple #[.int .i64 k1, .int .i64 0]) ∧ Below wx.heap.size wx w')) (H5 : (∀ wx : World, Calls Try.prog 19 #[(.agg #[.bool false, .string gi, .string gf]), (.agg #[.bool false, .string gi, .string gf])] wx fun e w' => e = .returned (.tuple #[(.agg #[.bool tn, .string ti, .string tf]), .int .i64 0]) ∧ Below wx.heap.size wx w')) (H6 : (∀ wx : World, Calls Try.prog 17 #[(.agg #[.bool tn, .string ti, .string tf]), (.agg #[.bool un, .string ui, .string uf])] wx fun e w' => e = .returned (.tuple #[.int .i64 k2, .int .i64 0]) ∧ Below wx.heap.size wx w')) (h3 : ¬ (af.size : Int) ≤ most) (hk : k1 < 0) (hm : k2 ≤ 0 ∨ (¬ k2 ≤ 0 ∧ mode < 5) ∨ (¬ k2 ≤ 0 ∧ ¬ mode < 5 ∧ 7 < mode)) :
    Calls Try.prog 11 #[(.agg #[.bool an, .string ai, .string af]), .int .i64 mode, .int .i64 most] w fun e w' => e = .returned (.bool true) ∧ Below w.heap.size w w' := by
  have D1 := Lib.hid H1
  have D2 := Lib.hid H2
  have D3 := Lib.hid H3
  have DU := Lib.hid HU
  have D4 := Lib.hid H4
  have D5 := Lib.hid H5
  have D6 := Lib.hid H6
  clear H1 H2 H3 HU H4 H5 H6
  have DW := Lib.hid rawake_any
  have q0 : ((0 : Int) != 0) = false := by decide
  have q3 : decide ((af.size : Int) ≤ most) = false := decide_eq_false h3
  have q7 : decide (0 ≤ k1) = false := decide_eq_false (by omega)
  have HM := Lib.hid hm
  clear hm
  go_enter Try.func11, Try.ntmps11
  go_wp2_with fail
  obtain ⟨W0, hW0⟩ : ∃ W0, W0 = (w.alloc (.cells #[.bool an, .string ai, .string af] 23)) := ⟨_, rfl⟩
  obtain ⟨hB, hz, C0, FL⟩ : Below w.heap.size w W0 ∧ w.heap.size + 1 ≤ W0.heap.size ∧ Cells3 W0 w.heap.size (.bool an) (.string ai) (.string af) ∧ ∀ i, W0.frozen? ⟨w.heap.size, i, none⟩ = false := by rw [hW0]; exact ⟨(Below.refl _ w).alloc (Nat.le_refl _) _, one_box w _ _ _ _⟩
  have z0 : w.heap.size + 1 ≤ W0.heap.size := by omega
  rw [← hW0]
  have HB := Lib.hid hB
  have F0 := Lib.hid FL
  clear hW0 hB hz FL
  (with_reducible refine (D1.out _).mono ?_)
  rintro e V1 ⟨rfl, hb⟩
  replace F0 := Lib.hid (frozen_keep F0.out hb (by omega))
  replace C0 := C0.keep hb (by omega)
  replace z0 : w.heap.size + 1 ≤ V1.heap.size := by have := hb.size; omega
  replace HB := Lib.hid (HB.out.trans (hb.mono HB.out.size))
  clear hb
  have y1_0 := z0
  have ba : Below V1.heap.size V1 (V1.alloc (.cells #[.bool yn, .string yi, .string yf] 23)) := (Below.refl _ _).alloc (Nat.le_refl _) _
  replace C0 := C0.keep ba (by omega)
  replace z0 : w.heap.size + 1 ≤ (V1.alloc (.cells #[.bool yn, .string yi, .string yf] 23)).heap.size := by have := ba.size; omega
  replace HB := Lib.hid (HB.out.trans (ba.mono HB.out.size))
  clear ba
  have C1 : Cells3 (V1.alloc (.cells #[.bool yn, .string yi, .string yf] 23)) V1.heap.size (.bool yn) (.string yi) (.string yf) := (one_box V1 _ _ _ _).2.1
  have z1 : V1.heap.size + 1 ≤ (V1.alloc (.cells #[.bool yn, .string yi, .string yf] 23)).heap.size := by simp
  have o00 := C0.1
  have o10 := C1.1
  have o01 := C0.2.1
  have o02 := C0.2.2
  have o11 := C1.2.1
  have o12 := C1.2.2
  replace F0 := Lib.hid (frozen_keep F0.out ((Below.refl _ _).alloc (Nat.le_refl _) (.cells #[.bool yn, .string yi, .string yf] 23)) (by omega))
  have F1 := Lib.hid (one_box V1 (.bool yn) (.string yi) (.string yf) 23).2.2
  go_wp2_with fail
  clear o00 o01 o02 o10 o11 o12
  obtain ⟨V1x, hV1x⟩ : ∃ V1x, V1x = V1.alloc (.cells #[.bool yn, .string yi, .string yf] 23) := ⟨_, rfl⟩
  have HX := Lib.hid (show V1.heap.size + 1 = V1x.heap.size by rw [hV1x]; simp)
  rw [← hV1x]
  rw [← hV1x] at HB C0 z0 C1 z1 F0 F1
  clear hV1x
  (with_reducible refine (D2.out _).mono ?_)
  rintro e V2 ⟨rfl, hb⟩
  replace F0 := Lib.hid (frozen_keep F0.out hb (by omega))
  replace F1 := Lib.hid (frozen_keep F1.out hb (by omega))
  replace C0 := C0.keep hb (by omega)
  replace z0 : w.heap.size + 1 ≤ V2.heap.size := by have := hb.size; omega
  replace C1 := C1.keep hb (by omega)
  replace z1 : V1.heap.size + 1 ≤ V2.heap.size := by have := hb.size; omega
  replace HB := Lib.hid (HB.out.trans (hb.mono HB.out.size))
  clear hb
  have y2_1 := z1
  have y2_0 := z0
  have ba : Below V2.heap.size V2 (V2.alloc (.cells #[.bool gn, .string gi, .string gf] 23)) := (Below.refl _ _).alloc (Nat.le_refl _) _
  replace C0 := C0.keep ba (by omega)
  replace z0 : w.heap.size + 1 ≤ (V2.alloc (.cells #[.bool gn, .string gi, .string gf] 23)).heap.size := by have := ba.size; omega
  replace C1 := C1.keep ba (by omega)
  replace z1 : V1.heap.size + 1 ≤ (V2.alloc (.cells #[.bool gn, .string gi, .string gf] 23)).heap.size := by have := ba.size; omega
  replace HB := Lib.hid (HB.out.trans (ba.mono HB.out.size))
  clear ba
  have C2 : Cells3 (V2.alloc (.cells #[.bool gn, .string gi, .string gf] 23)) V2.heap.size (.bool gn) (.string gi) (.string gf) := (one_box V2 _ _ _ _).2.1
  have z2 : V2.heap.size + 1 ≤ (V2.alloc (.cells #[.bool gn, .string gi, .string gf] 23)).heap.size := by simp
  have o00 := C0.1
  have o10 := C1.1
  have o20 := C2.1
  have o01 := C0.2.1
  have o02 := C0.2.2
  have o11 := C1.2.1
  have o12 := C1.2.2
  have o21 := C2.2.1
  have o22 := C2.2.2
  replace F0 := Lib.hid (frozen_keep F0.out ((Below.refl _ _).alloc (Nat.le_refl _) (.cells #[.bool gn, .string gi, .string gf] 23)) (by omega))
  replace F1 := Lib.hid (frozen_keep F1.out ((Below.refl _ _).alloc (Nat.le_refl _) (.cells #[.bool gn, .string gi, .string gf] 23)) (by omega))
  have F2 := Lib.hid (one_box V2 (.bool gn) (.string gi) (.string gf) 23).2.2
  go_wp2_with fail
  clear o00 o01 o02 o10 o11 o12 o20 o21 o22
  obtain ⟨V2x, hV2x⟩ : ∃ V2x, V2x = V2.alloc (.cells #[.bool gn, .string gi, .string gf] 23) := ⟨_, rfl⟩
  have HX := Lib.hid (show V2.heap.size + 1 = V2x.heap.size by rw [hV2x]; simp)
  rw [← hV2x]
  rw [← hV2x] at HB C0 z0 C1 z1 C2 z2 F0 F1 F2
  clear hV2x
  (with_reducible refine (D3.out _).mono ?_)
  rintro e V3 ⟨rfl, hb⟩
  replace F0 := Lib.hid (frozen_keep F0.out hb (by omega))
  replace F1 := Lib.hid (frozen_keep F1.out hb (by omega))
  replace F2 := Lib.hid (frozen_keep F2.out hb (by omega))
  replace C0 := C0.keep hb (by omega)
  replace z0 : w.heap.size + 1 ≤ V3.heap.size := by have := hb.size; omega
  replace C1 := C1.keep hb (by omega)
  replace z1 : V1.heap.size + 1 ≤ V3.heap.size := by have := hb.size; omega
  replace C2 := C2.keep hb (by omega)
  replace z2 : V2.heap.size + 1 ≤ V3.heap.size := by have := hb.size; omega
  replace HB := Lib.hid (HB.out.trans (hb.mono HB.out.size))
  clear hb
  have o00 := C0.1
  have o10 := C1.1
  have o20 := C2.1
  have o01 := C0.2.1
  have o02 := C0.2.2
  have o11 := C1.2.1
  have o12 := C1.2.2
  have o21 := C2.2.1
  have o22 := C2.2.2
  have f0 := F0.out
  have f1 := F1.out
  have f2 := F2.out
  go_wp2_with fail
  clear f0
  clear f1
  clear f2
  clear o00 o01 o02 o10 o11 o12 o20 o21 o22
  obtain ⟨V3s, hV3s⟩ : ∃ X, X = ((V3.setCell ⟨V2.heap.size, 0, none⟩ (.bool false)).setCell ⟨V2.heap.size, 1, none⟩ (.string gi)).setCell ⟨V2.heap.size, 2, none⟩ (.string gf) := ⟨_, rfl⟩
  have C0n := far_box C0 (show w.heap.size ≠ V2.heap.size by omega) (.bool false) (.string gi) (.string gf)
  have C1n := far_box C1 (show V1.heap.size ≠ V2.heap.size by omega) (.bool false) (.string gi) (.string gf)
  have C2n := set_box C2 (.bool false) (.string gi) (.string gf)
  have HBn := Lib.hid (res_below HB.out (show w.heap.size ≤ V2.heap.size by omega) (.bool false) (.string gi) (.string gf))
  have hsz : V3s.heap.size = V3.heap.size := by rw [hV3s]; simp [World.setCell]
  replace F0 : Hid (∀ i, V3s.frozen? ⟨w.heap.size, i, none⟩ = false) := by have t := F0.out; show ∀ i, _; rw [hV3s]; intro i; simpa using t i
  replace F1 : Hid (∀ i, V3s.frozen? ⟨V1.heap.size, i, none⟩ = false) := by have t := F1.out; show ∀ i, _; rw [hV3s]; intro i; simpa using t i
  replace F2 : Hid (∀ i, V3s.frozen? ⟨V2.heap.size, i, none⟩ = false) := by have t := F2.out; show ∀ i, _; rw [hV3s]; intro i; simpa using t i
  rw [← hV3s]
  rw [← hV3s] at HBn C0n C1n C2n
  clear HB C0 C1 C2 hV3s
  have HB := HBn
  clear HBn
  have C0 := C0n
  clear C0n
  replace z0 : w.heap.size + 1 ≤ V3s.heap.size := by omega
  have C1 := C1n
  clear C1n
  replace z1 : V1.heap.size + 1 ≤ V3s.heap.size := by omega
  have C2 := C2n
  clear C2n
  replace z2 : V2.heap.size + 1 ≤ V3s.heap.size := by omega
  clear hsz
  clear F0 F1 F2
  have o00 := C0.1
  have o10 := C1.1
  have o20 := C2.1
  have o01 := C0.2.1
  have o02 := C0.2.2
  have o11 := C1.2.1
  have o12 := C1.2.2
  have o21 := C2.2.1
  have o22 := C2.2.2
  go_upto_region 11 with fail
  clear o00 o01 o02 o10 o11 o12 o20 o21 o22
  have Ch := Lib.hid C2
  obtain ⟨s0, s1, s2⟩ := C2
  have C2 := Ch.out
  go_region_held3 (fun w' => (w'.cell? ⟨V2.heap.size, 0, none⟩ = some (.bool false) ∧ w'.cell? ⟨V2.heap.size, 1, none⟩ = some (.string gi) ∧ w'.cell? ⟨V2.heap.size, 2, none⟩ = some (.string gf)))
    (first
      | exact ⟨s0, s1, s2⟩
      | (have t := Ch.out.keep hb4 (by omega); exact ⟨t.1, t.2.1, t.2.2⟩)
      | (have t := Ch.out.keep (undrew hbA) (by omega); exact ⟨t.1, t.2.1, t.2.2⟩)
      | go_keep)
    (first
      | (go_at_call 42; (with_reducible refine (DU.out _).mono ?_); rintro e wA ⟨rfl, hbA⟩)
      | (go_at_call 17; (with_reducible refine (D4.out _).mono ?_); rintro e wB11 ⟨rfl, hbB⟩
         have hb4 : Below V3s.heap.size V3s wB11 := (undrew hbA).trans (hbB.mono (undrew hbA).size)))
  replace C0 := C0.keep hb4 (by omega)
  replace z0 : w.heap.size + 1 ≤ wB11.heap.size := by have := hb4.size; omega
  replace C1 := C1.keep hb4 (by omega)
  replace z1 : V1.heap.size + 1 ≤ wB11.heap.size := by have := hb4.size; omega
  replace C2 := C2.keep hb4 (by omega)
  replace z2 : V2.heap.size + 1 ≤ wB11.heap.size := by have := hb4.size; omega
  replace HB := Lib.hid (HB.out.trans (hb4.mono HB.out.size))
  clear hb4 hbA hbB s0 s1 s2 Ch
  have o00 := C0.1
  have o10 := C1.1
  have o20 := C2.1
  have o01 := C0.2.1
  have o02 := C0.2.2
  have o11 := C1.2.1
  have o12 := C1.2.2
  have o21 := C2.2.1
  have o22 := C2.2.2
  go_wp2_with fail
  clear o00 o01 o02 o10 o11 o12 o20 o21 o22
  (with_reducible refine (D5.out _).mono ?_)
  rintro e V4 ⟨rfl, hb⟩
  replace C0 := C0.keep hb (by omega)
  replace z0 : w.heap.size + 1 ≤ V4.heap.size := by have := hb.size; omega
  replace C1 := C1.keep hb (by omega)
  replace z1 : V1.heap.size + 1 ≤ V4.heap.size := by have := hb.size; omega
  replace C2 := C2.keep hb (by omega)
  replace z2 : V2.heap.size + 1 ≤ V4.heap.size := by have := hb.size; omega
  replace HB := Lib.hid (HB.out.trans (hb.mono HB.out.size))
  clear hb
  have ba : Below V4.heap.size V4 (V4.alloc (.cells #[.bool tn, .string ti, .string tf] 23)) := (Below.refl _ _).alloc (Nat.le_refl _) _
  replace C0 := C0.keep ba (by omega)
  replace z0 : w.heap.size + 1 ≤ (V4.alloc (.cells #[.bool tn, .string ti, .string tf] 23)).heap.size := by have := ba.size; omega
  replace C1 := C1.keep ba (by omega)
  replace z1 : V1.heap.size + 1 ≤ (V4.alloc (.cells #[.bool tn, .string ti, .string tf] 23)).heap.size := by have := ba.size; omega
  replace C2 := C2.keep ba (by omega)
  replace z2 : V2.heap.size + 1 ≤ (V4.alloc (.cells #[.bool tn, .string ti, .string tf] 23)).heap.size := by have := ba.size; omega
  replace HB := Lib.hid (HB.out.trans (ba.mono HB.out.size))
  clear ba
  have C3 : Cells3 (V4.alloc (.cells #[.bool tn, .string ti, .string tf] 23)) V4.heap.size (.bool tn) (.string ti) (.string tf) := (one_box V4 _ _ _ _).2.1
  have z3 : V4.heap.size + 1 ≤ (V4.alloc (.cells #[.bool tn, .string ti, .string tf] 23)).heap.size := by simp
  have o00 := C0.1
  have o10 := C1.1
  have o20 := C2.1
  have o30 := C3.1
  have o01 := C0.2.1
  have o02 := C0.2.2
  have o11 := C1.2.1
  have o12 := C1.2.2
  have o21 := C2.2.1
  have o22 := C2.2.2
  have o31 := C3.2.1
  have o32 := C3.2.2
  go_upto_region 17 with fail
  clear o00 o01 o02 o10 o11 o12 o20 o21 o22 o30 o31 o32
  obtain ⟨V4x, hV4x⟩ : ∃ V4x, V4x = V4.alloc (.cells #[.bool tn, .string ti, .string tf] 23) := ⟨_, rfl⟩
  have HX := Lib.hid (show V4.heap.size + 1 = V4x.heap.size by rw [hV4x]; simp)
  rw [← hV4x]
  rw [← hV4x] at HB C0 z0 C1 z1 C2 z2 C3 z3
  clear hV4x
  have Ch := Lib.hid C3
  obtain ⟨s0, s1, s2⟩ := C3
  have C3 := Ch.out
  go_region_held3 (fun w' => (w'.cell? ⟨V4.heap.size, 0, none⟩ = some (.bool tn) ∧ w'.cell? ⟨V4.heap.size, 1, none⟩ = some (.string ti) ∧ w'.cell? ⟨V4.heap.size, 2, none⟩ = some (.string tf)))
    (first
      | exact ⟨s0, s1, s2⟩
      | (have t := Ch.out.keep hb4 (by omega); exact ⟨t.1, t.2.1, t.2.2⟩)
      | (have t := Ch.out.keep (undrew hbA) (by omega); exact ⟨t.1, t.2.1, t.2.2⟩)
      | go_keep)
    (first
      | (go_at_call 42; (with_reducible refine (DU.out _).mono ?_); rintro e wA ⟨rfl, hbA⟩)
      | (go_at_call 17; (with_reducible refine (D6.out _).mono ?_); rintro e wB17 ⟨rfl, hbB⟩
         have hb4 : Below V4x.heap.size V4x wB17 := (undrew hbA).trans (hbB.mono (undrew hbA).size)))
  replace C0 := C0.keep hb4 (by omega)
  replace z0 : w.heap.size + 1 ≤ wB17.heap.size := by have := hb4.size; omega
  replace C1 := C1.keep hb4 (by omega)
  replace z1 : V1.heap.size + 1 ≤ wB17.heap.size := by have := hb4.size; omega
  replace C2 := C2.keep hb4 (by omega)
  replace z2 : V2.heap.size + 1 ≤ wB17.heap.size := by have := hb4.size; omega
  replace C3 := C3.keep hb4 (by omega)
  replace z3 : V4.heap.size + 1 ≤ wB17.heap.size := by have := hb4.size; omega
  replace HB := Lib.hid (HB.out.trans (hb4.mono HB.out.size))
  clear hb4 hbA hbB s0 s1 s2 Ch
  have o00 := C0.1
  have o10 := C1.1
  have o20 := C2.1
  have o30 := C3.1
  have o01 := C0.2.1
  have o02 := C0.2.2
  have o11 := C1.2.1
  have o12 := C1.2.2
  have o21 := C2.2.1
  have o22 := C2.2.2
  have o31 := C3.2.1
  have o32 := C3.2.2
  rcases HM.out with h1 | ⟨h1, h2⟩ | ⟨h1, h2, h3⟩
  · have q8 : decide (k2 ≤ 0) = true := decide_eq_true h1
    go_wp2_with fail
    clear o00 o01 o02 o10 o11 o12 o20 o21 o22 o30 o31 o32
    (with_reducible refine (DW.out _).mono ?_)
    rintro e V5 ⟨rfl, hb⟩
    replace C0 := C0.keep hb (by omega)
    replace z0 : w.heap.size + 1 ≤ V5.heap.size := by have := hb.size; omega
    replace C1 := C1.keep hb (by omega)
    replace z1 : V1.heap.size + 1 ≤ V5.heap.size := by have := hb.size; omega
    replace C2 := C2.keep hb (by omega)
    replace z2 : V2.heap.size + 1 ≤ V5.heap.size := by have := hb.size; omega
    replace C3 := C3.keep hb (by omega)
    replace z3 : V4.heap.size + 1 ≤ V5.heap.size := by have := hb.size; omega
    replace HB := Lib.hid (HB.out.trans (hb.mono HB.out.size))
    clear hb
    have o00 := C0.1
    have o10 := C1.1
    have o20 := C2.1
    have o30 := C3.1
    have o01 := C0.2.1
    have o02 := C0.2.2
    have o11 := C1.2.1
    have o12 := C1.2.2
    have o21 := C2.2.1
    have o22 := C2.2.2
    have o31 := C3.2.1
    have o32 := C3.2.2
    go_wp2
    go_ret
    exact ⟨rfl, HB.out⟩
  · have q8 : decide (k2 ≤ 0) = false := decide_eq_false (by omega)
    have q9 : decide (mode < 5) = true := decide_eq_true h2
    go_wp2_with fail
    clear o00 o01 o02 o10 o11 o12 o20 o21 o22 o30 o31 o32
    (with_reducible refine (DW.out _).mono ?_)
    rintro e V5 ⟨rfl, hb⟩
    replace C0 := C0.keep hb (by omega)
    replace z0 : w.heap.size + 1 ≤ V5.heap.size := by have := hb.size; omega
    replace C1 := C1.keep hb (by omega)
    replace z1 : V1.heap.size + 1 ≤ V5.heap.size := by have := hb.size; omega
    replace C2 := C2.keep hb (by omega)
    replace z2 : V2.heap.size + 1 ≤ V5.heap.size := by have := hb.size; omega
    replace C3 := C3.keep hb (by omega)
    replace z3 : V4.heap.size + 1 ≤ V5.heap.size := by have := hb.size; omega
    replace HB := Lib.hid (HB.out.trans (hb.mono HB.out.size))
    clear hb
    have o00 := C0.1
    have o10 := C1.1
    have o20 := C2.1
    have o30 := C3.1
    have o01 := C0.2.1
    have o02 := C0.2.2
    have o11 := C1.2.1
    have o12 := C1.2.2
    have o21 := C2.2.1
    have o22 := C2.2.2
    have o31 := C3.2.1
    have o32 := C3.2.2
    go_wp2
    go_ret
    exact ⟨rfl, HB.out⟩
  · have q8 : decide (k2 ≤ 0) = false := decide_eq_false (by omega)
    have q9 : decide (mode < 5) = false := decide_eq_false (by omega)
    have q10 : decide (7 < mode) = true := decide_eq_true h3
    go_wp2_with fail
    clear o00 o01 o02 o10 o11 o12 o20 o21 o22 o30 o31 o32
    (with_reducible refine (DW.out _).mono ?_)
    rintro e V5 ⟨rfl, hb⟩
    replace C0 := C0.keep hb (by omega)
    replace z0 : w.heap.size + 1 ≤ V5.heap.size := by have := hb.size; omega
    replace C1 := C1.keep hb (by omega)
    replace z1 : V1.heap.size + 1 ≤ V5.heap.size := by have := hb.size; omega
    replace C2 := C2.keep hb (by omega)
    replace z2 : V2.heap.size + 1 ≤ V5.heap.size := by have := hb.size; omega
    replace C3 := C3.keep hb (by omega)
    replace z3 : V4.heap.size + 1 ≤ V5.heap.size := by have := hb.size; omega
    replace HB := Lib.hid (HB.out.trans (hb.mono HB.out.size))
    clear hb
    have o00 := C0.1
    have o10 := C1.1
    have o20 := C2.1
    have o30 := C3.1
    have o01 := C0.2.1
    have o02 := C0.2.2
    have o11 := C1.2.1
    have o12 := C1.2.2
    have o21 := C2.2.1
    have o22 := C2.2.2
    have o31 := C3.2.1
    have o32 := C3.2.2
    go_wp2
    go_ret
    exact ⟨rfl, HB.out⟩
end Go.Proofs.Ytmaljkjcibdbgaa
