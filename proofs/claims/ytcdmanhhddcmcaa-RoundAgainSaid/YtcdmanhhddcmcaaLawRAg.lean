/- RoundAgain: the walks. -/
import Derived.Test.YtcdmanhhddcmcaaRoAwake
namespace Go.Proofs.Ytcdmanhhddcmcaa
open Go.RowKit
attribute [local go_sem ↓] Go.wp_at_zero Go.wp_at_succ
def Cells2 (w : World) (b : Nat) (x0 x1 : Value) : Prop := w.cell? ⟨b, 0, none⟩ = some x0 ∧ w.cell? ⟨b, 1, none⟩ = some x1
theorem Cells2.keep {W w' : World} {b : Nat} {x0 x1 : Value} (h : Cells2 W b x0 x1) (hb : Below W.heap.size W w') (hlt : b < W.heap.size) : Cells2 w' b x0 x1 :=
  ⟨(hb.cell (p := ⟨b, 0, none⟩) hlt).trans h.1, (hb.cell (p := ⟨b, 1, none⟩) hlt).trans h.2⟩
theorem two_new (w : World) (b0 b1 : Value) (t : TypeId) : Cells2 (w.alloc (.cells #[b0, b1] t)) w.heap.size b0 b1 := ⟨by simp, by simp⟩
theorem box_and_two (w : World) (a0 a1 a2 b0 b1 : Value) (t t2 : TypeId) :
    w.heap.size + 2 ≤ ((w.alloc (.cells #[a0, a1, a2] t)).alloc (.cells #[b0, b1] t2)).heap.size ∧ Cells3 ((w.alloc (.cells #[a0, a1, a2] t)).alloc (.cells #[b0, b1] t2)) w.heap.size a0 a1 a2 ∧ Cells2 ((w.alloc (.cells #[a0, a1, a2] t)).alloc (.cells #[b0, b1] t2)) (w.heap.size + 1) b0 b1 := by
  have h1 := one_box w a0 a1 a2 t
  refine ⟨by simp, h1.2.1.keep ((Below.refl _ _).alloc (Nat.le_refl _) _) (by simp), ?_⟩
  have hs : (w.alloc (.cells #[a0, a1, a2] t)).heap.size = w.heap.size + 1 := by simp
  rw [← hs]
  exact two_new _ _ _ _

set_option maxHeartbeats 4000000 in
set_option maxRecDepth 100000 in
theorem ragain_bad (an : Bool) (ai af : ByteArray) (mode least most : Int) (yn : Bool) (yi yf : ByteArray) (c : Int) (w : World) (H1 : (∀ wx : World, Calls Try.prog 30 #[(.agg #[.bool an, .string ai, .string af]), .int .i64 mode, .int .i64 least, .int .i64 most] wx fun e w' => e = .returned (.tuple #[(.agg #[.bool yn, .string yi, .string yf]), .int .i64 c]) ∧ Below wx.heap.size wx w')) (H2 : (∀ wx : World, Calls Try.prog 31 #[(.agg #[.bool an, .string ai, .string af]), .int .i64 mode, .int .i64 least, .int .i64 most] wx fun e w' => e = .returned (.tuple #[(.agg #[.bool yn, .string yi, .string yf]), .int .i64 c]) ∧ Below wx.heap.size wx w')) (he : (c != 0) = true) :
    Calls Try.prog 11 #[(.agg #[.bool an, .string ai, .string af]), .int .i64 mode, .agg #[.int .i64 least, .int .i64 most]] w fun e w' => e = .returned (.bool true) ∧ Below w.heap.size w w' := by
  have D1 := Lib.hid H1
  have D2 := Lib.hid H2
  clear H1 H2
  have q4 : (c == c) = true := beq_self_eq_true _
  have DW := Lib.hid rawake_any
  go_enter Try.func11, Try.ntmps11
  go_wp2_with fail
  obtain ⟨W0, hW0⟩ : ∃ W0, W0 = ((w.alloc (.cells #[.bool an, .string ai, .string af] 23)).alloc (.cells #[.int .i64 least, .int .i64 most] 51)) := ⟨_, rfl⟩
  obtain ⟨hB, hz, C0, N⟩ : Below w.heap.size w W0 ∧ w.heap.size + 2 ≤ W0.heap.size ∧ Cells3 W0 w.heap.size (.bool an) (.string ai) (.string af) ∧ Cells2 W0 (w.heap.size + 1) (.int .i64 least) (.int .i64 most) := by rw [hW0]; exact ⟨below_two w _ _, box_and_two w _ _ _ _ _ _ _⟩
  have zN : w.heap.size + 1 + 1 ≤ W0.heap.size := by omega
  have z0 : w.heap.size + 1 ≤ W0.heap.size := by omega
  rw [← hW0]
  have HB := Lib.hid hB
  clear hW0 hB hz
  (with_reducible refine (D1.out _).mono ?_)
  rintro e V1 ⟨rfl, hb⟩
  replace C0 := C0.keep hb (by omega)
  replace N := N.keep hb (by omega)
  replace z0 : w.heap.size + 1 ≤ V1.heap.size := by have := hb.size; omega
  replace zN : w.heap.size + 1 + 1 ≤ V1.heap.size := by have := hb.size; omega
  replace HB := Lib.hid (HB.out.trans (hb.mono HB.out.size))
  clear hb
  have ba : Below V1.heap.size V1 (V1.alloc (.cells #[.bool yn, .string yi, .string yf] 23)) := (Below.refl _ _).alloc (Nat.le_refl _) _
  replace C0 := C0.keep ba (by omega)
  replace N := N.keep ba (by omega)
  replace z0 : w.heap.size + 1 ≤ (V1.alloc (.cells #[.bool yn, .string yi, .string yf] 23)).heap.size := by have := ba.size; omega
  replace zN : w.heap.size + 1 + 1 ≤ (V1.alloc (.cells #[.bool yn, .string yi, .string yf] 23)).heap.size := by have := ba.size; omega
  replace HB := Lib.hid (HB.out.trans (ba.mono HB.out.size))
  clear ba
  have C1 : Cells3 (V1.alloc (.cells #[.bool yn, .string yi, .string yf] 23)) V1.heap.size (.bool yn) (.string yi) (.string yf) := (one_box V1 _ _ _ _).2.1
  have z1 : V1.heap.size + 1 ≤ (V1.alloc (.cells #[.bool yn, .string yi, .string yf] 23)).heap.size := by simp
  have o00 := C0.1
  have n0 := N.1
  have n1 := N.2
  have o10 := C1.1
  have o01 := C0.2.1
  have o02 := C0.2.2
  have o11 := C1.2.1
  have o12 := C1.2.2
  go_wp2_with fail
  clear o00 o01 o02 o10 o11 o12 n0 n1
  obtain ⟨V1x, hV1x⟩ : ∃ V1x, V1x = V1.alloc (.cells #[.bool yn, .string yi, .string yf] 23) := ⟨_, rfl⟩
  have HX := Lib.hid (show V1.heap.size + 1 = V1x.heap.size by rw [hV1x]; simp)
  rw [← hV1x]
  rw [← hV1x] at HB C0 z0 N zN C1 z1
  clear hV1x
  (with_reducible refine (D2.out _).mono ?_)
  rintro e V2 ⟨rfl, hb⟩
  replace C0 := C0.keep hb (by omega)
  replace N := N.keep hb (by omega)
  replace z0 : w.heap.size + 1 ≤ V2.heap.size := by have := hb.size; omega
  replace zN : w.heap.size + 1 + 1 ≤ V2.heap.size := by have := hb.size; omega
  replace C1 := C1.keep hb (by omega)
  replace z1 : V1.heap.size + 1 ≤ V2.heap.size := by have := hb.size; omega
  replace HB := Lib.hid (HB.out.trans (hb.mono HB.out.size))
  clear hb
  have ba : Below V2.heap.size V2 (V2.alloc (.cells #[.bool yn, .string yi, .string yf] 23)) := (Below.refl _ _).alloc (Nat.le_refl _) _
  replace C0 := C0.keep ba (by omega)
  replace N := N.keep ba (by omega)
  replace z0 : w.heap.size + 1 ≤ (V2.alloc (.cells #[.bool yn, .string yi, .string yf] 23)).heap.size := by have := ba.size; omega
  replace zN : w.heap.size + 1 + 1 ≤ (V2.alloc (.cells #[.bool yn, .string yi, .string yf] 23)).heap.size := by have := ba.size; omega
  replace C1 := C1.keep ba (by omega)
  replace z1 : V1.heap.size + 1 ≤ (V2.alloc (.cells #[.bool yn, .string yi, .string yf] 23)).heap.size := by have := ba.size; omega
  replace HB := Lib.hid (HB.out.trans (ba.mono HB.out.size))
  clear ba
  have C2 : Cells3 (V2.alloc (.cells #[.bool yn, .string yi, .string yf] 23)) V2.heap.size (.bool yn) (.string yi) (.string yf) := (one_box V2 _ _ _ _).2.1
  have z2 : V2.heap.size + 1 ≤ (V2.alloc (.cells #[.bool yn, .string yi, .string yf] 23)).heap.size := by simp
  have o00 := C0.1
  have n0 := N.1
  have n1 := N.2
  have o10 := C1.1
  have o20 := C2.1
  have o01 := C0.2.1
  have o02 := C0.2.2
  have o11 := C1.2.1
  have o12 := C1.2.2
  have o21 := C2.2.1
  have o22 := C2.2.2
  go_wp2_with fail
  clear o00 o01 o02 o10 o11 o12 o20 o21 o22 n0 n1
  obtain ⟨V2x, hV2x⟩ : ∃ V2x, V2x = V2.alloc (.cells #[.bool yn, .string yi, .string yf] 23) := ⟨_, rfl⟩
  have HX := Lib.hid (show V2.heap.size + 1 = V2x.heap.size by rw [hV2x]; simp)
  rw [← hV2x]
  rw [← hV2x] at HB C0 z0 N zN C1 z1 C2 z2
  clear hV2x
  (with_reducible refine (DW.out _).mono ?_)
  rintro e V3 ⟨rfl, hb⟩
  replace C0 := C0.keep hb (by omega)
  replace N := N.keep hb (by omega)
  replace z0 : w.heap.size + 1 ≤ V3.heap.size := by have := hb.size; omega
  replace zN : w.heap.size + 1 + 1 ≤ V3.heap.size := by have := hb.size; omega
  replace C1 := C1.keep hb (by omega)
  replace z1 : V1.heap.size + 1 ≤ V3.heap.size := by have := hb.size; omega
  replace C2 := C2.keep hb (by omega)
  replace z2 : V2.heap.size + 1 ≤ V3.heap.size := by have := hb.size; omega
  replace HB := Lib.hid (HB.out.trans (hb.mono HB.out.size))
  clear hb
  have o00 := C0.1
  have n0 := N.1
  have n1 := N.2
  have o10 := C1.1
  have o20 := C2.1
  have o01 := C0.2.1
  have o02 := C0.2.2
  have o11 := C1.2.1
  have o12 := C1.2.2
  have o21 := C2.2.1
  have o22 := C2.2.2
  go_wp2
  go_ret
  exact ⟨rfl, HB.out⟩

set_option maxHeartbeats 4000000 in
set_option maxRecDepth 100000 in
theorem ragain_ok (an : Bool) (ai af : ByteArray) (mode least most : Int) (yn : Bool) (yi yf : ByteArray) (zn : Bool) (zi zf : ByteArray) (w : World) (H1 : (∀ wx : World, Calls Try.prog 30 #[(.agg #[.bool an, .string ai, .string af]), .int .i64 mode, .int .i64 least, .int .i64 most] wx fun e w' => e = .returned (.tuple #[(.agg #[.bool yn, .string yi, .string yf]), .int .i64 0]) ∧ Below wx.heap.size wx w')) (H2 : (∀ wx : World, Calls Try.prog 30 #[(.agg #[.bool yn, .string yi, .string yf]), .int .i64 8, .int .i64 least, .int .i64 most] wx fun e w' => e = .returned (.tuple #[(.agg #[.bool yn, .string yi, .string yf]), .int .i64 0]) ∧ Below wx.heap.size wx w')) (H3 : (∀ wx : World, Calls Try.prog 27 #[(.agg #[.bool an, .string ai, .string af]), .int .i64 mode, .int .i64 1, .int .i64 40] wx fun e w' => e = .returned (.tuple #[(.agg #[.bool zn, .string zi, .string zf]), .int .i64 0]) ∧ Below wx.heap.size wx w')) (H4 : (∀ wx : World, Calls Try.prog 27 #[(.agg #[.bool zn, .string zi, .string zf]), .int .i64 8, .int .i64 1, .int .i64 40] wx fun e w' => e = .returned (.tuple #[(.agg #[.bool zn, .string zi, .string zf]), .int .i64 0]) ∧ Below wx.heap.size wx w'))  :
    Calls Try.prog 11 #[(.agg #[.bool an, .string ai, .string af]), .int .i64 mode, .agg #[.int .i64 least, .int .i64 most]] w fun e w' => e = .returned (.bool true) ∧ Below w.heap.size w w' := by
  have D1 := Lib.hid H1
  have D2 := Lib.hid H2
  have D3 := Lib.hid H3
  have D4 := Lib.hid H4
  clear H1 H2 H3 H4
  have qy1 : (yn == yn) = true := beq_self_eq_true _
  have qy2 : (yi.toList == yi.toList) = true := beq_self_eq_true _
  have qy3 : (yf.toList == yf.toList) = true := beq_self_eq_true _
  have qz1 : (zn == zn) = true := beq_self_eq_true _
  have qz2 : (zi.toList == zi.toList) = true := beq_self_eq_true _
  have qz3 : (zf.toList == zf.toList) = true := beq_self_eq_true _
  have q0 : ((0 : Int) != 0) = false := by decide
  have DW := Lib.hid rawake_any
  go_enter Try.func11, Try.ntmps11
  go_wp2_with fail
  obtain ⟨W0, hW0⟩ : ∃ W0, W0 = ((w.alloc (.cells #[.bool an, .string ai, .string af] 23)).alloc (.cells #[.int .i64 least, .int .i64 most] 51)) := ⟨_, rfl⟩
  obtain ⟨hB, hz, C0, N⟩ : Below w.heap.size w W0 ∧ w.heap.size + 2 ≤ W0.heap.size ∧ Cells3 W0 w.heap.size (.bool an) (.string ai) (.string af) ∧ Cells2 W0 (w.heap.size + 1) (.int .i64 least) (.int .i64 most) := by rw [hW0]; exact ⟨below_two w _ _, box_and_two w _ _ _ _ _ _ _⟩
  have zN : w.heap.size + 1 + 1 ≤ W0.heap.size := by omega
  have z0 : w.heap.size + 1 ≤ W0.heap.size := by omega
  rw [← hW0]
  have HB := Lib.hid hB
  clear hW0 hB hz
  (with_reducible refine (D1.out _).mono ?_)
  rintro e V1 ⟨rfl, hb⟩
  replace C0 := C0.keep hb (by omega)
  replace N := N.keep hb (by omega)
  replace z0 : w.heap.size + 1 ≤ V1.heap.size := by have := hb.size; omega
  replace zN : w.heap.size + 1 + 1 ≤ V1.heap.size := by have := hb.size; omega
  replace HB := Lib.hid (HB.out.trans (hb.mono HB.out.size))
  clear hb
  have ba : Below V1.heap.size V1 (V1.alloc (.cells #[.bool yn, .string yi, .string yf] 23)) := (Below.refl _ _).alloc (Nat.le_refl _) _
  replace C0 := C0.keep ba (by omega)
  replace N := N.keep ba (by omega)
  replace z0 : w.heap.size + 1 ≤ (V1.alloc (.cells #[.bool yn, .string yi, .string yf] 23)).heap.size := by have := ba.size; omega
  replace zN : w.heap.size + 1 + 1 ≤ (V1.alloc (.cells #[.bool yn, .string yi, .string yf] 23)).heap.size := by have := ba.size; omega
  replace HB := Lib.hid (HB.out.trans (ba.mono HB.out.size))
  clear ba
  have C1 : Cells3 (V1.alloc (.cells #[.bool yn, .string yi, .string yf] 23)) V1.heap.size (.bool yn) (.string yi) (.string yf) := (one_box V1 _ _ _ _).2.1
  have z1 : V1.heap.size + 1 ≤ (V1.alloc (.cells #[.bool yn, .string yi, .string yf] 23)).heap.size := by simp
  have o00 := C0.1
  have n0 := N.1
  have n1 := N.2
  have o10 := C1.1
  have o01 := C0.2.1
  have o02 := C0.2.2
  have o11 := C1.2.1
  have o12 := C1.2.2
  go_wp2_with fail
  clear o00 o01 o02 o10 o11 o12 n0 n1
  obtain ⟨V1x, hV1x⟩ : ∃ V1x, V1x = V1.alloc (.cells #[.bool yn, .string yi, .string yf] 23) := ⟨_, rfl⟩
  have HX := Lib.hid (show V1.heap.size + 1 = V1x.heap.size by rw [hV1x]; simp)
  rw [← hV1x]
  rw [← hV1x] at HB C0 z0 N zN C1 z1
  clear hV1x
  (with_reducible refine (D2.out _).mono ?_)
  rintro e V2 ⟨rfl, hb⟩
  replace C0 := C0.keep hb (by omega)
  replace N := N.keep hb (by omega)
  replace z0 : w.heap.size + 1 ≤ V2.heap.size := by have := hb.size; omega
  replace zN : w.heap.size + 1 + 1 ≤ V2.heap.size := by have := hb.size; omega
  replace C1 := C1.keep hb (by omega)
  replace z1 : V1.heap.size + 1 ≤ V2.heap.size := by have := hb.size; omega
  replace HB := Lib.hid (HB.out.trans (hb.mono HB.out.size))
  clear hb
  have ba : Below V2.heap.size V2 (V2.alloc (.cells #[.bool yn, .string yi, .string yf] 23)) := (Below.refl _ _).alloc (Nat.le_refl _) _
  replace C0 := C0.keep ba (by omega)
  replace N := N.keep ba (by omega)
  replace z0 : w.heap.size + 1 ≤ (V2.alloc (.cells #[.bool yn, .string yi, .string yf] 23)).heap.size := by have := ba.size; omega
  replace zN : w.heap.size + 1 + 1 ≤ (V2.alloc (.cells #[.bool yn, .string yi, .string yf] 23)).heap.size := by have := ba.size; omega
  replace C1 := C1.keep ba (by omega)
  replace z1 : V1.heap.size + 1 ≤ (V2.alloc (.cells #[.bool yn, .string yi, .string yf] 23)).heap.size := by have := ba.size; omega
  replace HB := Lib.hid (HB.out.trans (ba.mono HB.out.size))
  clear ba
  have C2 : Cells3 (V2.alloc (.cells #[.bool yn, .string yi, .string yf] 23)) V2.heap.size (.bool yn) (.string yi) (.string yf) := (one_box V2 _ _ _ _).2.1
  have z2 : V2.heap.size + 1 ≤ (V2.alloc (.cells #[.bool yn, .string yi, .string yf] 23)).heap.size := by simp
  have o00 := C0.1
  have n0 := N.1
  have n1 := N.2
  have o10 := C1.1
  have o20 := C2.1
  have o01 := C0.2.1
  have o02 := C0.2.2
  have o11 := C1.2.1
  have o12 := C1.2.2
  have o21 := C2.2.1
  have o22 := C2.2.2
  go_wp2_with fail
  clear o00 o01 o02 o10 o11 o12 o20 o21 o22 n0 n1
  obtain ⟨V2x, hV2x⟩ : ∃ V2x, V2x = V2.alloc (.cells #[.bool yn, .string yi, .string yf] 23) := ⟨_, rfl⟩
  have HX := Lib.hid (show V2.heap.size + 1 = V2x.heap.size by rw [hV2x]; simp)
  rw [← hV2x]
  rw [← hV2x] at HB C0 z0 N zN C1 z1 C2 z2
  clear hV2x
  (with_reducible refine (D3.out _).mono ?_)
  rintro e V3 ⟨rfl, hb⟩
  replace C0 := C0.keep hb (by omega)
  replace N := N.keep hb (by omega)
  replace z0 : w.heap.size + 1 ≤ V3.heap.size := by have := hb.size; omega
  replace zN : w.heap.size + 1 + 1 ≤ V3.heap.size := by have := hb.size; omega
  replace C1 := C1.keep hb (by omega)
  replace z1 : V1.heap.size + 1 ≤ V3.heap.size := by have := hb.size; omega
  replace C2 := C2.keep hb (by omega)
  replace z2 : V2.heap.size + 1 ≤ V3.heap.size := by have := hb.size; omega
  replace HB := Lib.hid (HB.out.trans (hb.mono HB.out.size))
  clear hb
  have ba : Below V3.heap.size V3 (V3.alloc (.cells #[.bool zn, .string zi, .string zf] 23)) := (Below.refl _ _).alloc (Nat.le_refl _) _
  replace C0 := C0.keep ba (by omega)
  replace N := N.keep ba (by omega)
  replace z0 : w.heap.size + 1 ≤ (V3.alloc (.cells #[.bool zn, .string zi, .string zf] 23)).heap.size := by have := ba.size; omega
  replace zN : w.heap.size + 1 + 1 ≤ (V3.alloc (.cells #[.bool zn, .string zi, .string zf] 23)).heap.size := by have := ba.size; omega
  replace C1 := C1.keep ba (by omega)
  replace z1 : V1.heap.size + 1 ≤ (V3.alloc (.cells #[.bool zn, .string zi, .string zf] 23)).heap.size := by have := ba.size; omega
  replace C2 := C2.keep ba (by omega)
  replace z2 : V2.heap.size + 1 ≤ (V3.alloc (.cells #[.bool zn, .string zi, .string zf] 23)).heap.size := by have := ba.size; omega
  replace HB := Lib.hid (HB.out.trans (ba.mono HB.out.size))
  clear ba
  have C3 : Cells3 (V3.alloc (.cells #[.bool zn, .string zi, .string zf] 23)) V3.heap.size (.bool zn) (.string zi) (.string zf) := (one_box V3 _ _ _ _).2.1
  have z3 : V3.heap.size + 1 ≤ (V3.alloc (.cells #[.bool zn, .string zi, .string zf] 23)).heap.size := by simp
  have o00 := C0.1
  have n0 := N.1
  have n1 := N.2
  have o10 := C1.1
  have o20 := C2.1
  have o30 := C3.1
  have o01 := C0.2.1
  have o02 := C0.2.2
  have o11 := C1.2.1
  have o12 := C1.2.2
  have o21 := C2.2.1
  have o22 := C2.2.2
  have o31 := C3.2.1
  have o32 := C3.2.2
  go_wp2_with fail
  clear o00 o01 o02 o10 o11 o12 o20 o21 o22 o30 o31 o32 n0 n1
  obtain ⟨V3x, hV3x⟩ : ∃ V3x, V3x = V3.alloc (.cells #[.bool zn, .string zi, .string zf] 23) := ⟨_, rfl⟩
  have HX := Lib.hid (show V3.heap.size + 1 = V3x.heap.size by rw [hV3x]; simp)
  rw [← hV3x]
  rw [← hV3x] at HB C0 z0 N zN C1 z1 C2 z2 C3 z3
  clear hV3x
  (with_reducible refine (D4.out _).mono ?_)
  rintro e V4 ⟨rfl, hb⟩
  replace C0 := C0.keep hb (by omega)
  replace N := N.keep hb (by omega)
  replace z0 : w.heap.size + 1 ≤ V4.heap.size := by have := hb.size; omega
  replace zN : w.heap.size + 1 + 1 ≤ V4.heap.size := by have := hb.size; omega
  replace C1 := C1.keep hb (by omega)
  replace z1 : V1.heap.size + 1 ≤ V4.heap.size := by have := hb.size; omega
  replace C2 := C2.keep hb (by omega)
  replace z2 : V2.heap.size + 1 ≤ V4.heap.size := by have := hb.size; omega
  replace C3 := C3.keep hb (by omega)
  replace z3 : V3.heap.size + 1 ≤ V4.heap.size := by have := hb.size; omega
  replace HB := Lib.hid (HB.out.trans (hb.mono HB.out.size))
  clear hb
  have ba : Below V4.heap.size V4 (V4.alloc (.cells #[.bool zn, .string zi, .string zf] 23)) := (Below.refl _ _).alloc (Nat.le_refl _) _
  replace C0 := C0.keep ba (by omega)
  replace N := N.keep ba (by omega)
  replace z0 : w.heap.size + 1 ≤ (V4.alloc (.cells #[.bool zn, .string zi, .string zf] 23)).heap.size := by have := ba.size; omega
  replace zN : w.heap.size + 1 + 1 ≤ (V4.alloc (.cells #[.bool zn, .string zi, .string zf] 23)).heap.size := by have := ba.size; omega
  replace C1 := C1.keep ba (by omega)
  replace z1 : V1.heap.size + 1 ≤ (V4.alloc (.cells #[.bool zn, .string zi, .string zf] 23)).heap.size := by have := ba.size; omega
  replace C2 := C2.keep ba (by omega)
  replace z2 : V2.heap.size + 1 ≤ (V4.alloc (.cells #[.bool zn, .string zi, .string zf] 23)).heap.size := by have := ba.size; omega
  replace C3 := C3.keep ba (by omega)
  replace z3 : V3.heap.size + 1 ≤ (V4.alloc (.cells #[.bool zn, .string zi, .string zf] 23)).heap.size := by have := ba.size; omega
  replace HB := Lib.hid (HB.out.trans (ba.mono HB.out.size))
  clear ba
  have C4 : Cells3 (V4.alloc (.cells #[.bool zn, .string zi, .string zf] 23)) V4.heap.size (.bool zn) (.string zi) (.string zf) := (one_box V4 _ _ _ _).2.1
  have z4 : V4.heap.size + 1 ≤ (V4.alloc (.cells #[.bool zn, .string zi, .string zf] 23)).heap.size := by simp
  have o00 := C0.1
  have n0 := N.1
  have n1 := N.2
  have o10 := C1.1
  have o20 := C2.1
  have o30 := C3.1
  have o40 := C4.1
  have o01 := C0.2.1
  have o02 := C0.2.2
  have o11 := C1.2.1
  have o12 := C1.2.2
  have o21 := C2.2.1
  have o22 := C2.2.2
  have o31 := C3.2.1
  have o32 := C3.2.2
  have o41 := C4.2.1
  have o42 := C4.2.2
  go_wp2_with fail
  clear o00 o01 o02 o10 o11 o12 o20 o21 o22 o30 o31 o32 o40 o41 o42 n0 n1
  obtain ⟨V4x, hV4x⟩ : ∃ V4x, V4x = V4.alloc (.cells #[.bool zn, .string zi, .string zf] 23) := ⟨_, rfl⟩
  have HX := Lib.hid (show V4.heap.size + 1 = V4x.heap.size by rw [hV4x]; simp)
  rw [← hV4x]
  rw [← hV4x] at HB C0 z0 N zN C1 z1 C2 z2 C3 z3 C4 z4
  clear hV4x
  (with_reducible refine (DW.out _).mono ?_)
  rintro e V5 ⟨rfl, hb⟩
  replace C0 := C0.keep hb (by omega)
  replace N := N.keep hb (by omega)
  replace z0 : w.heap.size + 1 ≤ V5.heap.size := by have := hb.size; omega
  replace zN : w.heap.size + 1 + 1 ≤ V5.heap.size := by have := hb.size; omega
  replace C1 := C1.keep hb (by omega)
  replace z1 : V1.heap.size + 1 ≤ V5.heap.size := by have := hb.size; omega
  replace C2 := C2.keep hb (by omega)
  replace z2 : V2.heap.size + 1 ≤ V5.heap.size := by have := hb.size; omega
  replace C3 := C3.keep hb (by omega)
  replace z3 : V3.heap.size + 1 ≤ V5.heap.size := by have := hb.size; omega
  replace C4 := C4.keep hb (by omega)
  replace z4 : V4.heap.size + 1 ≤ V5.heap.size := by have := hb.size; omega
  replace HB := Lib.hid (HB.out.trans (hb.mono HB.out.size))
  clear hb
  have o00 := C0.1
  have n0 := N.1
  have n1 := N.2
  have o10 := C1.1
  have o20 := C2.1
  have o30 := C3.1
  have o40 := C4.1
  have o01 := C0.2.1
  have o02 := C0.2.2
  have o11 := C1.2.1
  have o12 := C1.2.2
  have o21 := C2.2.1
  have o22 := C2.2.2
  have o31 := C3.2.1
  have o32 := C3.2.2
  have o41 := C4.2.1
  have o42 := C4.2.2
  go_wp2
  go_ret
  exact ⟨rfl, HB.out⟩
end Go.Proofs.Ytcdmanhhddcmcaa
