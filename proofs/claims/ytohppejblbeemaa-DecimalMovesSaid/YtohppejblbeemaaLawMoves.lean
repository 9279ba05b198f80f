/- DecimalMoves: Trim, Pad and Shift are the reference's. -/
import Derived.Test.YtohppejblbeemaaDFine
import Derived.Test.YtohppejblbeemaaDSum
namespace Go.Proofs.Ytohppejblbeemaa
open Go.RowKit

set_option maxHeartbeats 1000000 in
set_option maxRecDepth 100000 in
theorem told_same (xn : Bool) (xi xf : ByteArray) (c : Int) (w : World) :
    Calls Try.prog 25 #[(.agg #[.bool xn, .string xi, .string xf]), .int .i64 c, (.agg #[.bool xn, .string xi, .string xf]), .int .i64 c] w fun e w' => e = .returned (.bool true) ∧ Below w.heap.size w w' := by
  have q1 : (xn == xn) = true := beq_self_eq_true _
  have q2 : (xi.toList == xi.toList) = true := beq_self_eq_true _
  have q3 : (xf.toList == xf.toList) = true := beq_self_eq_true _
  have q4 : (c == c) = true := beq_self_eq_true _
  go_enter Try.func25, Try.ntmps25
  go_wp2
  go_ret
  exact ⟨rfl, below_two w _ _⟩

theorem set_box {W : World} {b : Nat} {x0 x1 x2 : Value} (h : Cells3 W b x0 x1 x2) (y0 y1 y2 : Value) : Cells3 (((W.setCell ⟨b, 0, none⟩ y0).setCell ⟨b, 1, none⟩ y1).setCell ⟨b, 2, none⟩ y2) b y0 y1 y2 :=
  ⟨cell_set_far _ _ _ _ _ _ (by decide) (cell_set_far _ _ _ _ _ _ (by decide) (cell_set_same _ _ _ _ h.1)), cell_set_far _ _ _ _ _ _ (by decide) (cell_set_same _ _ _ _ (cell_set_far _ _ _ _ _ _ (by decide) h.2.1)), cell_set_same _ _ _ _ (cell_set_far _ _ _ _ _ _ (by decide) (cell_set_far _ _ _ _ _ _ (by decide) h.2.2))⟩
theorem far_box {W : World} {b c : Nat} {x0 x1 x2 : Value} (h : Cells3 W b x0 x1 x2) (hne : b ≠ c) (y0 y1 y2 : Value) : Cells3 (((W.setCell ⟨c, 0, none⟩ y0).setCell ⟨c, 1, none⟩ y1).setCell ⟨c, 2, none⟩ y2) b x0 x1 x2 :=
  ⟨(far3 _ _ _ _ _ _ _ hne).trans h.1, (far3 _ _ _ _ _ _ _ hne).trans h.2.1, (far3 _ _ _ _ _ _ _ hne).trans h.2.2⟩

set_option maxHeartbeats 4000000 in
set_option maxRecDepth 100000 in
theorem moves_core (dn tn pn sn : Bool) (di df ti tf pi pf si sf : ByteArray) (k c1 c2 c3 : Int) (w : World) (H1 : ∀ wx : World, Calls Try.prog 34 #[(.agg #[.bool dn, .string di, .string df])] wx fun e w' => e = .returned (.tuple #[(.agg #[.bool tn, .string ti, .string tf]), .int .i64 c1]) ∧ Below wx.heap.size wx w') (H2 : ∀ wx : World, Calls Try.prog 35 #[(.agg #[.bool dn, .string di, .string df])] wx fun e w' => e = .returned (.tuple #[(.agg #[.bool tn, .string ti, .string tf]), .int .i64 c1]) ∧ Below wx.heap.size wx w') (H3 : ∀ wx : World, Calls Try.prog 36 #[(.agg #[.bool dn, .string di, .string df]), .int .i64 k] wx fun e w' => e = .returned (.tuple #[(.agg #[.bool pn, .string pi, .string pf]), .int .i64 c2]) ∧ Below wx.heap.size wx w') (H4 : ∀ wx : World, Calls Try.prog 37 #[(.agg #[.bool dn, .string di, .string df]), .int .i64 k] wx fun e w' => e = .returned (.tuple #[(.agg #[.bool pn, .string pi, .string pf]), .int .i64 c2]) ∧ Below wx.heap.size wx w') (H5 : ∀ wx : World, Calls Try.prog 38 #[(.agg #[.bool dn, .string di, .string df]), .int .i64 k] wx fun e w' => e = .returned (.tuple #[(.agg #[.bool sn, .string si, .string sf]), .int .i64 c3]) ∧ Below wx.heap.size wx w') (H6 : ∀ wx : World, Calls Try.prog 39 #[(.agg #[.bool dn, .string di, .string df]), .int .i64 k] wx fun e w' => e = .returned (.tuple #[(.agg #[.bool sn, .string si, .string sf]), .int .i64 c3]) ∧ Below wx.heap.size wx w') :
    Calls Try.prog 7 #[(.agg #[.bool dn, .string di, .string df]), .int .i64 k] w fun e w' => e = .returned (.bool true) ∧ Below w.heap.size w w' := by
  have DW := Lib.hid awake_any
  have DT := Lib.hid told_same
  have D1 := Lib.hid H1
  have D2 := Lib.hid H2
  have D3 := Lib.hid H3
  have D4 := Lib.hid H4
  have D5 := Lib.hid H5
  have D6 := Lib.hid H6
  clear H1 H2 H3 H4 H5 H6
  go_enter Try.func7, Try.ntmps7
  go_wp2_with fail
  obtain ⟨W0, hW0⟩ : ∃ W0, W0 = (w.alloc (.cells #[.bool dn, .string di, .string df] 23)) := ⟨_, rfl⟩
  obtain ⟨hB, hz, C0, _⟩ : Below w.heap.size w W0 ∧ w.heap.size + 1 ≤ W0.heap.size ∧ Cells3 W0 w.heap.size (.bool dn) (.string di) (.string df) ∧ ∀ i, W0.frozen? ⟨w.heap.size, i, none⟩ = false := by rw [hW0]; exact ⟨(Below.refl _ w).alloc (Nat.le_refl _) _, one_box w _ _ _ _⟩
  have z0 : w.heap.size + 1 ≤ W0.heap.size := by omega
  rw [← hW0]
  have HB := Lib.hid hB
  clear hW0 hB hz
  (with_reducible refine (D1.out _).mono ?_)
  rintro e V1 ⟨rfl, hb⟩
  replace C0 := C0.keep hb (by omega)
  replace z0 : w.heap.size + 1 ≤ V1.heap.size := by have := hb.size; omega
  replace HB := Lib.hid (HB.out.trans (hb.mono HB.out.size))
  clear hb
  have y1_0 := z0
  have ba : Below V1.heap.size V1 (V1.alloc (.cells #[.bool tn, .string ti, .string tf] 23)) := (Below.refl _ _).alloc (Nat.le_refl _) _
  replace C0 := C0.keep ba (by omega)
  replace z0 : w.heap.size + 1 ≤ (V1.alloc (.cells #[.bool tn, .string ti, .string tf] 23)).heap.size := by have := ba.size; omega
  replace HB := Lib.hid (HB.out.trans (ba.mono HB.out.size))
  clear ba
  have C1 : Cells3 (V1.alloc (.cells #[.bool tn, .string ti, .string tf] 23)) V1.heap.size (.bool tn) (.string ti) (.string tf) := (one_box V1 _ _ _ _).2.1
  have z1 : V1.heap.size + 1 ≤ (V1.alloc (.cells #[.bool tn, .string ti, .string tf] 23)).heap.size := by simp
  have o00 := C0.1
  have o10 := C1.1
  have o01 := C0.2.1
  have o02 := C0.2.2
  have o11 := C1.2.1
  have o12 := C1.2.2
  have F1 := Lib.hid (one_box V1 (.bool tn) (.string ti) (.string tf) 23).2.2
  go_wp2_with fail
  clear o00 o01 o02 o10 o11 o12
  obtain ⟨V1x, hV1x⟩ : ∃ V1x, V1x = V1.alloc (.cells #[.bool tn, .string ti, .string tf] 23) := ⟨_, rfl⟩
  have HX := Lib.hid (show V1.heap.size + 1 = V1x.heap.size by rw [hV1x]; simp)
  rw [← hV1x]
  rw [← hV1x] at HB C0 z0 C1 z1 F1
  clear hV1x
  (with_reducible refine (D2.out _).mono ?_)
  rintro e V2 ⟨rfl, hb⟩
  replace F1 := Lib.hid (frozen_keep F1.out hb (by omega))
  replace C0 := C0.keep hb (by omega)
  replace z0 : w.heap.size + 1 ≤ V2.heap.size := by have := hb.size; omega
  replace C1 := C1.keep hb (by omega)
  replace z1 : V1.heap.size + 1 ≤ V2.heap.size := by have := hb.size; omega
  replace HB := Lib.hid (HB.out.trans (hb.mono HB.out.size))
  clear hb
  have y2_1 := z1
  have y2_0 := z0
  have ba : Below V2.heap.size V2 (V2.alloc (.cells #[.bool tn, .string ti, .string tf] 23)) := (Below.refl _ _).alloc (Nat.le_refl _) _
  replace C0 := C0.keep ba (by omega)
  replace z0 : w.heap.size + 1 ≤ (V2.alloc (.cells #[.bool tn, .string ti, .string tf] 23)).heap.size := by have := ba.size; omega
  replace C1 := C1.keep ba (by omega)
  replace z1 : V1.heap.size + 1 ≤ (V2.alloc (.cells #[.bool tn, .string ti, .string tf] 23)).heap.size := by have := ba.size; omega
  replace HB := Lib.hid (HB.out.trans (ba.mono HB.out.size))
  clear ba
  have C2 : Cells3 (V2.alloc (.cells #[.bool tn, .string ti, .string tf] 23)) V2.heap.size (.bool tn) (.string ti) (.string tf) := (one_box V2 _ _ _ _).2.1
  have z2 : V2.heap.size + 1 ≤ (V2.alloc (.cells #[.bool tn, .string ti, .string tf] 23)).heap.size := by simp
  have o00 := C0.1
  have o10 := C1.1
  have o20 := C2.1
  have o01 := C0.2.1
  have o02 := C0.2.2
  have o11 := C1.2.1
  have o12 := C1.2.2
  have o21 := C2.2.1
  have o22 := C2.2.2
  replace F1 := Lib.hid (frozen_keep F1.out ((Below.refl _ _).alloc (Nat.le_refl _) (.cells #[.bool tn, .string ti, .string tf] 23)) (by omega))
  have F2 := Lib.hid (one_box V2 (.bool tn) (.string ti) (.string tf) 23).2.2
  go_wp2_with fail
  clear o00 o01 o02 o10 o11 o12 o20 o21 o22
  obtain ⟨V2x, hV2x⟩ : ∃ V2x, V2x = V2.alloc (.cells #[.bool tn, .string ti, .string tf] 23) := ⟨_, rfl⟩
  have HX := Lib.hid (show V2.heap.size + 1 = V2x.heap.size by rw [hV2x]; simp)
  rw [← hV2x]
  rw [← hV2x] at HB C0 z0 C1 z1 C2 z2 F1 F2
  clear hV2x
  (with_reducible refine (DT.out _ _ _ _ _).mono ?_)
  rintro e V3 ⟨rfl, hb⟩
  replace F1 := Lib.hid (frozen_keep F1.out hb (by omega))
  replace F2 := Lib.hid (frozen_keep F2.out hb (by omega))
  replace C0 := C0.keep hb (by omega)
  replace z0 : w.heap.size + 1 ≤ V3.heap.size := by have := hb.size; omega
  replace C1 := C1.keep hb (by omega)
  replace z1 : V1.heap.size + 1 ≤ V3.heap.size := by have := hb.size; omega
  replace C2 := C2.keep hb (by omega)
  replace z2 : V2.heap.size + 1 ≤ V3.heap.size := by have := hb.size; omega
  replace HB := Lib.hid (HB.out.trans (hb.mono HB.out.size))
  clear hb
  have o00 := C0.1
  have o10 := C1.1
  have o20 := C2.1
  have o01 := C0.2.1
  have o02 := C0.2.2
  have o11 := C1.2.1
  have o12 := C1.2.2
  have o21 := C2.2.1
  have o22 := C2.2.2
  go_wp2_with fail
  clear o00 o01 o02 o10 o11 o12 o20 o21 o22
  (with_reducible refine (DW.out _).mono ?_)
  rintro e V4 ⟨rfl, hb⟩
  replace F1 := Lib.hid (frozen_keep F1.out hb (by omega))
  replace F2 := Lib.hid (frozen_keep F2.out hb (by omega))
  replace C0 := C0.keep hb (by omega)
  replace z0 : w.heap.size + 1 ≤ V4.heap.size := by have := hb.size; omega
  replace C1 := C1.keep hb (by omega)
  replace z1 : V1.heap.size + 1 ≤ V4.heap.size := by have := hb.size; omega
  replace C2 := C2.keep hb (by omega)
  replace z2 : V2.heap.size + 1 ≤ V4.heap.size := by have := hb.size; omega
  replace HB := Lib.hid (HB.out.trans (hb.mono HB.out.size))
  clear hb
  have o00 := C0.1
  have o10 := C1.1
  have o20 := C2.1
  have o01 := C0.2.1
  have o02 := C0.2.2
  have o11 := C1.2.1
  have o12 := C1.2.2
  have o21 := C2.2.1
  have o22 := C2.2.2
  go_wp2_with fail
  clear o00 o01 o02 o10 o11 o12 o20 o21 o22
  (with_reducible refine (D3.out _).mono ?_)
  rintro e V5 ⟨rfl, hb⟩
  replace F1 := Lib.hid (frozen_keep F1.out hb (by omega))
  replace F2 := Lib.hid (frozen_keep F2.out hb (by omega))
  replace C0 := C0.keep hb (by omega)
  replace z0 : w.heap.size + 1 ≤ V5.heap.size := by have := hb.size; omega
  replace C1 := C1.keep hb (by omega)
  replace z1 : V1.heap.size + 1 ≤ V5.heap.size := by have := hb.size; omega
  replace C2 := C2.keep hb (by omega)
  replace z2 : V2.heap.size + 1 ≤ V5.heap.size := by have := hb.size; omega
  replace HB := Lib.hid (HB.out.trans (hb.mono HB.out.size))
  clear hb
  have o00 := C0.1
  have o10 := C1.1
  have o20 := C2.1
  have o01 := C0.2.1
  have o02 := C0.2.2
  have o11 := C1.2.1
  have o12 := C1.2.2
  have o21 := C2.2.1
  have o22 := C2.2.2
  have f1 := F1.out
  have f2 := F2.out
  go_wp2_with fail
  clear f1
  clear f2
  clear o00 o01 o02 o10 o11 o12 o20 o21 o22
  obtain ⟨V5s, hV5s⟩ : ∃ X, X = ((V5.setCell ⟨V1.heap.size, 0, none⟩ (.bool pn)).setCell ⟨V1.heap.size, 1, none⟩ (.string pi)).setCell ⟨V1.heap.size, 2, none⟩ (.string pf) := ⟨_, rfl⟩
  have C0n := far_box C0 (show w.heap.size ≠ V1.heap.size by omega) (.bool pn) (.string pi) (.string pf)
  have C1n := set_box C1 (.bool pn) (.string pi) (.string pf)
  have C2n := far_box C2 (show V2.heap.size ≠ V1.heap.size by omega) (.bool pn) (.string pi) (.string pf)
  have HBn := Lib.hid (res_below HB.out (show w.heap.size ≤ V1.heap.size by omega) (.bool pn) (.string pi) (.string pf))
  have hsz : V5s.heap.size = V5.heap.size := by rw [hV5s]; simp [World.setCell]
  replace F1 : Hid (∀ i, V5s.frozen? ⟨V1.heap.size, i, none⟩ = false) := by have t := F1.out; show ∀ i, _; rw [hV5s]; intro i; simpa using t i
  replace F2 : Hid (∀ i, V5s.frozen? ⟨V2.heap.size, i, none⟩ = false) := by have t := F2.out; show ∀ i, _; rw [hV5s]; intro i; simpa using t i
  rw [← hV5s]
  rw [← hV5s] at HBn C0n C1n C2n
  clear HB C0 C1 C2 hV5s
  have HB := HBn
  clear HBn
  have C0 := C0n
  clear C0n
  replace z0 : w.heap.size + 1 ≤ V5s.heap.size := by omega
  have C1 := C1n
  clear C1n
  replace z1 : V1.heap.size + 1 ≤ V5s.heap.size := by omega
  have C2 := C2n
  clear C2n
  replace z2 : V2.heap.size + 1 ≤ V5s.heap.size := by omega
  clear hsz
  (with_reducible refine (D4.out _).mono ?_)
  rintro e V6 ⟨rfl, hb⟩
  replace F1 := Lib.hid (frozen_keep F1.out hb (by omega))
  replace F2 := Lib.hid (frozen_keep F2.out hb (by omega))
  replace C0 := C0.keep hb (by omega)
  replace z0 : w.heap.size + 1 ≤ V6.heap.size := by have := hb.size; omega
  replace C1 := C1.keep hb (by omega)
  replace z1 : V1.heap.size + 1 ≤ V6.heap.size := by have := hb.size; omega
  replace C2 := C2.keep hb (by omega)
  replace z2 : V2.heap.size + 1 ≤ V6.heap.size := by have := hb.size; omega
  replace HB := Lib.hid (HB.out.trans (hb.mono HB.out.size))
  clear hb
  have o00 := C0.1
  have o10 := C1.1
  have o20 := C2.1
  have o01 := C0.2.1
  have o02 := C0.2.2
  have o11 := C1.2.1
  have o12 := C1.2.2
  have o21 := C2.2.1
  have o22 := C2.2.2
  have f1 := F1.out
  have f2 := F2.out
  go_wp2_with fail
  clear f1
  clear f2
  clear o00 o01 o02 o10 o11 o12 o20 o21 o22
  obtain ⟨V6s, hV6s⟩ : ∃ X, X = ((V6.setCell ⟨V2.heap.size, 0, none⟩ (.bool pn)).setCell ⟨V2.heap.size, 1, none⟩ (.string pi)).setCell ⟨V2.heap.size, 2, none⟩ (.string pf) := ⟨_, rfl⟩
  have C0n := far_box C0 (show w.heap.size ≠ V2.heap.size by omega) (.bool pn) (.string pi) (.string pf)
  have C1n := far_box C1 (show V1.heap.size ≠ V2.heap.size by omega) (.bool pn) (.string pi) (.string pf)
  have C2n := set_box C2 (.bool pn) (.string pi) (.string pf)
  have HBn := Lib.hid (res_below HB.out (show w.heap.size ≤ V2.heap.size by omega) (.bool pn) (.string pi) (.string pf))
  have hsz : V6s.heap.size = V6.heap.size := by rw [hV6s]; simp [World.setCell]
  replace F1 : Hid (∀ i, V6s.frozen? ⟨V1.heap.size, i, none⟩ = false) := by have t := F1.out; show ∀ i, _; rw [hV6s]; intro i; simpa using t i
  replace F2 : Hid (∀ i, V6s.frozen? ⟨V2.heap.size, i, none⟩ = false) := by have t := F2.out; show ∀ i, _; rw [hV6s]; intro i; simpa using t i
  rw [← hV6s]
  rw [← hV6s] at HBn C0n C1n C2n
  clear HB C0 C1 C2 hV6s
  have HB := HBn
  clear HBn
  have C0 := C0n
  clear C0n
  replace z0 : w.heap.size + 1 ≤ V6s.heap.size := by omega
  have C1 := C1n
  clear C1n
  replace z1 : V1.heap.size + 1 ≤ V6s.heap.size := by omega
  have C2 := C2n
  clear C2n
  replace z2 : V2.heap.size + 1 ≤ V6s.heap.size := by omega
  clear hsz
  (with_reducible refine (DT.out _ _ _ _ _).mono ?_)
  rintro e V7 ⟨rfl, hb⟩
  replace F1 := Lib.hid (frozen_keep F1.out hb (by omega))
  replace F2 := Lib.hid (frozen_keep F2.out hb (by omega))
  replace C0 := C0.keep hb (by omega)
  replace z0 : w.heap.size + 1 ≤ V7.heap.size := by have := hb.size; omega
  replace C1 := C1.keep hb (by omega)
  replace z1 : V1.heap.size + 1 ≤ V7.heap.size := by have := hb.size; omega
  replace C2 := C2.keep hb (by omega)
  replace z2 : V2.heap.size + 1 ≤ V7.heap.size := by have := hb.size; omega
  replace HB := Lib.hid (HB.out.trans (hb.mono HB.out.size))
  clear hb
  have o00 := C0.1
  have o10 := C1.1
  have o20 := C2.1
  have o01 := C0.2.1
  have o02 := C0.2.2
  have o11 := C1.2.1
  have o12 := C1.2.2
  have o21 := C2.2.1
  have o22 := C2.2.2
  go_wp2_with fail
  clear o00 o01 o02 o10 o11 o12 o20 o21 o22
  (with_reducible refine (D5.out _).mono ?_)
  rintro e V8 ⟨rfl, hb⟩
  replace F1 := Lib.hid (frozen_keep F1.out hb (by omega))
  replace F2 := Lib.hid (frozen_keep F2.out hb (by omega))
  replace C0 := C0.keep hb (by omega)
  replace z0 : w.heap.size + 1 ≤ V8.heap.size := by have := hb.size; omega
  replace C1 := C1.keep hb (by omega)
  replace z1 : V1.heap.size + 1 ≤ V8.heap.size := by have := hb.size; omega
  replace C2 := C2.keep hb (by omega)
  replace z2 : V2.heap.size + 1 ≤ V8.heap.size := by have := hb.size; omega
  replace HB := Lib.hid (HB.out.trans (hb.mono HB.out.size))
  clear hb
  have o00 := C0.1
  have o10 := C1.1
  have o20 := C2.1
  have o01 := C0.2.1
  have o02 := C0.2.2
  have o11 := C1.2.1
  have o12 := C1.2.2
  have o21 := C2.2.1
  have o22 := C2.2.2
  have f1 := F1.out
  have f2 := F2.out
  go_wp2_with fail
  clear f1
  clear f2
  clear o00 o01 o02 o10 o11 o12 o20 o21 o22
  obtain ⟨V8s, hV8s⟩ : ∃ X, X = ((V8.setCell ⟨V1.heap.size, 0, none⟩ (.bool sn)).setCell ⟨V1.heap.size, 1, none⟩ (.string si)).setCell ⟨V1.heap.size, 2, none⟩ (.string sf) := ⟨_, rfl⟩
  have C0n := far_box C0 (show w.heap.size ≠ V1.heap.size by omega) (.bool sn) (.string si) (.string sf)
  have C1n := set_box C1 (.bool sn) (.string si) (.string sf)
  have C2n := far_box C2 (show V2.heap.size ≠ V1.heap.size by omega) (.bool sn) (.string si) (.string sf)
  have HBn := Lib.hid (res_below HB.out (show w.heap.size ≤ V1.heap.size by omega) (.bool sn) (.string si) (.string sf))
  have hsz : V8s.heap.size = V8.heap.size := by rw [hV8s]; simp [World.setCell]
  replace F1 : Hid (∀ i, V8s.frozen? ⟨V1.heap.size, i, none⟩ = false) := by have t := F1.out; show ∀ i, _; rw [hV8s]; intro i; simpa using t i
  replace F2 : Hid (∀ i, V8s.frozen? ⟨V2.heap.size, i, none⟩ = false) := by have t := F2.out; show ∀ i, _; rw [hV8s]; intro i; simpa using t i
  rw [← hV8s]
  rw [← hV8s] at HBn C0n C1n C2n
  clear HB C0 C1 C2 hV8s
  have HB := HBn
  clear HBn
  have C0 := C0n
  clear C0n
  replace z0 : w.heap.size + 1 ≤ V8s.heap.size := by omega
  have C1 := C1n
  clear C1n
  replace z1 : V1.heap.size + 1 ≤ V8s.heap.size := by omega
  have C2 := C2n
  clear C2n
  replace z2 : V2.heap.size + 1 ≤ V8s.heap.size := by omega
  clear hsz
  (with_reducible refine (D6.out _).mono ?_)
  rintro e V9 ⟨rfl, hb⟩
  replace F1 := Lib.hid (frozen_keep F1.out hb (by omega))
  replace F2 := Lib.hid (frozen_keep F2.out hb (by omega))
  replace C0 := C0.keep hb (by omega)
  replace z0 : w.heap.size + 1 ≤ V9.heap.size := by have := hb.size; omega
  replace C1 := C1.keep hb (by omega)
  replace z1 : V1.heap.size + 1 ≤ V9.heap.size := by have := hb.size; omega
  replace C2 := C2.keep hb (by omega)
  replace z2 : V2.heap.size + 1 ≤ V9.heap.size := by have := hb.size; omega
  replace HB := Lib.hid (HB.out.trans (hb.mono HB.out.size))
  clear hb
  have o00 := C0.1
  have o10 := C1.1
  have o20 := C2.1
  have o01 := C0.2.1
  have o02 := C0.2.2
  have o11 := C1.2.1
  have o12 := C1.2.2
  have o21 := C2.2.1
  have o22 := C2.2.2
  have f1 := F1.out
  have f2 := F2.out
  go_wp2_with fail
  clear f1
  clear f2
  clear o00 o01 o02 o10 o11 o12 o20 o21 o22
  obtain ⟨V9s, hV9s⟩ : ∃ X, X = ((V9.setCell ⟨V2.heap.size, 0, none⟩ (.bool sn)).setCell ⟨V2.heap.size, 1, none⟩ (.string si)).setCell ⟨V2.heap.size, 2, none⟩ (.string sf) := ⟨_, rfl⟩
  have C0n := far_box C0 (show w.heap.size ≠ V2.heap.size by omega) (.bool sn) (.string si) (.string sf)
  have C1n := far_box C1 (show V1.heap.size ≠ V2.heap.size by omega) (.bool sn) (.string si) (.string sf)
  have C2n := set_box C2 (.bool sn) (.string si) (.string sf)
  have HBn := Lib.hid (res_below HB.out (show w.heap.size ≤ V2.heap.size by omega) (.bool sn) (.string si) (.string sf))
  have hsz : V9s.heap.size = V9.heap.size := by rw [hV9s]; simp [World.setCell]
  replace F1 : Hid (∀ i, V9s.frozen? ⟨V1.heap.size, i, none⟩ = false) := by have t := F1.out; show ∀ i, _; rw [hV9s]; intro i; simpa using t i
  replace F2 : Hid (∀ i, V9s.frozen? ⟨V2.heap.size, i, none⟩ = false) := by have t := F2.out; show ∀ i, _; rw [hV9s]; intro i; simpa using t i
  rw [← hV9s]
  rw [← hV9s] at HBn C0n C1n C2n
  clear HB C0 C1 C2 hV9s
  have HB := HBn
  clear HBn
  have C0 := C0n
  clear C0n
  replace z0 : w.heap.size + 1 ≤ V9s.heap.size := by omega
  have C1 := C1n
  clear C1n
  replace z1 : V1.heap.size + 1 ≤ V9s.heap.size := by omega
  have C2 := C2n
  clear C2n
  replace z2 : V2.heap.size + 1 ≤ V9s.heap.size := by omega
  clear hsz
  (with_reducible refine (DT.out _ _ _ _ _).mono ?_)
  rintro e V10 ⟨rfl, hb⟩
  replace F1 := Lib.hid (frozen_keep F1.out hb (by omega))
  replace F2 := Lib.hid (frozen_keep F2.out hb (by omega))
  replace C0 := C0.keep hb (by omega)
  replace z0 : w.heap.size + 1 ≤ V10.heap.size := by have := hb.size; omega
  replace C1 := C1.keep hb (by omega)
  replace z1 : V1.heap.size + 1 ≤ V10.heap.size := by have := hb.size; omega
  replace C2 := C2.keep hb (by omega)
  replace z2 : V2.heap.size + 1 ≤ V10.heap.size := by have := hb.size; omega
  replace HB := Lib.hid (HB.out.trans (hb.mono HB.out.size))
  clear hb
  have o00 := C0.1
  have o10 := C1.1
  have o20 := C2.1
  have o01 := C0.2.1
  have o02 := C0.2.2
  have o11 := C1.2.1
  have o12 := C1.2.2
  have o21 := C2.2.1
  have o22 := C2.2.2
  go_wp2
  go_ret
  exact ⟨rfl, HB.out⟩
end Go.Proofs.Ytohppejblbeemaa
