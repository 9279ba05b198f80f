/- DecimalSums: Compare, Add, Sub and Mul are the reference's. -/
import Derived.Test.YtmaljkjcibdbgaaDTold
namespace Go.Proofs.Ytmaljkjcibdbgaa
open Go.RowKit

set_option maxHeartbeats 8000000 in
set_option maxRecDepth 100000 in
theorem sums_core (an bn sn dn pn : Bool) (ai af bi bf si sf di df pi pf : ByteArray) (k c0 c1 c2 c3 : Int) (w : World) (H0 : ∀ wx : World, Calls Try.prog 16 #[(.agg #[.bool an, .string ai, .string af]), (.agg #[.bool bn, .string bi, .string bf])] wx fun e w' => e = .returned (.tuple #[.int .i64 k, .int .i64 c0]) ∧ Below wx.heap.size wx w') (H1 : ∀ wx : World, Calls Try.prog 17 #[(.agg #[.bool an, .string ai, .string af]), (.agg #[.bool bn, .string bi, .string bf])] wx fun e w' => e = .returned (.tuple #[.int .i64 k, .int .i64 c0]) ∧ Below wx.heap.size wx w') (H2 : ∀ wx : World, Calls Try.prog 18 #[(.agg #[.bool an, .string ai, .string af]), (.agg #[.bool bn, .string bi, .string bf])] wx fun e w' => e = .returned (.tuple #[(.agg #[.bool sn, .string si, .string sf]), .int .i64 c1]) ∧ Below wx.heap.size wx w') (H3 : ∀ wx : World, Calls Try.prog 19 #[(.agg #[.bool an, .string ai, .string af]), (.agg #[.bool bn, .string bi, .string bf])] wx fun e w' => e = .returned (.tuple #[(.agg #[.bool sn, .string si, .string sf]), .int .i64 c1]) ∧ Below wx.heap.size wx w') (H4 : ∀ wx : World, Calls Try.prog 21 #[(.agg #[.bool an, .string ai, .string af]), (.agg #[.bool bn, .string bi, .string bf])] wx fun e w' => e = .returned (.tuple #[(.agg #[.bool dn, .string di, .string df]), .int .i64 c2]) ∧ Below wx.heap.size wx w') (H5 : ∀ wx : World, Calls Try.prog 22 #[(.agg #[.bool an, .string ai, .string af]), (.agg #[.bool bn, .string bi, .string bf])] wx fun e w' => e = .returned (.tuple #[(.agg #[.bool dn, .string di, .string df]), .int .i64 c2]) ∧ Below wx.heap.size wx w') (H6 : ∀ wx : World, Calls Try.prog 23 #[(.agg #[.bool an, .string ai, .string af]), (.agg #[.bool bn, .string bi, .string bf])] wx fun e w' => e = .returned (.tuple #[(.agg #[.bool pn, .string pi, .string pf]), .int .i64 c3]) ∧ Below wx.heap.size wx w') (H7 : ∀ wx : World, Calls Try.prog 24 #[(.agg #[.bool an, .string ai, .string af]), (.agg #[.bool bn, .string bi, .string bf])] wx fun e w' => e = .returned (.tuple #[(.agg #[.bool pn, .string pi, .string pf]), .int .i64 c3]) ∧ Below wx.heap.size wx w') :
    Calls Try.prog 4 #[(.agg #[.bool an, .string ai, .string af]), (.agg #[.bool bn, .string bi, .string bf])] w fun e w' => e = .returned (.bool true) ∧ Below w.heap.size w w' := by
  have DW := Lib.hid awake_any
  have DT := Lib.hid told_same
  have D0 := Lib.hid H0
  have D1 := Lib.hid H1
  have D2 := Lib.hid H2
  have D3 := Lib.hid H3
  have D4 := Lib.hid H4
  have D5 := Lib.hid H5
  have D6 := Lib.hid H6
  have D7 := Lib.hid H7
  clear H0 H1 H2 H3 H4 H5 H6 H7
  go_enter Try.func4, Try.ntmps4
  go_wp2_with fail
  obtain ⟨W0, hW0⟩ : ∃ W0, W0 = ((w.alloc (.cells #[.bool an, .string ai, .string af] 23)).alloc (.cells #[.bool bn, .string bi, .string bf] 23)) := ⟨_, rfl⟩
  obtain ⟨hB, hz, C0, C1, _⟩ : Below w.heap.size w W0 ∧ w.heap.size + 2 ≤ W0.heap.size ∧ Cells3 W0 w.heap.size (.bool an) (.string ai) (.string af) ∧ Cells3 W0 (w.heap.size + 1) (.bool bn) (.string bi) (.string bf) ∧ ∀ i, W0.frozen? ⟨(w.heap.size + 1), i, none⟩ = false := by rw [hW0]; exact ⟨below_two w _ _, two_boxes w _ _ _ _ _ _ _⟩
  have z0 : w.heap.size + 1 ≤ W0.heap.size := by omega
  have z1 : (w.heap.size + 1) + 1 ≤ W0.heap.size := by omega
  rw [← hW0]
  have HB := Lib.hid hB
  clear hW0 hB hz
  have qk : (k != k) = false := bne_self_eq_false _
  have qc : (c0 != c0) = false := bne_self_eq_false _
  (with_reducible refine (D0.out _).mono ?_)
  rintro e V1 ⟨rfl, hb⟩
  replace C0 := C0.keep hb (by omega)
  replace z0 : w.heap.size + 1 ≤ V1.heap.size := by have := hb.size; omega
  replace C1 := C1.keep hb (by omega)
  replace z1 : (w.heap.size + 1) + 1 ≤ V1.heap.size := by have := hb.size; omega
  replace HB := Lib.hid (HB.out.trans (hb.mono HB.out.size))
  clear hb
  have o00 := C0.1
  have o10 := C1.1
  have o01 := C0.2.1
  have o02 := C0.2.2
  have o11 := C1.2.1
  have o12 := C1.2.2
  go_wp2_with fail
  clear o00 o01 o02 o10 o11 o12
  (with_reducible refine (D1.out _).mono ?_)
  rintro e V2 ⟨rfl, hb⟩
  replace C0 := C0.keep hb (by omega)
  replace z0 : w.heap.size + 1 ≤ V2.heap.size := by have := hb.size; omega
  replace C1 := C1.keep hb (by omega)
  replace z1 : (w.heap.size + 1) + 1 ≤ V2.heap.size := by have := hb.size; omega
  replace HB := Lib.hid (HB.out.trans (hb.mono HB.out.size))
  clear hb
  have o00 := C0.1
  have o10 := C1.1
  have o01 := C0.2.1
  have o02 := C0.2.2
  have o11 := C1.2.1
  have o12 := C1.2.2
  go_wp2_with fail
  clear o00 o01 o02 o10 o11 o12
  (with_reducible refine (DW.out _).mono ?_)
  rintro e V3 ⟨rfl, hb⟩
  replace C0 := C0.keep hb (by omega)
  replace z0 : w.heap.size + 1 ≤ V3.heap.size := by have := hb.size; omega
  replace C1 := C1.keep hb (by omega)
  replace z1 : (w.heap.size + 1) + 1 ≤ V3.heap.size := by have := hb.size; omega
  replace HB := Lib.hid (HB.out.trans (hb.mono HB.out.size))
  clear hb
  have o00 := C0.1
  have o10 := C1.1
  have o01 := C0.2.1
  have o02 := C0.2.2
  have o11 := C1.2.1
  have o12 := C1.2.2
  go_wp2_with fail
  clear o00 o01 o02 o10 o11 o12
  (with_reducible refine (D2.out _).mono ?_)
  rintro e V4 ⟨rfl, hb⟩
  replace C0 := C0.keep hb (by omega)
  replace z0 : w.heap.size + 1 ≤ V4.heap.size := by have := hb.size; omega
  replace C1 := C1.keep hb (by omega)
  replace z1 : (w.heap.size + 1) + 1 ≤ V4.heap.size := by have := hb.size; omega
  replace HB := Lib.hid (HB.out.trans (hb.mono HB.out.size))
  clear hb
  have y2_1 := z1
  have y2_0 := z0
  have ba : Below V4.heap.size V4 (V4.alloc (.cells #[.bool sn, .string si, .string sf] 23)) := (Below.refl _ _).alloc (Nat.le_refl _) _
  replace C0 := C0.keep ba (by omega)
  replace z0 : w.heap.size + 1 ≤ (V4.alloc (.cells #[.bool sn, .string si, .string sf] 23)).heap.size := by have := ba.size; omega
  replace C1 := C1.keep ba (by omega)
  replace z1 : (w.heap.size + 1) + 1 ≤ (V4.alloc (.cells #[.bool sn, .string si, .string sf] 23)).heap.size := by have := ba.size; omega
  replace HB := Lib.hid (HB.out.trans (ba.mono HB.out.size))
  clear ba
  have C2 : Cells3 (V4.alloc (.cells #[.bool sn, .string si, .string sf] 23)) V4.heap.size (.bool sn) (.string si) (.string sf) := (one_box V4 _ _ _ _).2.1
  have z2 : V4.heap.size + 1 ≤ (V4.alloc (.cells #[.bool sn, .string si, .string sf] 23)).heap.size := by simp
  have o00 := C0.1
  have o10 := C1.1
  have o20 := C2.1
  have o01 := C0.2.1
  have o02 := C0.2.2
  have o11 := C1.2.1
  have o12 := C1.2.2
  have o21 := C2.2.1
  have o22 := C2.2.2
  have F2 := Lib.hid (one_box V4 (.bool sn) (.string si) (.string sf) 23).2.2
  go_wp2_with fail
  clear o00 o01 o02 o10 o11 o12 o20 o21 o22
  obtain ⟨V4x, hV4x⟩ : ∃ V4x, V4x = V4.alloc (.cells #[.bool sn, .string si, .string sf] 23) := ⟨_, rfl⟩
  have HX := Lib.hid (show V4.heap.size + 1 = V4x.heap.size by rw [hV4x]; simp)
  rw [← hV4x]
  rw [← hV4x] at HB C0 z0 C1 z1 C2 z2 F2
  clear hV4x
  (with_reducible refine (D3.out _).mono ?_)
  rintro e V5 ⟨rfl, hb⟩
  replace F2 := Lib.hid (frozen_keep F2.out hb (by omega))
  replace C0 := C0.keep hb (by omega)
  replace z0 : w.heap.size + 1 ≤ V5.heap.size := by have := hb.size; omega
  replace C1 := C1.keep hb (by omega)
  replace z1 : (w.heap.size + 1) + 1 ≤ V5.heap.size := by have := hb.size; omega
  replace C2 := C2.keep hb (by omega)
  replace z2 : V4.heap.size + 1 ≤ V5.heap.size := by have := hb.size; omega
  replace HB := Lib.hid (HB.out.trans (hb.mono HB.out.size))
  clear hb
  have y3_2 := z2
  have y3_1 := z1
  have y3_0 := z0
  have ba : Below V5.heap.size V5 (V5.alloc (.cells #[.bool sn, .string si, .string sf] 23)) := (Below.refl _ _).alloc (Nat.le_refl _) _
  replace C0 := C0.keep ba (by omega)
  replace z0 : w.heap.size + 1 ≤ (V5.alloc (.cells #[.bool sn, .string si, .string sf] 23)).heap.size := by have := ba.size; omega
  replace C1 := C1.keep ba (by omega)
  replace z1 : (w.heap.size + 1) + 1 ≤ (V5.alloc (.cells #[.bool sn, .string si, .string sf] 23)).heap.size := by have := ba.size; omega
  replace C2 := C2.keep ba (by omega)
  replace z2 : V4.heap.size + 1 ≤ (V5.alloc (.cells #[.bool sn, .string si, .string sf] 23)).heap.size := by have := ba.size; omega
  replace HB := Lib.hid (HB.out.trans (ba.mono HB.out.size))
  clear ba
  have C3 : Cells3 (V5.alloc (.cells #[.bool sn, .string si, .string sf] 23)) V5.heap.size (.bool sn) (.string si) (.string sf) := (one_box V5 _ _ _ _).2.1
  have z3 : V5.heap.size + 1 ≤ (V5.alloc (.cells #[.bool sn, .string si, .string sf] 23)).heap.size := by simp
  have o00 := C0.1
  have o10 := C1.1
  have o20 := C2.1
  have o30 := C3.1
  have o01 := C0.2.1
  have o02 := C0.2.2
  have o11 := C1.2.1
  have o12 := C1.2.2
  have o21 := C2.2.1
  have o22 := C2.2.2
  have o31 := C3.2.1
  have o32 := C3.2.2
  replace F2 := Lib.hid (frozen_keep F2.out ((Below.refl _ _).alloc (Nat.le_refl _) (.cells #[.bool sn, .string si, .string sf] 23)) (by omega))
  have F3 := Lib.hid (one_box V5 (.bool sn) (.string si) (.string sf) 23).2.2
  go_wp2_with fail
  clear o00 o01 o02 o10 o11 o12 o20 o21 o22 o30 o31 o32
  obtain ⟨V5x, hV5x⟩ : ∃ V5x, V5x = V5.alloc (.cells #[.bool sn, .string si, .string sf] 23) := ⟨_, rfl⟩
  have HX := Lib.hid (show V5.heap.size + 1 = V5x.heap.size by rw [hV5x]; simp)
  rw [← hV5x]
  rw [← hV5x] at HB C0 z0 C1 z1 C2 z2 C3 z3 F2 F3
  clear hV5x
  (with_reducible refine (DT.out _ _ _ _ _).mono ?_)
  rintro e V6 ⟨rfl, hb⟩
  replace F2 := Lib.hid (frozen_keep F2.out hb (by omega))
  replace F3 := Lib.hid (frozen_keep F3.out hb (by omega))
  replace C0 := C0.keep hb (by omega)
  replace z0 : w.heap.size + 1 ≤ V6.heap.size := by have := hb.size; omega
  replace C1 := C1.keep hb (by omega)
  replace z1 : (w.heap.size + 1) + 1 ≤ V6.heap.size := by have := hb.size; omega
  replace C2 := C2.keep hb (by omega)
  replace z2 : V4.heap.size + 1 ≤ V6.heap.size := by have := hb.size; omega
  replace C3 := C3.keep hb (by omega)
  replace z3 : V5.heap.size + 1 ≤ V6.heap.size := by have := hb.size; omega
  replace HB := Lib.hid (HB.out.trans (hb.mono HB.out.size))
  clear hb
  have o00 := C0.1
  have o10 := C1.1
  have o20 := C2.1
  have o30 := C3.1
  have o01 := C0.2.1
  have o02 := C0.2.2
  have o11 := C1.2.1
  have o12 := C1.2.2
  have o21 := C2.2.1
  have o22 := C2.2.2
  have o31 := C3.2.1
  have o32 := C3.2.2
  go_wp2_with fail
  clear o00 o01 o02 o10 o11 o12 o20 o21 o22 o30 o31 o32
  (with_reducible refine (D4.out _).mono ?_)
  rintro e V7 ⟨rfl, hb⟩
  replace F2 := Lib.hid (frozen_keep F2.out hb (by omega))
  replace F3 := Lib.hid (frozen_keep F3.out hb (by omega))
  replace C0 := C0.keep hb (by omega)
  replace z0 : w.heap.size + 1 ≤ V7.heap.size := by have := hb.size; omega
  replace C1 := C1.keep hb (by omega)
  replace z1 : (w.heap.size + 1) + 1 ≤ V7.heap.size := by have := hb.size; omega
  replace C2 := C2.keep hb (by omega)
  replace z2 : V4.heap.size + 1 ≤ V7.heap.size := by have := hb.size; omega
  replace C3 := C3.keep hb (by omega)
  replace z3 : V5.heap.size + 1 ≤ V7.heap.size := by have := hb.size; omega
  replace HB := Lib.hid (HB.out.trans (hb.mono HB.out.size))
  clear hb
  have o00 := C0.1
  have o10 := C1.1
  have o20 := C2.1
  have o30 := C3.1
  have o01 := C0.2.1
  have o02 := C0.2.2
  have o11 := C1.2.1
  have o12 := C1.2.2
  have o21 := C2.2.1
  have o22 := C2.2.2
  have o31 := C3.2.1
  have o32 := C3.2.2
  have f2 := F2.out
  have f3 := F3.out
  go_wp2_with fail
  clear f2
  clear f3
  clear o00 o01 o02 o10 o11 o12 o20 o21 o22 o30 o31 o32
  obtain ⟨V7s, hV7s⟩ : ∃ X, X = ((V7.setCell ⟨V4.heap.size, 0, none⟩ (.bool dn)).setCell ⟨V4.heap.size, 1, none⟩ (.string di)).setCell ⟨V4.heap.size, 2, none⟩ (.string df) := ⟨_, rfl⟩
  have C0n := far_box C0 (show w.heap.size ≠ V4.heap.size by omega) (.bool dn) (.string di) (.string df)
  have C1n := far_box C1 (show (w.heap.size + 1) ≠ V4.heap.size by omega) (.bool dn) (.string di) (.string df)
  have C2n := set_box C2 (.bool dn) (.string di) (.string df)
  have C3n := far_box C3 (show V5.heap.size ≠ V4.heap.size by omega) (.bool dn) (.string di) (.string df)
  have HBn := Lib.hid (res_below HB.out (show w.heap.size ≤ V4.heap.size by omega) (.bool dn) (.string di) (.string df))
  have hsz : V7s.heap.size = V7.heap.size := by rw [hV7s]; simp [World.setCell]
  replace F2 : Hid (∀ i, V7s.frozen? ⟨V4.heap.size, i, none⟩ = false) := by have t := F2.out; show ∀ i, _; rw [hV7s]; intro i; simpa using t i
  replace F3 : Hid (∀ i, V7s.frozen? ⟨V5.heap.size, i, none⟩ = false) := by have t := F3.out; show ∀ i, _; rw [hV7s]; intro i; simpa using t i
  rw [← hV7s]
  rw [← hV7s] at HBn C0n C1n C2n C3n
  clear HB C0 C1 C2 C3 hV7s
  have HB := HBn
  clear HBn
  have C0 := C0n
  clear C0n
  replace z0 : w.heap.size + 1 ≤ V7s.heap.size := by omega
  have C1 := C1n
  clear C1n
  replace z1 : (w.heap.size + 1) + 1 ≤ V7s.heap.size := by omega
  have C2 := C2n
  clear C2n
  replace z2 : V4.heap.size + 1 ≤ V7s.heap.size := by omega
  have C3 := C3n
  clear C3n
  replace z3 : V5.heap.size + 1 ≤ V7s.heap.size := by omega
  clear hsz
  (with_reducible refine (D5.out _).mono ?_)
  rintro e V8 ⟨rfl, hb⟩
  replace F2 := Lib.hid (frozen_keep F2.out hb (by omega))
  replace F3 := Lib.hid (frozen_keep F3.out hb (by omega))
  replace C0 := C0.keep hb (by omega)
  replace z0 : w.heap.size + 1 ≤ V8.heap.size := by have := hb.size; omega
  replace C1 := C1.keep hb (by omega)
  replace z1 : (w.heap.size + 1) + 1 ≤ V8.heap.size := by have := hb.size; omega
  replace C2 := C2.keep hb (by omega)
  replace z2 : V4.heap.size + 1 ≤ V8.heap.size := by have := hb.size; omega
  replace C3 := C3.keep hb (by omega)
  replace z3 : V5.heap.size + 1 ≤ V8.heap.size := by have := hb.size; omega
  replace HB := Lib.hid (HB.out.trans (hb.mono HB.out.size))
  clear hb
  have o00 := C0.1
  have o10 := C1.1
  have o20 := C2.1
  have o30 := C3.1
  have o01 := C0.2.1
  have o02 := C0.2.2
  have o11 := C1.2.1
  have o12 := C1.2.2
  have o21 := C2.2.1
  have o22 := C2.2.2
  have o31 := C3.2.1
  have o32 := C3.2.2
  have f2 := F2.out
  have f3 := F3.out
  go_wp2_with fail
  clear f2
  clear f3
  clear o00 o01 o02 o10 o11 o12 o20 o21 o22 o30 o31 o32
  obtain ⟨V8s, hV8s⟩ : ∃ X, X = ((V8.setCell ⟨V5.heap.size, 0, none⟩ (.bool dn)).setCell ⟨V5.heap.size, 1, none⟩ (.string di)).setCell ⟨V5.heap.size, 2, none⟩ (.string df) := ⟨_, rfl⟩
  have C0n := far_box C0 (show w.heap.size ≠ V5.heap.size by omega) (.bool dn) (.string di) (.string df)
  have C1n := far_box C1 (show (w.heap.size + 1) ≠ V5.heap.size by omega) (.bool dn) (.string di) (.string df)
  have C2n := far_box C2 (show V4.heap.size ≠ V5.heap.size by omega) (.bool dn) (.string di) (.string df)
  have C3n := set_box C3 (.bool dn) (.string di) (.string df)
  have HBn := Lib.hid (res_below HB.out (show w.heap.size ≤ V5.heap.size by omega) (.bool dn) (.string di) (.string df))
  have hsz : V8s.heap.size = V8.heap.size := by rw [hV8s]; simp [World.setCell]
  replace F2 : Hid (∀ i, V8s.frozen? ⟨V4.heap.size, i, none⟩ = false) := by have t := F2.out; show ∀ i, _; rw [hV8s]; intro i; simpa using t i
  replace F3 : Hid (∀ i, V8s.frozen? ⟨V5.heap.size, i, none⟩ = false) := by have t := F3.out; show ∀ i, _; rw [hV8s]; intro i; simpa using t i
  rw [← hV8s]
  rw [← hV8s] at HBn C0n C1n C2n C3n
  clear HB C0 C1 C2 C3 hV8s
  have HB := HBn
  clear HBn
  have C0 := C0n
  clear C0n
  replace z0 : w.heap.size + 1 ≤ V8s.heap.size := by omega
  have C1 := C1n
  clear C1n
  replace z1 : (w.heap.size + 1) + 1 ≤ V8s.heap.size := by omega
  have C2 := C2n
  clear C2n
  replace z2 : V4.heap.size + 1 ≤ V8s.heap.size := by omega
  have C3 := C3n
  clear C3n
  replace z3 : V5.heap.size + 1 ≤ V8s.heap.size := by omega
  clear hsz
  (with_reducible refine (DT.out _ _ _ _ _).mono ?_)
  rintro e V9 ⟨rfl, hb⟩
  replace F2 := Lib.hid (frozen_keep F2.out hb (by omega))
  replace F3 := Lib.hid (frozen_keep F3.out hb (by omega))
  replace C0 := C0.keep hb (by omega)
  replace z0 : w.heap.size + 1 ≤ V9.heap.size := by have := hb.size; omega
  replace C1 := C1.keep hb (by omega)
  replace z1 : (w.heap.size + 1) + 1 ≤ V9.heap.size := by have := hb.size; omega
  replace C2 := C2.keep hb (by omega)
  replace z2 : V4.heap.size + 1 ≤ V9.heap.size := by have := hb.size; omega
  replace C3 := C3.keep hb (by omega)
  replace z3 : V5.heap.size + 1 ≤ V9.heap.size := by have := hb.size; omega
  replace HB := Lib.hid (HB.out.trans (hb.mono HB.out.size))
  clear hb
  have o00 := C0.1
  have o10 := C1.1
  have o20 := C2.1
  have o30 := C3.1
  have o01 := C0.2.1
  have o02 := C0.2.2
  have o11 := C1.2.1
  have o12 := C1.2.2
  have o21 := C2.2.1
  have o22 := C2.2.2
  have o31 := C3.2.1
  have o32 := C3.2.2
  go_wp2_with fail
  clear o00 o01 o02 o10 o11 o12 o20 o21 o22 o30 o31 o32
  (with_reducible refine (D6.out _).mono ?_)
  rintro e V10 ⟨rfl, hb⟩
  replace F2 := Lib.hid (frozen_keep F2.out hb (by omega))
  replace F3 := Lib.hid (frozen_keep F3.out hb (by omega))
  replace C0 := C0.keep hb (by omega)
  replace z0 : w.heap.size + 1 ≤ V10.heap.size := by have := hb.size; omega
  replace C1 := C1.keep hb (by omega)
  replace z1 : (w.heap.size + 1) + 1 ≤ V10.heap.size := by have := hb.size; omega
  replace C2 := C2.keep hb (by omega)
  replace z2 : V4.heap.size + 1 ≤ V10.heap.size := by have := hb.size; omega
  replace C3 := C3.keep hb (by omega)
  replace z3 : V5.heap.size + 1 ≤ V10.heap.size := by have := hb.size; omega
  replace HB := Lib.hid (HB.out.trans (hb.mono HB.out.size))
  clear hb
  have o00 := C0.1
  have o10 := C1.1
  have o20 := C2.1
  have o30 := C3.1
  have o01 := C0.2.1
  have o02 := C0.2.2
  have o11 := C1.2.1
  have o12 := C1.2.2
  have o21 := C2.2.1
  have o22 := C2.2.2
  have o31 := C3.2.1
  have o32 := C3.2.2
  have f2 := F2.out
  have f3 := F3.out
  go_wp2_with fail
  clear f2
  clear f3
  clear o00 o01 o02 o10 o11 o12 o20 o21 o22 o30 o31 o32
  obtain ⟨V10s, hV10s⟩ : ∃ X, X = ((V10.setCell ⟨V4.heap.size, 0, none⟩ (.bool pn)).setCell ⟨V4.heap.size, 1, none⟩ (.string pi)).setCell ⟨V4.heap.size, 2, none⟩ (.string pf) := ⟨_, rfl⟩
  have C0n := far_box C0 (show w.heap.size ≠ V4.heap.size by omega) (.bool pn) (.string pi) (.string pf)
  have C1n := far_box C1 (show (w.heap.size + 1) ≠ V4.heap.size by omega) (.bool pn) (.string pi) (.string pf)
  have C2n := set_box C2 (.bool pn) (.string pi) (.string pf)
  have C3n := far_box C3 (show V5.heap.size ≠ V4.heap.size by omega) (.bool pn) (.string pi) (.string pf)
  have HBn := Lib.hid (res_below HB.out (show w.heap.size ≤ V4.heap.size by omega) (.bool pn) (.string pi) (.string pf))
  have hsz : V10s.heap.size = V10.heap.size := by rw [hV10s]; simp [World.setCell]
  replace F2 : Hid (∀ i, V10s.frozen? ⟨V4.heap.size, i, none⟩ = false) := by have t := F2.out; show ∀ i, _; rw [hV10s]; intro i; simpa using t i
  replace F3 : Hid (∀ i, V10s.frozen? ⟨V5.heap.size, i, none⟩ = false) := by have t := F3.out; show ∀ i, _; rw [hV10s]; intro i; simpa using t i
  rw [← hV10s]
  rw [← hV10s] at HBn C0n C1n C2n C3n
  clear HB C0 C1 C2 C3 hV10s
  have HB := HBn
  clear HBn
  have C0 := C0n
  clear C0n
  replace z0 : w.heap.size + 1 ≤ V10s.heap.size := by omega
  have C1 := C1n
  clear C1n
  replace z1 : (w.heap.size + 1) + 1 ≤ V10s.heap.size := by omega
  have C2 := C2n
  clear C2n
  replace z2 : V4.heap.size + 1 ≤ V10s.heap.size := by omega
  have C3 := C3n
  clear C3n
  replace z3 : V5.heap.size + 1 ≤ V10s.heap.size := by omega
  clear hsz
  (with_reducible refine (D7.out _).mono ?_)
  rintro e V11 ⟨rfl, hb⟩
  replace F2 := Lib.hid (frozen_keep F2.out hb (by omega))
  replace F3 := Lib.hid (frozen_keep F3.out hb (by omega))
  replace C0 := C0.keep hb (by omega)
  replace z0 : w.heap.size + 1 ≤ V11.heap.size := by have := hb.size; omega
  replace C1 := C1.keep hb (by omega)
  replace z1 : (w.heap.size + 1) + 1 ≤ V11.heap.size := by have := hb.size; omega
  replace C2 := C2.keep hb (by omega)
  replace z2 : V4.heap.size + 1 ≤ V11.heap.size := by have := hb.size; omega
  replace C3 := C3.keep hb (by omega)
  replace z3 : V5.heap.size + 1 ≤ V11.heap.size := by have := hb.size; omega
  replace HB := Lib.hid (HB.out.trans (hb.mono HB.out.size))
  clear hb
  have o00 := C0.1
  have o10 := C1.1
  have o20 := C2.1
  have o30 := C3.1
  have o01 := C0.2.1
  have o02 := C0.2.2
  have o11 := C1.2.1
  have o12 := C1.2.2
  have o21 := C2.2.1
  have o22 := C2.2.2
  have o31 := C3.2.1
  have o32 := C3.2.2
  have f2 := F2.out
  have f3 := F3.out
  go_wp2_with fail
  clear f2
  clear f3
  clear o00 o01 o02 o10 o11 o12 o20 o21 o22 o30 o31 o32
  obtain ⟨V11s, hV11s⟩ : ∃ X, X = ((V11.setCell ⟨V5.heap.size, 0, none⟩ (.bool pn)).setCell ⟨V5.heap.size, 1, none⟩ (.string pi)).setCell ⟨V5.heap.size, 2, none⟩ (.string pf) := ⟨_, rfl⟩
  have C0n := far_box C0 (show w.heap.size ≠ V5.heap.size by omega) (.bool pn) (.string pi) (.string pf)
  have C1n := far_box C1 (show (w.heap.size + 1) ≠ V5.heap.size by omega) (.bool pn) (.string pi) (.string pf)
  have C2n := far_box C2 (show V4.heap.size ≠ V5.heap.size by omega) (.bool pn) (.string pi) (.string pf)
  have C3n := set_box C3 (.bool pn) (.string pi) (.string pf)
  have HBn := Lib.hid (res_below HB.out (show w.heap.size ≤ V5.heap.size by omega) (.bool pn) (.string pi) (.string pf))
  have hsz : V11s.heap.size = V11.heap.size := by rw [hV11s]; simp [World.setCell]
  replace F2 : Hid (∀ i, V11s.frozen? ⟨V4.heap.size, i, none⟩ = false) := by have t := F2.out; show ∀ i, _; rw [hV11s]; intro i; simpa using t i
  replace F3 : Hid (∀ i, V11s.frozen? ⟨V5.heap.size, i, none⟩ = false) := by have t := F3.out; show ∀ i, _; rw [hV11s]; intro i; simpa using t i
  rw [← hV11s]
  rw [← hV11s] at HBn C0n C1n C2n C3n
  clear HB C0 C1 C2 C3 hV11s
  have HB := HBn
  clear HBn
  have C0 := C0n
  clear C0n
  replace z0 : w.heap.size + 1 ≤ V11s.heap.size := by omega
  have C1 := C1n
  clear C1n
  replace z1 : (w.heap.size + 1) + 1 ≤ V11s.heap.size := by omega
  have C2 := C2n
  clear C2n
  replace z2 : V4.heap.size + 1 ≤ V11s.heap.size := by omega
  have C3 := C3n
  clear C3n
  replace z3 : V5.heap.size + 1 ≤ V11s.heap.size := by omega
  clear hsz
  (with_reducible refine (DT.out _ _ _ _ _).mono ?_)
  rintro e V12 ⟨rfl, hb⟩
  replace F2 := Lib.hid (frozen_keep F2.out hb (by omega))
  replace F3 := Lib.hid (frozen_keep F3.out hb (by omega))
  replace C0 := C0.keep hb (by omega)
  replace z0 : w.heap.size + 1 ≤ V12.heap.size := by have := hb.size; omega
  replace C1 := C1.keep hb (by omega)
  replace z1 : (w.heap.size + 1) + 1 ≤ V12.heap.size := by have := hb.size; omega
  replace C2 := C2.keep hb (by omega)
  replace z2 : V4.heap.size + 1 ≤ V12.heap.size := by have := hb.size; omega
  replace C3 := C3.keep hb (by omega)
  replace z3 : V5.heap.size + 1 ≤ V12.heap.size := by have := hb.size; omega
  replace HB := Lib.hid (HB.out.trans (hb.mono HB.out.size))
  clear hb
  have o00 := C0.1
  have o10 := C1.1
  have o20 := C2.1
  have o30 := C3.1
  have o01 := C0.2.1
  have o02 := C0.2.2
  have o11 := C1.2.1
  have o12 := C1.2.2
  have o21 := C2.2.1
  have o22 := C2.2.2
  have o31 := C3.2.1
  have o32 := C3.2.2
  go_wp2
  go_ret
  exact ⟨rfl, HB.out⟩
end Go.Proofs.Ytmaljkjcibdbgaa
