/- DecimalOrder: one order by value, case by case. -/
import Derived.Test.YtohppejblbeemaaDFine
import Derived.Test.YtohppejblbeemaaDMoves
namespace Go.Proofs.Ytohppejblbeemaa
open Go.RowKit

set_option maxHeartbeats 4000000 in
set_option maxRecDepth 100000 in
theorem order_mdown_ok_n (an bn cn : Bool) (ai af bi bf ci cf : ByteArray) (w : World) (bc : Int) (dn : Bool) (di df : ByteArray) (xn : Bool) (xi xf : ByteArray) (yn : Bool) (yi : ByteArray) (yf : ByteArray) (HF : ∀ (g : Nat) (wx : World), g = wx.heap.size → Calls Try.prog 40 #[.slice (some ⟨g, 0, none⟩) 3 3] (wx.alloc (.cells #[.bool an, .string ai, .string af, .bool bn, .string bi, .string bf, .bool cn, .string ci, .string cf] 23)) fun e w' => e = .returned (.bool true) ∧ Below wx.heap.size wx w') (H1 : ∀ wx : World, Calls Try.prog 21 #[(.agg #[.bool an, .string ai, .string af]), (.agg #[.bool bn, .string bi, .string bf])] wx fun e w' => e = .returned (.tuple #[(.int .i64 (-1)), .int .i64 0]) ∧ Below wx.heap.size wx w') (H2 : ∀ wx : World, Calls Try.prog 21 #[(.agg #[.bool bn, .string bi, .string bf]), (.agg #[.bool an, .string ai, .string af])] wx fun e w' => e = .returned (.tuple #[(.int .i64 1), .int .i64 0]) ∧ Below wx.heap.size wx w') (H3 : ∀ wx : World, Calls Try.prog 21 #[(.agg #[.bool bn, .string bi, .string bf]), (.agg #[.bool cn, .string ci, .string cf])] wx fun e w' => e = .returned (.tuple #[(.int .i64 bc), .int .i64 0]) ∧ Below wx.heap.size wx w') (H4 : ∀ wx : World, Calls Try.prog 21 #[(.agg #[.bool an, .string ai, .string af]), (.agg #[.bool cn, .string ci, .string cf])] wx fun e w' => e = .returned (.tuple #[(.int .i64 (-1)), .int .i64 0]) ∧ Below wx.heap.size wx w') (H5 : ∀ wx : World, Calls Try.prog 26 #[(.agg #[.bool an, .string ai, .string af]), (.agg #[.bool bn, .string bi, .string bf])] wx fun e w' => e = .returned (.tuple #[(.agg #[.bool dn, .string di, .string df]), .int .i64 0]) ∧ Below wx.heap.size wx w') (H6 : ∀ wx : World, Calls Try.prog 21 #[(.agg #[.bool dn, .string di, .string df]), (.agg #[.bool false, .string ⟨#[48]⟩, .string ⟨#[]⟩])] wx fun e w' => e = .returned (.tuple #[(.int .i64 (-1)), .int .i64 0]) ∧ Below wx.heap.size wx w') (H7 : ∀ wx : World, Calls Try.prog 34 #[(.agg #[.bool an, .string ai, .string af])] wx fun e w' => e = .returned (.tuple #[(.agg #[.bool xn, .string xi, .string xf]), .int .i64 0]) ∧ Below wx.heap.size wx w') (H8 : ∀ wx : World, Calls Try.prog 34 #[(.agg #[.bool bn, .string bi, .string bf])] wx fun e w' => e = .returned (.tuple #[(.agg #[.bool yn, .string yi, .string yf]), .int .i64 0]) ∧ Below wx.heap.size wx w') (hbc : bc ≤ 0) (hne : (xn == yn) = false) :
    Calls Try.prog 9 #[(.agg #[.bool an, .string ai, .string af]), (.agg #[.bool bn, .string bi, .string bf]), (.agg #[.bool cn, .string ci, .string cf])] w fun e w' => e = .returned (.bool true) ∧ Below w.heap.size w w' := by
  have DW := Lib.hid awake_any
  have DF := Lib.hid HF
  have D1 := Lib.hid H1
  have D2 := Lib.hid H2
  have D3 := Lib.hid H3
  have D4 := Lib.hid H4
  have D5 := Lib.hid H5
  have D6 := Lib.hid H6
  have D7 := Lib.hid H7
  have D8 := Lib.hid H8
  clear HF H1 H2 H3 H4 H5 H6 H7 H8
  have q4 : decide (bc ≤ 0) = true := decide_eq_true hbc
  go_enter Try.func9, Try.ntmps9
  go_wp2_with fail
  obtain ⟨W0, hW0⟩ : ∃ W0, W0 = (((w.alloc (.cells #[.bool an, .string ai, .string af] 23)).alloc (.cells #[.bool bn, .string bi, .string bf] 23)).alloc (.cells #[.bool cn, .string ci, .string cf] 23)) := ⟨_, rfl⟩
  obtain ⟨hB, hz, C0, C1, C2, _⟩ : Below w.heap.size w W0 ∧ w.heap.size + 3 ≤ W0.heap.size ∧ Cells3 W0 w.heap.size (.bool an) (.string ai) (.string af) ∧ Cells3 W0 (w.heap.size + 1) (.bool bn) (.string bi) (.string bf) ∧ Cells3 W0 (w.heap.size + 2) (.bool cn) (.string ci) (.string cf) ∧ ∀ i, W0.frozen? ⟨(w.heap.size + 2), i, none⟩ = false := by rw [hW0]; exact ⟨below_three w _ _ _, three_boxes w _ _ _ _ _ _ _ _ _ _⟩
  have z0 : w.heap.size + 1 ≤ W0.heap.size := by omega
  have z1 : (w.heap.size + 1) + 1 ≤ W0.heap.size := by omega
  have z2 : (w.heap.size + 2) + 1 ≤ W0.heap.size := by omega
  rw [← hW0]
  have HB := Lib.hid hB
  clear hW0 hB hz
  (with_reducible refine (DW.out _).mono ?_)
  rintro e V1 ⟨rfl, hb⟩
  replace C0 := C0.keep hb (by omega)
  replace z0 : w.heap.size + 1 ≤ V1.heap.size := by have := hb.size; omega
  replace C1 := C1.keep hb (by omega)
  replace z1 : (w.heap.size + 1) + 1 ≤ V1.heap.size := by have := hb.size; omega
  replace C2 := C2.keep hb (by omega)
  replace z2 : (w.heap.size + 2) + 1 ≤ V1.heap.size := by have := hb.size; omega
  replace HB := Lib.hid (HB.out.trans (hb.mono HB.out.size))
  clear hb
  have o00 := C0.1
  have o10 := C1.1
  have o20 := C2.1
  have o01 := C0.2.1
  have o02 := C0.2.2
  have o11 := C1.2.1
  have o12 := C1.2.2
  have o21 := C2.2.1
  have o22 := C2.2.2
  go_wp2_with fail
  clear o00 o01 o02 o10 o11 o12 o20 o21 o22
  (with_reducible refine (DF.out _ _ ?_).mono ?_)
  · rfl
  rintro e V2 ⟨rfl, hb⟩
  replace C0 := C0.keep hb (by omega)
  replace z0 : w.heap.size + 1 ≤ V2.heap.size := by have := hb.size; omega
  replace C1 := C1.keep hb (by omega)
  replace z1 : (w.heap.size + 1) + 1 ≤ V2.heap.size := by have := hb.size; omega
  replace C2 := C2.keep hb (by omega)
  replace z2 : (w.heap.size + 2) + 1 ≤ V2.heap.size := by have := hb.size; omega
  replace HB := Lib.hid (HB.out.trans (hb.mono HB.out.size))
  clear hb
  have o00 := C0.1
  have o10 := C1.1
  have o20 := C2.1
  have o01 := C0.2.1
  have o02 := C0.2.2
  have o11 := C1.2.1
  have o12 := C1.2.2
  have o21 := C2.2.1
  have o22 := C2.2.2
  go_wp2_with fail
  clear o00 o01 o02 o10 o11 o12 o20 o21 o22
  (with_reducible refine (D1.out _).mono ?_)
  rintro e V3 ⟨rfl, hb⟩
  replace C0 := C0.keep hb (by omega)
  replace z0 : w.heap.size + 1 ≤ V3.heap.size := by have := hb.size; omega
  replace C1 := C1.keep hb (by omega)
  replace z1 : (w.heap.size + 1) + 1 ≤ V3.heap.size := by have := hb.size; omega
  replace C2 := C2.keep hb (by omega)
  replace z2 : (w.heap.size + 2) + 1 ≤ V3.heap.size := by have := hb.size; omega
  replace HB := Lib.hid (HB.out.trans (hb.mono HB.out.size))
  clear hb
  have o00 := C0.1
  have o10 := C1.1
  have o20 := C2.1
  have o01 := C0.2.1
  have o02 := C0.2.2
  have o11 := C1.2.1
  have o12 := C1.2.2
  have o21 := C2.2.1
  have o22 := C2.2.2
  go_wp2_with fail
  clear o00 o01 o02 o10 o11 o12 o20 o21 o22
  (with_reducible refine (D2.out _).mono ?_)
  rintro e V4 ⟨rfl, hb⟩
  replace C0 := C0.keep hb (by omega)
  replace z0 : w.heap.size + 1 ≤ V4.heap.size := by have := hb.size; omega
  replace C1 := C1.keep hb (by omega)
  replace z1 : (w.heap.size + 1) + 1 ≤ V4.heap.size := by have := hb.size; omega
  replace C2 := C2.keep hb (by omega)
  replace z2 : (w.heap.size + 2) + 1 ≤ V4.heap.size := by have := hb.size; omega
  replace HB := Lib.hid (HB.out.trans (hb.mono HB.out.size))
  clear hb
  have o00 := C0.1
  have o10 := C1.1
  have o20 := C2.1
  have o01 := C0.2.1
  have o02 := C0.2.2
  have o11 := C1.2.1
  have o12 := C1.2.2
  have o21 := C2.2.1
  have o22 := C2.2.2
  go_wp2_with fail
  clear o00 o01 o02 o10 o11 o12 o20 o21 o22
  (with_reducible refine (D3.out _).mono ?_)
  rintro e V5 ⟨rfl, hb⟩
  replace C0 := C0.keep hb (by omega)
  replace z0 : w.heap.size + 1 ≤ V5.heap.size := by have := hb.size; omega
  replace C1 := C1.keep hb (by omega)
  replace z1 : (w.heap.size + 1) + 1 ≤ V5.heap.size := by have := hb.size; omega
  replace C2 := C2.keep hb (by omega)
  replace z2 : (w.heap.size + 2) + 1 ≤ V5.heap.size := by have := hb.size; omega
  replace HB := Lib.hid (HB.out.trans (hb.mono HB.out.size))
  clear hb
  have o00 := C0.1
  have o10 := C1.1
  have o20 := C2.1
  have o01 := C0.2.1
  have o02 := C0.2.2
  have o11 := C1.2.1
  have o12 := C1.2.2
  have o21 := C2.2.1
  have o22 := C2.2.2
  go_wp2_with fail
  clear o00 o01 o02 o10 o11 o12 o20 o21 o22
  (with_reducible refine (D4.out _).mono ?_)
  rintro e V6 ⟨rfl, hb⟩
  replace C0 := C0.keep hb (by omega)
  replace z0 : w.heap.size + 1 ≤ V6.heap.size := by have := hb.size; omega
  replace C1 := C1.keep hb (by omega)
  replace z1 : (w.heap.size + 1) + 1 ≤ V6.heap.size := by have := hb.size; omega
  replace C2 := C2.keep hb (by omega)
  replace z2 : (w.heap.size + 2) + 1 ≤ V6.heap.size := by have := hb.size; omega
  replace HB := Lib.hid (HB.out.trans (hb.mono HB.out.size))
  clear hb
  have o00 := C0.1
  have o10 := C1.1
  have o20 := C2.1
  have o01 := C0.2.1
  have o02 := C0.2.2
  have o11 := C1.2.1
  have o12 := C1.2.2
  have o21 := C2.2.1
  have o22 := C2.2.2
  go_wp2_with fail
  clear o00 o01 o02 o10 o11 o12 o20 o21 o22
  (with_reducible refine (D5.out _).mono ?_)
  rintro e V7 ⟨rfl, hb⟩
  replace C0 := C0.keep hb (by omega)
  replace z0 : w.heap.size + 1 ≤ V7.heap.size := by have := hb.size; omega
  replace C1 := C1.keep hb (by omega)
  replace z1 : (w.heap.size + 1) + 1 ≤ V7.heap.size := by have := hb.size; omega
  replace C2 := C2.keep hb (by omega)
  replace z2 : (w.heap.size + 2) + 1 ≤ V7.heap.size := by have := hb.size; omega
  replace HB := Lib.hid (HB.out.trans (hb.mono HB.out.size))
  clear hb
  have ba : Below V7.heap.size V7 (V7.alloc (.cells #[.bool dn, .string di, .string df] 23)) := (Below.refl _ _).alloc (Nat.le_refl _) _
  replace C0 := C0.keep ba (by omega)
  replace z0 : w.heap.size + 1 ≤ (V7.alloc (.cells #[.bool dn, .string di, .string df] 23)).heap.size := by have := ba.size; omega
  replace C1 := C1.keep ba (by omega)
  replace z1 : (w.heap.size + 1) + 1 ≤ (V7.alloc (.cells #[.bool dn, .string di, .string df] 23)).heap.size := by have := ba.size; omega
  replace C2 := C2.keep ba (by omega)
  replace z2 : (w.heap.size + 2) + 1 ≤ (V7.alloc (.cells #[.bool dn, .string di, .string df] 23)).heap.size := by have := ba.size; omega
  replace HB := Lib.hid (HB.out.trans (ba.mono HB.out.size))
  clear ba
  have C3 : Cells3 (V7.alloc (.cells #[.bool dn, .string di, .string df] 23)) V7.heap.size (.bool dn) (.string di) (.string df) := (one_box V7 _ _ _ _).2.1
  have z3 : V7.heap.size + 1 ≤ (V7.alloc (.cells #[.bool dn, .string di, .string df] 23)).heap.size := by simp
  have o00 := C0.1
  have o10 := C1.1
  have o20 := C2.1
  have o30 := C3.1
  have o01 := C0.2.1
  have o02 := C0.2.2
  have o11 := C1.2.1
  have o12 := C1.2.2
  have o21 := C2.2.1
  have o22 := C2.2.2
  have o31 := C3.2.1
  have o32 := C3.2.2
  go_wp2_with fail
  clear o00 o01 o02 o10 o11 o12 o20 o21 o22 o30 o31 o32
  obtain ⟨V7x, hV7x⟩ : ∃ V7x, V7x = V7.alloc (.cells #[.bool dn, .string di, .string df] 23) := ⟨_, rfl⟩
  have HX := Lib.hid (show V7.heap.size + 1 = V7x.heap.size by rw [hV7x]; simp)
  rw [← hV7x]
  rw [← hV7x] at HB C0 z0 C1 z1 C2 z2 C3 z3
  clear hV7x
  (with_reducible refine (D6.out _).mono ?_)
  rintro e V8 ⟨rfl, hb⟩
  replace C0 := C0.keep hb (by omega)
  replace z0 : w.heap.size + 1 ≤ V8.heap.size := by have := hb.size; omega
  replace C1 := C1.keep hb (by omega)
  replace z1 : (w.heap.size + 1) + 1 ≤ V8.heap.size := by have := hb.size; omega
  replace C2 := C2.keep hb (by omega)
  replace z2 : (w.heap.size + 2) + 1 ≤ V8.heap.size := by have := hb.size; omega
  replace C3 := C3.keep hb (by omega)
  replace z3 : V7.heap.size + 1 ≤ V8.heap.size := by have := hb.size; omega
  replace HB := Lib.hid (HB.out.trans (hb.mono HB.out.size))
  clear hb
  have o00 := C0.1
  have o10 := C1.1
  have o20 := C2.1
  have o30 := C3.1
  have o01 := C0.2.1
  have o02 := C0.2.2
  have o11 := C1.2.1
  have o12 := C1.2.2
  have o21 := C2.2.1
  have o22 := C2.2.2
  have o31 := C3.2.1
  have o32 := C3.2.2
  go_wp2_with fail
  clear o00 o01 o02 o10 o11 o12 o20 o21 o22 o30 o31 o32
  (with_reducible refine (D7.out _).mono ?_)
  rintro e V9 ⟨rfl, hb⟩
  replace C0 := C0.keep hb (by omega)
  replace z0 : w.heap.size + 1 ≤ V9.heap.size := by have := hb.size; omega
  replace C1 := C1.keep hb (by omega)
  replace z1 : (w.heap.size + 1) + 1 ≤ V9.heap.size := by have := hb.size; omega
  replace C2 := C2.keep hb (by omega)
  replace z2 : (w.heap.size + 2) + 1 ≤ V9.heap.size := by have := hb.size; omega
  replace C3 := C3.keep hb (by omega)
  replace z3 : V7.heap.size + 1 ≤ V9.heap.size := by have := hb.size; omega
  replace HB := Lib.hid (HB.out.trans (hb.mono HB.out.size))
  clear hb
  have ba : Below V9.heap.size V9 (V9.alloc (.cells #[.bool xn, .string xi, .string xf] 23)) := (Below.refl _ _).alloc (Nat.le_refl _) _
  replace C0 := C0.keep ba (by omega)
  replace z0 : w.heap.size + 1 ≤ (V9.alloc (.cells #[.bool xn, .string xi, .string xf] 23)).heap.size := by have := ba.size; omega
  replace C1 := C1.keep ba (by omega)
  replace z1 : (w.heap.size + 1) + 1 ≤ (V9.alloc (.cells #[.bool xn, .string xi, .string xf] 23)).heap.size := by have := ba.size; omega
  replace C2 := C2.keep ba (by omega)
  replace z2 : (w.heap.size + 2) + 1 ≤ (V9.alloc (.cells #[.bool xn, .string xi, .string xf] 23)).heap.size := by have := ba.size; omega
  replace C3 := C3.keep ba (by omega)
  replace z3 : V7.heap.size + 1 ≤ (V9.alloc (.cells #[.bool xn, .string xi, .string xf] 23)).heap.size := by have := ba.size; omega
  replace HB := Lib.hid (HB.out.trans (ba.mono HB.out.size))
  clear ba
  have C4 : Cells3 (V9.alloc (.cells #[.bool xn, .string xi, .string xf] 23)) V9.heap.size (.bool xn) (.string xi) (.string xf) := (one_box V9 _ _ _ _).2.1
  have z4 : V9.heap.size + 1 ≤ (V9.alloc (.cells #[.bool xn, .string xi, .string xf] 23)).heap.size := by simp
  have o00 := C0.1
  have o10 := C1.1
  have o20 := C2.1
  have o30 := C3.1
  have o40 := C4.1
  have o01 := C0.2.1
  have o02 := C0.2.2
  have o11 := C1.2.1
  have o12 := C1.2.2
  have o21 := C2.2.1
  have o22 := C2.2.2
  have o31 := C3.2.1
  have o32 := C3.2.2
  have o41 := C4.2.1
  have o42 := C4.2.2
  go_wp2_with fail
  clear o00 o01 o02 o10 o11 o12 o20 o21 o22 o30 o31 o32 o40 o41 o42
  obtain ⟨V9x, hV9x⟩ : ∃ V9x, V9x = V9.alloc (.cells #[.bool xn, .string xi, .string xf] 23) := ⟨_, rfl⟩
  have HX := Lib.hid (show V9.heap.size + 1 = V9x.heap.size by rw [hV9x]; simp)
  rw [← hV9x]
  rw [← hV9x] at HB C0 z0 C1 z1 C2 z2 C3 z3 C4 z4
  clear hV9x
  (with_reducible refine (D8.out _).mono ?_)
  rintro e V10 ⟨rfl, hb⟩
  replace C0 := C0.keep hb (by omega)
  replace z0 : w.heap.size + 1 ≤ V10.heap.size := by have := hb.size; omega
  replace C1 := C1.keep hb (by omega)
  replace z1 : (w.heap.size + 1) + 1 ≤ V10.heap.size := by have := hb.size; omega
  replace C2 := C2.keep hb (by omega)
  replace z2 : (w.heap.size + 2) + 1 ≤ V10.heap.size := by have := hb.size; omega
  replace C3 := C3.keep hb (by omega)
  replace z3 : V7.heap.size + 1 ≤ V10.heap.size := by have := hb.size; omega
  replace C4 := C4.keep hb (by omega)
  replace z4 : V9.heap.size + 1 ≤ V10.heap.size := by have := hb.size; omega
  replace HB := Lib.hid (HB.out.trans (hb.mono HB.out.size))
  clear hb
  have ba : Below V10.heap.size V10 (V10.alloc (.cells #[.bool yn, .string yi, .string yf] 23)) := (Below.refl _ _).alloc (Nat.le_refl _) _
  replace C0 := C0.keep ba (by omega)
  replace z0 : w.heap.size + 1 ≤ (V10.alloc (.cells #[.bool yn, .string yi, .string yf] 23)).heap.size := by have := ba.size; omega
  replace C1 := C1.keep ba (by omega)
  replace z1 : (w.heap.size + 1) + 1 ≤ (V10.alloc (.cells #[.bool yn, .string yi, .string yf] 23)).heap.size := by have := ba.size; omega
  replace C2 := C2.keep ba (by omega)
  replace z2 : (w.heap.size + 2) + 1 ≤ (V10.alloc (.cells #[.bool yn, .string yi, .string yf] 23)).heap.size := by have := ba.size; omega
  replace C3 := C3.keep ba (by omega)
  replace z3 : V7.heap.size + 1 ≤ (V10.alloc (.cells #[.bool yn, .string yi, .string yf] 23)).heap.size := by have := ba.size; omega
  replace C4 := C4.keep ba (by omega)
  replace z4 : V9.heap.size + 1 ≤ (V10.alloc (.cells #[.bool yn, .string yi, .string yf] 23)).heap.size := by have := ba.size; omega
  replace HB := Lib.hid (HB.out.trans (ba.mono HB.out.size))
  clear ba
  have C5 : Cells3 (V10.alloc (.cells #[.bool yn, .string yi, .string yf] 23)) V10.heap.size (.bool yn) (.string yi) (.string yf) := (one_box V10 _ _ _ _).2.1
  have z5 : V10.heap.size + 1 ≤ (V10.alloc (.cells #[.bool yn, .string yi, .string yf] 23)).heap.size := by simp
  have o00 := C0.1
  have o10 := C1.1
  have o20 := C2.1
  have o30 := C3.1
  have o40 := C4.1
  have o50 := C5.1
  have o01 := C0.2.1
  have o02 := C0.2.2
  have o11 := C1.2.1
  have o12 := C1.2.2
  have o21 := C2.2.1
  have o22 := C2.2.2
  have o31 := C3.2.1
  have o32 := C3.2.2
  have o41 := C4.2.1
  have o42 := C4.2.2
  have o51 := C5.2.1
  have o52 := C5.2.2
  go_wp2
  go_ret
  exact ⟨rfl, HB.out⟩

set_option maxHeartbeats 4000000 in
set_option maxRecDepth 100000 in
theorem order_mdown_ok_i (an bn cn : Bool) (ai af bi bf ci cf : ByteArray) (w : World) (bc : Int) (dn : Bool) (di df : ByteArray) (xn : Bool) (xi xf : ByteArray) (yi : ByteArray) (yf : ByteArray) (HF : ∀ (g : Nat) (wx : World), g = wx.heap.size → Calls Try.prog 40 #[.slice (some ⟨g, 0, none⟩) 3 3] (wx.alloc (.cells #[.bool an, .string ai, .string af, .bool bn, .string bi, .string bf, .bool cn, .string ci, .string cf] 23)) fun e w' => e = .returned (.bool true) ∧ Below wx.heap.size wx w') (H1 : ∀ wx : World, Calls Try.prog 21 #[(.agg #[.bool an, .string ai, .string af]), (.agg #[.bool bn, .string bi, .string bf])] wx fun e w' => e = .returned (.tuple #[(.int .i64 (-1)), .int .i64 0]) ∧ Below wx.heap.size wx w') (H2 : ∀ wx : World, Calls Try.prog 21 #[(.agg #[.bool bn, .string bi, .string bf]), (.agg #[.bool an, .string ai, .string af])] wx fun e w' => e = .returned (.tuple #[(.int .i64 1), .int .i64 0]) ∧ Below wx.heap.size wx w') (H3 : ∀ wx : World, Calls Try.prog 21 #[(.agg #[.bool bn, .string bi, .string bf]), (.agg #[.bool cn, .string ci, .string cf])] wx fun e w' => e = .returned (.tuple #[(.int .i64 bc), .int .i64 0]) ∧ Below wx.heap.size wx w') (H4 : ∀ wx : World, Calls Try.prog 21 #[(.agg #[.bool an, .string ai, .string af]), (.agg #[.bool cn, .string ci, .string cf])] wx fun e w' => e = .returned (.tuple #[(.int .i64 (-1)), .int .i64 0]) ∧ Below wx.heap.size wx w') (H5 : ∀ wx : World, Calls Try.prog 26 #[(.agg #[.bool an, .string ai, .string af]), (.agg #[.bool bn, .string bi, .string bf])] wx fun e w' => e = .returned (.tuple #[(.agg #[.bool dn, .string di, .string df]), .int .i64 0]) ∧ Below wx.heap.size wx w') (H6 : ∀ wx : World, Calls Try.prog 21 #[(.agg #[.bool dn, .string di, .string df]), (.agg #[.bool false, .string ⟨#[48]⟩, .string ⟨#[]⟩])] wx fun e w' => e = .returned (.tuple #[(.int .i64 (-1)), .int .i64 0]) ∧ Below wx.heap.size wx w') (H7 : ∀ wx : World, Calls Try.prog 34 #[(.agg #[.bool an, .string ai, .string af])] wx fun e w' => e = .returned (.tuple #[(.agg #[.bool xn, .string xi, .string xf]), .int .i64 0]) ∧ Below wx.heap.size wx w') (H8 : ∀ wx : World, Calls Try.prog 34 #[(.agg #[.bool bn, .string bi, .string bf])] wx fun e w' => e = .returned (.tuple #[(.agg #[.bool xn, .string yi, .string yf]), .int .i64 0]) ∧ Below wx.heap.size wx w') (hbc : bc ≤ 0) (hne : (xi.toList == yi.toList) = false) :
    Calls Try.prog 9 #[(.agg #[.bool an, .string ai, .string af]), (.agg #[.bool bn, .string bi, .string bf]), (.agg #[.bool cn, .string ci, .string cf])] w fun e w' => e = .returned (.bool true) ∧ Below w.heap.size w w' := by
  have DW := Lib.hid awake_any
  have DF := Lib.hid HF
  have D1 := Lib.hid H1
  have D2 := Lib.hid H2
  have D3 := Lib.hid H3
  have D4 := Lib.hid H4
  have D5 := Lib.hid H5
  have D6 := Lib.hid H6
  have D7 := Lib.hid H7
  have D8 := Lib.hid H8
  clear HF H1 H2 H3 H4 H5 H6 H7 H8
  have q1 : (xn == xn) = true := beq_self_eq_true _
  have q4 : decide (bc ≤ 0) = true := decide_eq_true hbc
  go_enter Try.func9, Try.ntmps9
  go_wp2_with fail
  obtain ⟨W0, hW0⟩ : ∃ W0, W0 = (((w.alloc (.cells #[.bool an, .string ai, .string af] 23)).alloc (.cells #[.bool bn, .string bi, .string bf] 23)).alloc (.cells #[.bool cn, .string ci, .string cf] 23)) := ⟨_, rfl⟩
  obtain ⟨hB, hz, C0, C1, C2, _⟩ : Below w.heap.size w W0 ∧ w.heap.size + 3 ≤ W0.heap.size ∧ Cells3 W0 w.heap.size (.bool an) (.string ai) (.string af) ∧ Cells3 W0 (w.heap.size + 1) (.bool bn) (.string bi) (.string bf) ∧ Cells3 W0 (w.heap.size + 2) (.bool cn) (.string ci) (.string cf) ∧ ∀ i, W0.frozen? ⟨(w.heap.size + 2), i, none⟩ = false := by rw [hW0]; exact ⟨below_three w _ _ _, three_boxes w _ _ _ _ _ _ _ _ _ _⟩
  have z0 : w.heap.size + 1 ≤ W0.heap.size := by omega
  have z1 : (w.heap.size + 1) + 1 ≤ W0.heap.size := by omega
  have z2 : (w.heap.size + 2) + 1 ≤ W0.heap.size := by omega
  rw [← hW0]
  have HB := Lib.hid hB
  clear hW0 hB hz
  (with_reducible refine (DW.out _).mono ?_)
  rintro e V1 ⟨rfl, hb⟩
  replace C0 := C0.keep hb (by omega)
  replace z0 : w.heap.size + 1 ≤ V1.heap.size := by have := hb.size; omega
  replace C1 := C1.keep hb (by omega)
  replace z1 : (w.heap.size + 1) + 1 ≤ V1.heap.size := by have := hb.size; omega
  replace C2 := C2.keep hb (by omega)
  replace z2 : (w.heap.size + 2) + 1 ≤ V1.heap.size := by have := hb.size; omega
  replace HB := Lib.hid (HB.out.trans (hb.mono HB.out.size))
  clear hb
  have o00 := C0.1
  have o10 := C1.1
  have o20 := C2.1
  have o01 := C0.2.1
  have o02 := C0.2.2
  have o11 := C1.2.1
  have o12 := C1.2.2
  have o21 := C2.2.1
  have o22 := C2.2.2
  go_wp2_with fail
  clear o00 o01 o02 o10 o11 o12 o20 o21 o22
  (with_reducible refine (DF.out _ _ ?_).mono ?_)
  · rfl
  rintro e V2 ⟨rfl, hb⟩
  replace C0 := C0.keep hb (by omega)
  replace z0 : w.heap.size + 1 ≤ V2.heap.size := by have := hb.size; omega
  replace C1 := C1.keep hb (by omega)
  replace z1 : (w.heap.size + 1) + 1 ≤ V2.heap.size := by have := hb.size; omega
  replace C2 := C2.keep hb (by omega)
  replace z2 : (w.heap.size + 2) + 1 ≤ V2.heap.size := by have := hb.size; omega
  replace HB := Lib.hid (HB.out.trans (hb.mono HB.out.size))
  clear hb
  have o00 := C0.1
  have o10 := C1.1
  have o20 := C2.1
  have o01 := C0.2.1
  have o02 := C0.2.2
  have o11 := C1.2.1
  have o12 := C1.2.2
  have o21 := C2.2.1
  have o22 := C2.2.2
  go_wp2_with fail
  clear o00 o01 o02 o10 o11 o12 o20 o21 o22
  (with_reducible refine (D1.out _).mono ?_)
  rintro e V3 ⟨rfl, hb⟩
  replace C0 := C0.keep hb (by omega)
  replace z0 : w.heap.size + 1 ≤ V3.heap.size := by have := hb.size; omega
  replace C1 := C1.keep hb (by omega)
  replace z1 : (w.heap.size + 1) + 1 ≤ V3.heap.size := by have := hb.size; omega
  replace C2 := C2.keep hb (by omega)
  replace z2 : (w.heap.size + 2) + 1 ≤ V3.heap.size := by have := hb.size; omega
  replace HB := Lib.hid (HB.out.trans (hb.mono HB.out.size))
  clear hb
  have o00 := C0.1
  have o10 := C1.1
  have o20 := C2.1
  have o01 := C0.2.1
  have o02 := C0.2.2
  have o11 := C1.2.1
  have o12 := C1.2.2
  have o21 := C2.2.1
  have o22 := C2.2.2
  go_wp2_with fail
  clear o00 o01 o02 o10 o11 o12 o20 o21 o22
  (with_reducible refine (D2.out _).mono ?_)
  rintro e V4 ⟨rfl, hb⟩
  replace C0 := C0.keep hb (by omega)
  replace z0 : w.heap.size + 1 ≤ V4.heap.size := by have := hb.size; omega
  replace C1 := C1.keep hb (by omega)
  replace z1 : (w.heap.size + 1) + 1 ≤ V4.heap.size := by have := hb.size; omega
  replace C2 := C2.keep hb (by omega)
  replace z2 : (w.heap.size + 2) + 1 ≤ V4.heap.size := by have := hb.size; omega
  replace HB := Lib.hid (HB.out.trans (hb.mono HB.out.size))
  clear hb
  have o00 := C0.1
  have o10 := C1.1
  have o20 := C2.1
  have o01 := C0.2.1
  have o02 := C0.2.2
  have o11 := C1.2.1
  have o12 := C1.2.2
  have o21 := C2.2.1
  have o22 := C2.2.2
  go_wp2_with fail
  clear o00 o01 o02 o10 o11 o12 o20 o21 o22
  (with_reducible refine (D3.out _).mono ?_)
  rintro e V5 ⟨rfl, hb⟩
  replace C0 := C0.keep hb (by omega)
  replace z0 : w.heap.size + 1 ≤ V5.heap.size := by have := hb.size; omega
  replace C1 := C1.keep hb (by omega)
  replace z1 : (w.heap.size + 1) + 1 ≤ V5.heap.size := by have := hb.size; omega
  replace C2 := C2.keep hb (by omega)
  replace z2 : (w.heap.size + 2) + 1 ≤ V5.heap.size := by have := hb.size; omega
  replace HB := Lib.hid (HB.out.trans (hb.mono HB.out.size))
  clear hb
  have o00 := C0.1
  have o10 := C1.1
  have o20 := C2.1
  have o01 := C0.2.1
  have o02 := C0.2.2
  have o11 := C1.2.1
  have o12 := C1.2.2
  have o21 := C2.2.1
  have o22 := C2.2.2
  go_wp2_with fail
  clear o00 o01 o02 o10 o11 o12 o20 o21 o22
  (with_reducible refine (D4.out _).mono ?_)
  rintro e V6 ⟨rfl, hb⟩
  replace C0 := C0.keep hb (by omega)
  replace z0 : w.heap.size + 1 ≤ V6.heap.size := by have := hb.size; omega
  replace C1 := C1.keep hb (by omega)
  replace z1 : (w.heap.size + 1) + 1 ≤ V6.heap.size := by have := hb.size; omega
  replace C2 := C2.keep hb (by omega)
  replace z2 : (w.heap.size + 2) + 1 ≤ V6.heap.size := by have := hb.size; omega
  replace HB := Lib.hid (HB.out.trans (hb.mono HB.out.size))
  clear hb
  have o00 := C0.1
  have o10 := C1.1
  have o20 := C2.1
  have o01 := C0.2.1
  have o02 := C0.2.2
  have o11 := C1.2.1
  have o12 := C1.2.2
  have o21 := C2.2.1
  have o22 := C2.2.2
  go_wp2_with fail
  clear o00 o01 o02 o10 o11 o12 o20 o21 o22
  (with_reducible refine (D5.out _).mono ?_)
  rintro e V7 ⟨rfl, hb⟩
  replace C0 := C0.keep hb (by omega)
  replace z0 : w.heap.size + 1 ≤ V7.heap.size := by have := hb.size; omega
  replace C1 := C1.keep hb (by omega)
  replace z1 : (w.heap.size + 1) + 1 ≤ V7.heap.size := by have := hb.size; omega
  replace C2 := C2.keep hb (by omega)
  replace z2 : (w.heap.size + 2) + 1 ≤ V7.heap.size := by have := hb.size; omega
  replace HB := Lib.hid (HB.out.trans (hb.mono HB.out.size))
  clear hb
  have ba : Below V7.heap.size V7 (V7.alloc (.cells #[.bool dn, .string di, .string df] 23)) := (Below.refl _ _).alloc (Nat.le_refl _) _
  replace C0 := C0.keep ba (by omega)
  replace z0 : w.heap.size + 1 ≤ (V7.alloc (.cells #[.bool dn, .string di, .string df] 23)).heap.size := by have := ba.size; omega
  replace C1 := C1.keep ba (by omega)
  replace z1 : (w.heap.size + 1) + 1 ≤ (V7.alloc (.cells #[.bool dn, .string di, .string df] 23)).heap.size := by have := ba.size; omega
  replace C2 := C2.keep ba (by omega)
  replace z2 : (w.heap.size + 2) + 1 ≤ (V7.alloc (.cells #[.bool dn, .string di, .string df] 23)).heap.size := by have := ba.size; omega
  replace HB := Lib.hid (HB.out.trans (ba.mono HB.out.size))
  clear ba
  have C3 : Cells3 (V7.alloc (.cells #[.bool dn, .string di, .string df] 23)) V7.heap.size (.bool dn) (.string di) (.string df) := (one_box V7 _ _ _ _).2.1
  have z3 : V7.heap.size + 1 ≤ (V7.alloc (.cells #[.bool dn, .string di, .string df] 23)).heap.size := by simp
  have o00 := C0.1
  have o10 := C1.1
  have o20 := C2.1
  have o30 := C3.1
  have o01 := C0.2.1
  have o02 := C0.2.2
  have o11 := C1.2.1
  have o12 := C1.2.2
  have o21 := C2.2.1
  have o22 := C2.2.2
  have o31 := C3.2.1
  have o32 := C3.2.2
  go_wp2_with fail
  clear o00 o01 o02 o10 o11 o12 o20 o21 o22 o30 o31 o32
  obtain ⟨V7x, hV7x⟩ : ∃ V7x, V7x = V7.alloc (.cells #[.bool dn, .string di, .string df] 23) := ⟨_, rfl⟩
  have HX := Lib.hid (show V7.heap.size + 1 = V7x.heap.size by rw [hV7x]; simp)
  rw [← hV7x]
  rw [← hV7x] at HB C0 z0 C1 z1 C2 z2 C3 z3
  clear hV7x
  (with_reducible refine (D6.out _).mono ?_)
  rintro e V8 ⟨rfl, hb⟩
  replace C0 := C0.keep hb (by omega)
  replace z0 : w.heap.size + 1 ≤ V8.heap.size := by have := hb.size; omega
  replace C1 := C1.keep hb (by omega)
  replace z1 : (w.heap.size + 1) + 1 ≤ V8.heap.size := by have := hb.size; omega
  replace C2 := C2.keep hb (by omega)
  replace z2 : (w.heap.size + 2) + 1 ≤ V8.heap.size := by have := hb.size; omega
  replace C3 := C3.keep hb (by omega)
  replace z3 : V7.heap.size + 1 ≤ V8.heap.size := by have := hb.size; omega
  replace HB := Lib.hid (HB.out.trans (hb.mono HB.out.size))
  clear hb
  have o00 := C0.1
  have o10 := C1.1
  have o20 := C2.1
  have o30 := C3.1
  have o01 := C0.2.1
  have o02 := C0.2.2
  have o11 := C1.2.1
  have o12 := C1.2.2
  have o21 := C2.2.1
  have o22 := C2.2.2
  have o31 := C3.2.1
  have o32 := C3.2.2
  go_wp2_with fail
  clear o00 o01 o02 o10 o11 o12 o20 o21 o22 o30 o31 o32
  (with_reducible refine (D7.out _).mono ?_)
  rintro e V9 ⟨rfl, hb⟩
  replace C0 := C0.keep hb (by omega)
  replace z0 : w.heap.size + 1 ≤ V9.heap.size := by have := hb.size; omega
  replace C1 := C1.keep hb (by omega)
  replace z1 : (w.heap.size + 1) + 1 ≤ V9.heap.size := by have := hb.size; omega
  replace C2 := C2.keep hb (by omega)
  replace z2 : (w.heap.size + 2) + 1 ≤ V9.heap.size := by have := hb.size; omega
  replace C3 := C3.keep hb (by omega)
  replace z3 : V7.heap.size + 1 ≤ V9.heap.size := by have := hb.size; omega
  replace HB := Lib.hid (HB.out.trans (hb.mono HB.out.size))
  clear hb
  have ba : Below V9.heap.size V9 (V9.alloc (.cells #[.bool xn, .string xi, .string xf] 23)) := (Below.refl _ _).alloc (Nat.le_refl _) _
  replace C0 := C0.keep ba (by omega)
  replace z0 : w.heap.size + 1 ≤ (V9.alloc (.cells #[.bool xn, .string xi, .string xf] 23)).heap.size := by have := ba.size; omega
  replace C1 := C1.keep ba (by omega)
  replace z1 : (w.heap.size + 1) + 1 ≤ (V9.alloc (.cells #[.bool xn, .string xi, .string xf] 23)).heap.size := by have := ba.size; omega
  replace C2 := C2.keep ba (by omega)
  replace z2 : (w.heap.size + 2) + 1 ≤ (V9.alloc (.cells #[.bool xn, .string xi, .string xf] 23)).heap.size := by have := ba.size; omega
  replace C3 := C3.keep ba (by omega)
  replace z3 : V7.heap.size + 1 ≤ (V9.alloc (.cells #[.bool xn, .string xi, .string xf] 23)).heap.size := by have := ba.size; omega
  replace HB := Lib.hid (HB.out.trans (ba.mono HB.out.size))
  clear ba
  have C4 : Cells3 (V9.alloc (.cells #[.bool xn, .string xi, .string xf] 23)) V9.heap.size (.bool xn) (.string xi) (.string xf) := (one_box V9 _ _ _ _).2.1
  have z4 : V9.heap.size + 1 ≤ (V9.alloc (.cells #[.bool xn, .string xi, .string xf] 23)).heap.size := by simp
  have o00 := C0.1
  have o10 := C1.1
  have o20 := C2.1
  have o30 := C3.1
  have o40 := C4.1
  have o01 := C0.2.1
  have o02 := C0.2.2
  have o11 := C1.2.1
  have o12 := C1.2.2
  have o21 := C2.2.1
  have o22 := C2.2.2
  have o31 := C3.2.1
  have o32 := C3.2.2
  have o41 := C4.2.1
  have o42 := C4.2.2
  go_wp2_with fail
  clear o00 o01 o02 o10 o11 o12 o20 o21 o22 o30 o31 o32 o40 o41 o42
  obtain ⟨V9x, hV9x⟩ : ∃ V9x, V9x = V9.alloc (.cells #[.bool xn, .string xi, .string xf] 23) := ⟨_, rfl⟩
  have HX := Lib.hid (show V9.heap.size + 1 = V9x.heap.size by rw [hV9x]; simp)
  rw [← hV9x]
  rw [← hV9x] at HB C0 z0 C1 z1 C2 z2 C3 z3 C4 z4
  clear hV9x
  (with_reducible refine (D8.out _).mono ?_)
  rintro e V10 ⟨rfl, hb⟩
  replace C0 := C0.keep hb (by omega)
  replace z0 : w.heap.size + 1 ≤ V10.heap.size := by have := hb.size; omega
  replace C1 := C1.keep hb (by omega)
  replace z1 : (w.heap.size + 1) + 1 ≤ V10.heap.size := by have := hb.size; omega
  replace C2 := C2.keep hb (by omega)
  replace z2 : (w.heap.size + 2) + 1 ≤ V10.heap.size := by have := hb.size; omega
  replace C3 := C3.keep hb (by omega)
  replace z3 : V7.heap.size + 1 ≤ V10.heap.size := by have := hb.size; omega
  replace C4 := C4.keep hb (by omega)
  replace z4 : V9.heap.size + 1 ≤ V10.heap.size := by have := hb.size; omega
  replace HB := Lib.hid (HB.out.trans (hb.mono HB.out.size))
  clear hb
  have ba : Below V10.heap.size V10 (V10.alloc (.cells #[.bool xn, .string yi, .string yf] 23)) := (Below.refl _ _).alloc (Nat.le_refl _) _
  replace C0 := C0.keep ba (by omega)
  replace z0 : w.heap.size + 1 ≤ (V10.alloc (.cells #[.bool xn, .string yi, .string yf] 23)).heap.size := by have := ba.size; omega
  replace C1 := C1.keep ba (by omega)
  replace z1 : (w.heap.size + 1) + 1 ≤ (V10.alloc (.cells #[.bool xn, .string yi, .string yf] 23)).heap.size := by have := ba.size; omega
  replace C2 := C2.keep ba (by omega)
  replace z2 : (w.heap.size + 2) + 1 ≤ (V10.alloc (.cells #[.bool xn, .string yi, .string yf] 23)).heap.size := by have := ba.size; omega
  replace C3 := C3.keep ba (by omega)
  replace z3 : V7.heap.size + 1 ≤ (V10.alloc (.cells #[.bool xn, .string yi, .string yf] 23)).heap.size := by have := ba.size; omega
  replace C4 := C4.keep ba (by omega)
  replace z4 : V9.heap.size + 1 ≤ (V10.alloc (.cells #[.bool xn, .string yi, .string yf] 23)).heap.size := by have := ba.size; omega
  replace HB := Lib.hid (HB.out.trans (ba.mono HB.out.size))
  clear ba
  have C5 : Cells3 (V10.alloc (.cells #[.bool xn, .string yi, .string yf] 23)) V10.heap.size (.bool xn) (.string yi) (.string yf) := (one_box V10 _ _ _ _).2.1
  have z5 : V10.heap.size + 1 ≤ (V10.alloc (.cells #[.bool xn, .string yi, .string yf] 23)).heap.size := by simp
  have o00 := C0.1
  have o10 := C1.1
  have o20 := C2.1
  have o30 := C3.1
  have o40 := C4.1
  have o50 := C5.1
  have o01 := C0.2.1
  have o02 := C0.2.2
  have o11 := C1.2.1
  have o12 := C1.2.2
  have o21 := C2.2.1
  have o22 := C2.2.2
  have o31 := C3.2.1
  have o32 := C3.2.2
  have o41 := C4.2.1
  have o42 := C4.2.2
  have o51 := C5.2.1
  have o52 := C5.2.2
  go_wp2
  go_ret
  exact ⟨rfl, HB.out⟩

set_option maxHeartbeats 4000000 in
set_option maxRecDepth 100000 in
theorem order_mdown_ok_f (an bn cn : Bool) (ai af bi bf ci cf : ByteArray) (w : World) (bc : Int) (dn : Bool) (di df : ByteArray) (xn : Bool) (xi xf : ByteArray) (yf : ByteArray) (HF : ∀ (g : Nat) (wx : World), g = wx.heap.size → Calls Try.prog 40 #[.slice (some ⟨g, 0, none⟩) 3 3] (wx.alloc (.cells #[.bool an, .string ai, .string af, .bool bn, .string bi, .string bf, .bool cn, .string ci, .string cf] 23)) fun e w' => e = .returned (.bool true) ∧ Below wx.heap.size wx w') (H1 : ∀ wx : World, Calls Try.prog 21 #[(.agg #[.bool an, .string ai, .string af]), (.agg #[.bool bn, .string bi, .string bf])] wx fun e w' => e = .returned (.tuple #[(.int .i64 (-1)), .int .i64 0]) ∧ Below wx.heap.size wx w') (H2 : ∀ wx : World, Calls Try.prog 21 #[(.agg #[.bool bn, .string bi, .string bf]), (.agg #[.bool an, .string ai, .string af])] wx fun e w' => e = .returned (.tuple #[(.int .i64 1), .int .i64 0]) ∧ Below wx.heap.size wx w') (H3 : ∀ wx : World, Calls Try.prog 21 #[(.agg #[.bool bn, .string bi, .string bf]), (.agg #[.bool cn, .string ci, .string cf])] wx fun e w' => e = .returned (.tuple #[(.int .i64 bc), .int .i64 0]) ∧ Below wx.heap.size wx w') (H4 : ∀ wx : World, Calls Try.prog 21 #[(.agg #[.bool an, .string ai, .string af]), (.agg #[.bool cn, .string ci, .string cf])] wx fun e w' => e = .returned (.tuple #[(.int .i64 (-1)), .int .i64 0]) ∧ Below wx.heap.size wx w') (H5 : ∀ wx : World, Calls Try.prog 26 #[(.agg #[.bool an, .string ai, .string af]), (.agg #[.bool bn, .string bi, .string bf])] wx fun e w' => e = .returned (.tuple #[(.agg #[.bool dn, .string di, .string df]), .int .i64 0]) ∧ Below wx.heap.size wx w') (H6 : ∀ wx : World, Calls Try.prog 21 #[(.agg #[.bool dn, .string di, .string df]), (.agg #[.bool false, .string ⟨#[48]⟩, .string ⟨#[]⟩])] wx fun e w' => e = .returned (.tuple #[(.int .i64 (-1)), .int .i64 0]) ∧ Below wx.heap.size wx w') (H7 : ∀ wx : World, Calls Try.prog 34 #[(.agg #[.bool an, .string ai, .string af])] wx fun e w' => e = .returned (.tuple #[(.agg #[.bool xn, .string xi, .string xf]), .int .i64 0]) ∧ Below wx.heap.size wx w') (H8 : ∀ wx : World, Calls Try.prog 34 #[(.agg #[.bool bn, .string bi, .string bf])] wx fun e w' => e = .returned (.tuple #[(.agg #[.bool xn, .string xi, .string yf]), .int .i64 0]) ∧ Below wx.heap.size wx w') (hbc : bc ≤ 0) (hne : (xf.toList == yf.toList) = false) :
    Calls Try.prog 9 #[(.agg #[.bool an, .string ai, .string af]), (.agg #[.bool bn, .string bi, .string bf]), (.agg #[.bool cn, .string ci, .string cf])] w fun e w' => e = .returned (.bool true) ∧ Below w.heap.size w w' := by
  have DW := Lib.hid awake_any
  have DF := Lib.hid HF
  have D1 := Lib.hid H1
  have D2 := Lib.hid H2
  have D3 := Lib.hid H3
  have D4 := Lib.hid H4
  have D5 := Lib.hid H5
  have D6 := Lib.hid H6
  have D7 := Lib.hid H7
  have D8 := Lib.hid H8
  clear HF H1 H2 H3 H4 H5 H6 H7 H8
  have q1 : (xn == xn) = true := beq_self_eq_true _
  have q2 : (xi.toList == xi.toList) = true := beq_self_eq_true _
  have q4 : decide (bc ≤ 0) = true := decide_eq_true hbc
  go_enter Try.func9, Try.ntmps9
  go_wp2_with fail
  obtain ⟨W0, hW0⟩ : ∃ W0, W0 = (((w.alloc (.cells #[.bool an, .string ai, .string af] 23)).alloc (.cells #[.bool bn, .string bi, .string bf] 23)).alloc (.cells #[.bool cn, .string ci, .string cf] 23)) := ⟨_, rfl⟩
  obtain ⟨hB, hz, C0, C1, C2, _⟩ : Below w.heap.size w W0 ∧ w.heap.size + 3 ≤ W0.heap.size ∧ Cells3 W0 w.heap.size (.bool an) (.string ai) (.string af) ∧ Cells3 W0 (w.heap.size + 1) (.bool bn) (.string bi) (.string bf) ∧ Cells3 W0 (w.heap.size + 2) (.bool cn) (.string ci) (.string cf) ∧ ∀ i, W0.frozen? ⟨(w.heap.size + 2), i, none⟩ = false := by rw [hW0]; exact ⟨below_three w _ _ _, three_boxes w _ _ _ _ _ _ _ _ _ _⟩
  have z0 : w.heap.size + 1 ≤ W0.heap.size := by omega
  have z1 : (w.heap.size + 1) + 1 ≤ W0.heap.size := by omega
  have z2 : (w.heap.size + 2) + 1 ≤ W0.heap.size := by omega
  rw [← hW0]
  have HB := Lib.hid hB
  clear hW0 hB hz
  (with_reducible refine (DW.out _).mono ?_)
  rintro e V1 ⟨rfl, hb⟩
  replace C0 := C0.keep hb (by omega)
  replace z0 : w.heap.size + 1 ≤ V1.heap.size := by have := hb.size; omega
  replace C1 := C1.keep hb (by omega)
  replace z1 : (w.heap.size + 1) + 1 ≤ V1.heap.size := by have := hb.size; omega
  replace C2 := C2.keep hb (by omega)
  replace z2 : (w.heap.size + 2) + 1 ≤ V1.heap.size := by have := hb.size; omega
  replace HB := Lib.hid (HB.out.trans (hb.mono HB.out.size))
  clear hb
  have o00 := C0.1
  have o10 := C1.1
  have o20 := C2.1
  have o01 := C0.2.1
  have o02 := C0.2.2
  have o11 := C1.2.1
  have o12 := C1.2.2
  have o21 := C2.2.1
  have o22 := C2.2.2
  go_wp2_with fail
  clear o00 o01 o02 o10 o11 o12 o20 o21 o22
  (with_reducible refine (DF.out _ _ ?_).mono ?_)
  · rfl
  rintro e V2 ⟨rfl, hb⟩
  replace C0 := C0.keep hb (by omega)
  replace z0 : w.heap.size + 1 ≤ V2.heap.size := by have := hb.size; omega
  replace C1 := C1.keep hb (by omega)
  replace z1 : (w.heap.size + 1) + 1 ≤ V2.heap.size := by have := hb.size; omega
  replace C2 := C2.keep hb (by omega)
  replace z2 : (w.heap.size + 2) + 1 ≤ V2.heap.size := by have := hb.size; omega
  replace HB := Lib.hid (HB.out.trans (hb.mono HB.out.size))
  clear hb
  have o00 := C0.1
  have o10 := C1.1
  have o20 := C2.1
  have o01 := C0.2.1
  have o02 := C0.2.2
  have o11 := C1.2.1
  have o12 := C1.2.2
  have o21 := C2.2.1
  have o22 := C2.2.2
  go_wp2_with fail
  clear o00 o01 o02 o10 o11 o12 o20 o21 o22
  (with_reducible refine (D1.out _).mono ?_)
  rintro e V3 ⟨rfl, hb⟩
  replace C0 := C0.keep hb (by omega)
  replace z0 : w.heap.size + 1 ≤ V3.heap.size := by have := hb.size; omega
  replace C1 := C1.keep hb (by omega)
  replace z1 : (w.heap.size + 1) + 1 ≤ V3.heap.size := by have := hb.size; omega
  replace C2 := C2.keep hb (by omega)
  replace z2 : (w.heap.size + 2) + 1 ≤ V3.heap.size := by have := hb.size; omega
  replace HB := Lib.hid (HB.out.trans (hb.mono HB.out.size))
  clear hb
  have o00 := C0.1
  have o10 := C1.1
  have o20 := C2.1
  have o01 := C0.2.1
  have o02 := C0.2.2
  have o11 := C1.2.1
  have o12 := C1.2.2
  have o21 := C2.2.1
  have o22 := C2.2.2
  go_wp2_with fail
  clear o00 o01 o02 o10 o11 o12 o20 o21 o22
  (with_reducible refine (D2.out _).mono ?_)
  rintro e V4 ⟨rfl, hb⟩
  replace C0 := C0.keep hb (by omega)
  replace z0 : w.heap.size + 1 ≤ V4.heap.size := by have := hb.size; omega
  replace C1 := C1.keep hb (by omega)
  replace z1 : (w.heap.size + 1) + 1 ≤ V4.heap.size := by have := hb.size; omega
  replace C2 := C2.keep hb (by omega)
  replace z2 : (w.heap.size + 2) + 1 ≤ V4.heap.size := by have := hb.size; omega
  replace HB := Lib.hid (HB.out.trans (hb.mono HB.out.size))
  clear hb
  have o00 := C0.1
  have o10 := C1.1
  have o20 := C2.1
  have o01 := C0.2.1
  have o02 := C0.2.2
  have o11 := C1.2.1
  have o12 := C1.2.2
  have o21 := C2.2.1
  have o22 := C2.2.2
  go_wp2_with fail
  clear o00 o01 o02 o10 o11 o12 o20 o21 o22
  (with_reducible refine (D3.out _).mono ?_)
  rintro e V5 ⟨rfl, hb⟩
  replace C0 := C0.keep hb (by omega)
  replace z0 : w.heap.size + 1 ≤ V5.heap.size := by have := hb.size; omega
  replace C1 := C1.keep hb (by omega)
  replace z1 : (w.heap.size + 1) + 1 ≤ V5.heap.size := by have := hb.size; omega
  replace C2 := C2.keep hb (by omega)
  replace z2 : (w.heap.size + 2) + 1 ≤ V5.heap.size := by have := hb.size; omega
  replace HB := Lib.hid (HB.out.trans (hb.mono HB.out.size))
  clear hb
  have o00 := C0.1
  have o10 := C1.1
  have o20 := C2.1
  have o01 := C0.2.1
  have o02 := C0.2.2
  have o11 := C1.2.1
  have o12 := C1.2.2
  have o21 := C2.2.1
  have o22 := C2.2.2
  go_wp2_with fail
  clear o00 o01 o02 o10 o11 o12 o20 o21 o22
  (with_reducible refine (D4.out _).mono ?_)
  rintro e V6 ⟨rfl, hb⟩
  replace C0 := C0.keep hb (by omega)
  replace z0 : w.heap.size + 1 ≤ V6.heap.size := by have := hb.size; omega
  replace C1 := C1.keep hb (by omega)
  replace z1 : (w.heap.size + 1) + 1 ≤ V6.heap.size := by have := hb.size; omega
  replace C2 := C2.keep hb (by omega)
  replace z2 : (w.heap.size + 2) + 1 ≤ V6.heap.size := by have := hb.size; omega
  replace HB := Lib.hid (HB.out.trans (hb.mono HB.out.size))
  clear hb
  have o00 := C0.1
  have o10 := C1.1
  have o20 := C2.1
  have o01 := C0.2.1
  have o02 := C0.2.2
  have o11 := C1.2.1
  have o12 := C1.2.2
  have o21 := C2.2.1
  have o22 := C2.2.2
  go_wp2_with fail
  clear o00 o01 o02 o10 o11 o12 o20 o21 o22
  (with_reducible refine (D5.out _).mono ?_)
  rintro e V7 ⟨rfl, hb⟩
  replace C0 := C0.keep hb (by omega)
  replace z0 : w.heap.size + 1 ≤ V7.heap.size := by have := hb.size; omega
  replace C1 := C1.keep hb (by omega)
  replace z1 : (w.heap.size + 1) + 1 ≤ V7.heap.size := by have := hb.size; omega
  replace C2 := C2.keep hb (by omega)
  replace z2 : (w.heap.size + 2) + 1 ≤ V7.heap.size := by have := hb.size; omega
  replace HB := Lib.hid (HB.out.trans (hb.mono HB.out.size))
  clear hb
  have ba : Below V7.heap.size V7 (V7.alloc (.cells #[.bool dn, .string di, .string df] 23)) := (Below.refl _ _).alloc (Nat.le_refl _) _
  replace C0 := C0.keep ba (by omega)
  replace z0 : w.heap.size + 1 ≤ (V7.alloc (.cells #[.bool dn, .string di, .string df] 23)).heap.size := by have := ba.size; omega
  replace C1 := C1.keep ba (by omega)
  replace z1 : (w.heap.size + 1) + 1 ≤ (V7.alloc (.cells #[.bool dn, .string di, .string df] 23)).heap.size := by have := ba.size; omega
  replace C2 := C2.keep ba (by omega)
  replace z2 : (w.heap.size + 2) + 1 ≤ (V7.alloc (.cells #[.bool dn, .string di, .string df] 23)).heap.size := by have := ba.size; omega
  replace HB := Lib.hid (HB.out.trans (ba.mono HB.out.size))
  clear ba
  have C3 : Cells3 (V7.alloc (.cells #[.bool dn, .string di, .string df] 23)) V7.heap.size (.bool dn) (.string di) (.string df) := (one_box V7 _ _ _ _).2.1
  have z3 : V7.heap.size + 1 ≤ (V7.alloc (.cells #[.bool dn, .string di, .string df] 23)).heap.size := by simp
  have o00 := C0.1
  have o10 := C1.1
  have o20 := C2.1
  have o30 := C3.1
  have o01 := C0.2.1
  have o02 := C0.2.2
  have o11 := C1.2.1
  have o12 := C1.2.2
  have o21 := C2.2.1
  have o22 := C2.2.2
  have o31 := C3.2.1
  have o32 := C3.2.2
  go_wp2_with fail
  clear o00 o01 o02 o10 o11 o12 o20 o21 o22 o30 o31 o32
  obtain ⟨V7x, hV7x⟩ : ∃ V7x, V7x = V7.alloc (.cells #[.bool dn, .string di, .string df] 23) := ⟨_, rfl⟩
  have HX := Lib.hid (show V7.heap.size + 1 = V7x.heap.size by rw [hV7x]; simp)
  rw [← hV7x]
  rw [← hV7x] at HB C0 z0 C1 z1 C2 z2 C3 z3
  clear hV7x
  (with_reducible refine (D6.out _).mono ?_)
  rintro e V8 ⟨rfl, hb⟩
  replace C0 := C0.keep hb (by omega)
  replace z0 : w.heap.size + 1 ≤ V8.heap.size := by have := hb.size; omega
  replace C1 := C1.keep hb (by omega)
  replace z1 : (w.heap.size + 1) + 1 ≤ V8.heap.size := by have := hb.size; omega
  replace C2 := C2.keep hb (by omega)
  replace z2 : (w.heap.size + 2) + 1 ≤ V8.heap.size := by have := hb.size; omega
  replace C3 := C3.keep hb (by omega)
  replace z3 : V7.heap.size + 1 ≤ V8.heap.size := by have := hb.size; omega
  replace HB := Lib.hid (HB.out.trans (hb.mono HB.out.size))
  clear hb
  have o00 := C0.1
  have o10 := C1.1
  have o20 := C2.1
  have o30 := C3.1
  have o01 := C0.2.1
  have o02 := C0.2.2
  have o11 := C1.2.1
  have o12 := C1.2.2
  have o21 := C2.2.1
  have o22 := C2.2.2
  have o31 := C3.2.1
  have o32 := C3.2.2
  go_wp2_with fail
  clear o00 o01 o02 o10 o11 o12 o20 o21 o22 o30 o31 o32
  (with_reducible refine (D7.out _).mono ?_)
  rintro e V9 ⟨rfl, hb⟩
  replace C0 := C0.keep hb (by omega)
  replace z0 : w.heap.size + 1 ≤ V9.heap.size := by have := hb.size; omega
  replace C1 := C1.keep hb (by omega)
  replace z1 : (w.heap.size + 1) + 1 ≤ V9.heap.size := by have := hb.size; omega
  replace C2 := C2.keep hb (by omega)
  replace z2 : (w.heap.size + 2) + 1 ≤ V9.heap.size := by have := hb.size; omega
  replace C3 := C3.keep hb (by omega)
  replace z3 : V7.heap.size + 1 ≤ V9.heap.size := by have := hb.size; omega
  replace HB := Lib.hid (HB.out.trans (hb.mono HB.out.size))
  clear hb
  have ba : Below V9.heap.size V9 (V9.alloc (.cells #[.bool xn, .string xi, .string xf] 23)) := (Below.refl _ _).alloc (Nat.le_refl _) _
  replace C0 := C0.keep ba (by omega)
  replace z0 : w.heap.size + 1 ≤ (V9.alloc (.cells #[.bool xn, .string xi, .string xf] 23)).heap.size := by have := ba.size; omega
  replace C1 := C1.keep ba (by omega)
  replace z1 : (w.heap.size + 1) + 1 ≤ (V9.alloc (.cells #[.bool xn, .string xi, .string xf] 23)).heap.size := by have := ba.size; omega
  replace C2 := C2.keep ba (by omega)
  replace z2 : (w.heap.size + 2) + 1 ≤ (V9.alloc (.cells #[.bool xn, .string xi, .string xf] 23)).heap.size := by have := ba.size; omega
  replace C3 := C3.keep ba (by omega)
  replace z3 : V7.heap.size + 1 ≤ (V9.alloc (.cells #[.bool xn, .string xi, .string xf] 23)).heap.size := by have := ba.size; omega
  replace HB := Lib.hid (HB.out.trans (ba.mono HB.out.size))
  clear ba
  have C4 : Cells3 (V9.alloc (.cells #[.bool xn, .string xi, .string xf] 23)) V9.heap.size (.bool xn) (.string xi) (.string xf) := (one_box V9 _ _ _ _).2.1
  have z4 : V9.heap.size + 1 ≤ (V9.alloc (.cells #[.bool xn, .string xi, .string xf] 23)).heap.size := by simp
  have o00 := C0.1
  have o10 := C1.1
  have o20 := C2.1
  have o30 := C3.1
  have o40 := C4.1
  have o01 := C0.2.1
  have o02 := C0.2.2
  have o11 := C1.2.1
  have o12 := C1.2.2
  have o21 := C2.2.1
  have o22 := C2.2.2
  have o31 := C3.2.1
  have o32 := C3.2.2
  have o41 := C4.2.1
  have o42 := C4.2.2
  go_wp2_with fail
  clear o00 o01 o02 o10 o11 o12 o20 o21 o22 o30 o31 o32 o40 o41 o42
  obtain ⟨V9x, hV9x⟩ : ∃ V9x, V9x = V9.alloc (.cells #[.bool xn, .string xi, .string xf] 23) := ⟨_, rfl⟩
  have HX := Lib.hid (show V9.heap.size + 1 = V9x.heap.size by rw [hV9x]; simp)
  rw [← hV9x]
  rw [← hV9x] at HB C0 z0 C1 z1 C2 z2 C3 z3 C4 z4
  clear hV9x
  (with_reducible refine (D8.out _).mono ?_)
  rintro e V10 ⟨rfl, hb⟩
  replace C0 := C0.keep hb (by omega)
  replace z0 : w.heap.size + 1 ≤ V10.heap.size := by have := hb.size; omega
  replace C1 := C1.keep hb (by omega)
  replace z1 : (w.heap.size + 1) + 1 ≤ V10.heap.size := by have := hb.size; omega
  replace C2 := C2.keep hb (by omega)
  replace z2 : (w.heap.size + 2) + 1 ≤ V10.heap.size := by have := hb.size; omega
  replace C3 := C3.keep hb (by omega)
  replace z3 : V7.heap.size + 1 ≤ V10.heap.size := by have := hb.size; omega
  replace C4 := C4.keep hb (by omega)
  replace z4 : V9.heap.size + 1 ≤ V10.heap.size := by have := hb.size; omega
  replace HB := Lib.hid (HB.out.trans (hb.mono HB.out.size))
  clear hb
  have ba : Below V10.heap.size V10 (V10.alloc (.cells #[.bool xn, .string xi, .string yf] 23)) := (Below.refl _ _).alloc (Nat.le_refl _) _
  replace C0 := C0.keep ba (by omega)
  replace z0 : w.heap.size + 1 ≤ (V10.alloc (.cells #[.bool xn, .string xi, .string yf] 23)).heap.size := by have := ba.size; omega
  replace C1 := C1.keep ba (by omega)
  replace z1 : (w.heap.size + 1) + 1 ≤ (V10.alloc (.cells #[.bool xn, .string xi, .string yf] 23)).heap.size := by have := ba.size; omega
  replace C2 := C2.keep ba (by omega)
  replace z2 : (w.heap.size + 2) + 1 ≤ (V10.alloc (.cells #[.bool xn, .string xi, .string yf] 23)).heap.size := by have := ba.size; omega
  replace C3 := C3.keep ba (by omega)
  replace z3 : V7.heap.size + 1 ≤ (V10.alloc (.cells #[.bool xn, .string xi, .string yf] 23)).heap.size := by have := ba.size; omega
  replace C4 := C4.keep ba (by omega)
  replace z4 : V9.heap.size + 1 ≤ (V10.alloc (.cells #[.bool xn, .string xi, .string yf] 23)).heap.size := by have := ba.size; omega
  replace HB := Lib.hid (HB.out.trans (ba.mono HB.out.size))
  clear ba
  have C5 : Cells3 (V10.alloc (.cells #[.bool xn, .string xi, .string yf] 23)) V10.heap.size (.bool xn) (.string xi) (.string yf) := (one_box V10 _ _ _ _).2.1
  have z5 : V10.heap.size + 1 ≤ (V10.alloc (.cells #[.bool xn, .string xi, .string yf] 23)).heap.size := by simp
  have o00 := C0.1
  have o10 := C1.1
  have o20 := C2.1
  have o30 := C3.1
  have o40 := C4.1
  have o50 := C5.1
  have o01 := C0.2.1
  have o02 := C0.2.2
  have o11 := C1.2.1
  have o12 := C1.2.2
  have o21 := C2.2.1
  have o22 := C2.2.2
  have o31 := C3.2.1
  have o32 := C3.2.2
  have o41 := C4.2.1
  have o42 := C4.2.2
  have o51 := C5.2.1
  have o52 := C5.2.2
  go_wp2
  go_ret
  exact ⟨rfl, HB.out⟩

set_option maxHeartbeats 4000000 in
set_option maxRecDepth 100000 in
theorem order_mdown_er_n (an bn cn : Bool) (ai af bi bf ci cf : ByteArray) (w : World) (bc : Int) (c5 : Int) (xn : Bool) (xi xf : ByteArray) (yn : Bool) (yi : ByteArray) (yf : ByteArray) (HF : ∀ (g : Nat) (wx : World), g = wx.heap.size → Calls Try.prog 40 #[.slice (some ⟨g, 0, none⟩) 3 3] (wx.alloc (.cells #[.bool an, .string ai, .string af, .bool bn, .string bi, .string bf, .bool cn, .string ci, .string cf] 23)) fun e w' => e = .returned (.bool true) ∧ Below wx.heap.size wx w') (H1 : ∀ wx : World, Calls Try.prog 21 #[(.agg #[.bool an, .string ai, .string af]), (.agg #[.bool bn, .string bi, .string bf])] wx fun e w' => e = .returned (.tuple #[(.int .i64 (-1)), .int .i64 0]) ∧ Below wx.heap.size wx w') (H2 : ∀ wx : World, Calls Try.prog 21 #[(.agg #[.bool bn, .string bi, .string bf]), (.agg #[.bool an, .string ai, .string af])] wx fun e w' => e = .returned (.tuple #[(.int .i64 1), .int .i64 0]) ∧ Below wx.heap.size wx w') (H3 : ∀ wx : World, Calls Try.prog 21 #[(.agg #[.bool bn, .string bi, .string bf]), (.agg #[.bool cn, .string ci, .string cf])] wx fun e w' => e = .returned (.tuple #[(.int .i64 bc), .int .i64 0]) ∧ Below wx.heap.size wx w') (H4 : ∀ wx : World, Calls Try.prog 21 #[(.agg #[.bool an, .string ai, .string af]), (.agg #[.bool cn, .string ci, .string cf])] wx fun e w' => e = .returned (.tuple #[(.int .i64 (-1)), .int .i64 0]) ∧ Below wx.heap.size wx w') (H5 : ∀ wx : World, Calls Try.prog 26 #[(.agg #[.bool an, .string ai, .string af]), (.agg #[.bool bn, .string bi, .string bf])] wx fun e w' => e = .returned (.tuple #[(.agg #[.bool false, .string ⟨#[]⟩, .string ⟨#[]⟩]), .int .i64 c5]) ∧ Below wx.heap.size wx w') (H7 : ∀ wx : World, Calls Try.prog 34 #[(.agg #[.bool an, .string ai, .string af])] wx fun e w' => e = .returned (.tuple #[(.agg #[.bool xn, .string xi, .string xf]), .int .i64 0]) ∧ Below wx.heap.size wx w') (H8 : ∀ wx : World, Calls Try.prog 34 #[(.agg #[.bool bn, .string bi, .string bf])] wx fun e w' => e = .returned (.tuple #[(.agg #[.bool yn, .string yi, .string yf]), .int .i64 0]) ∧ Below wx.heap.size wx w') (hbc : bc ≤ 0) (h5 : c5 ≠ 0) (hne : (xn == yn) = false) :
    Calls Try.prog 9 #[(.agg #[.bool an, .string ai, .string af]), (.agg #[.bool bn, .string bi, .string bf]), (.agg #[.bool cn, .string ci, .string cf])] w fun e w' => e = .returned (.bool true) ∧ Below w.heap.size w w' := by
  have DW := Lib.hid awake_any
  have DF := Lib.hid HF
  have D1 := Lib.hid H1
  have D2 := Lib.hid H2
  have D3 := Lib.hid H3
  have D4 := Lib.hid H4
  have D5 := Lib.hid H5
  have D7 := Lib.hid H7
  have D8 := Lib.hid H8
  clear HF H1 H2 H3 H4 H5 H7 H8
  have q4 : decide (bc ≤ 0) = true := decide_eq_true hbc
  have q5 : (c5 == 0) = false := by simpa using h5
  clear h5
  go_enter Try.func9, Try.ntmps9
  go_wp2_with fail
  obtain ⟨W0, hW0⟩ : ∃ W0, W0 = (((w.alloc (.cells #[.bool an, .string ai, .string af] 23)).alloc (.cells #[.bool bn, .string bi, .string bf] 23)).alloc (.cells #[.bool cn, .string ci, .string cf] 23)) := ⟨_, rfl⟩
  obtain ⟨hB, hz, C0, C1, C2, _⟩ : Below w.heap.size w W0 ∧ w.heap.size + 3 ≤ W0.heap.size ∧ Cells3 W0 w.heap.size (.bool an) (.string ai) (.string af) ∧ Cells3 W0 (w.heap.size + 1) (.bool bn) (.string bi) (.string bf) ∧ Cells3 W0 (w.heap.size + 2) (.bool cn) (.string ci) (.string cf) ∧ ∀ i, W0.frozen? ⟨(w.heap.size + 2), i, none⟩ = false := by rw [hW0]; exact ⟨below_three w _ _ _, three_boxes w _ _ _ _ _ _ _ _ _ _⟩
  have z0 : w.heap.size + 1 ≤ W0.heap.size := by omega
  have z1 : (w.heap.size + 1) + 1 ≤ W0.heap.size := by omega
  have z2 : (w.heap.size + 2) + 1 ≤ W0.heap.size := by omega
  rw [← hW0]
  have HB := Lib.hid hB
  clear hW0 hB hz
  (with_reducible refine (DW.out _).mono ?_)
  rintro e V1 ⟨rfl, hb⟩
  replace C0 := C0.keep hb (by omega)
  replace z0 : w.heap.size + 1 ≤ V1.heap.size := by have := hb.size; omega
  replace C1 := C1.keep hb (by omega)
  replace z1 : (w.heap.size + 1) + 1 ≤ V1.heap.size := by have := hb.size; omega
  replace C2 := C2.keep hb (by omega)
  replace z2 : (w.heap.size + 2) + 1 ≤ V1.heap.size := by have := hb.size; omega
  replace HB := Lib.hid (HB.out.trans (hb.mono HB.out.size))
  clear hb
  have o00 := C0.1
  have o10 := C1.1
  have o20 := C2.1
  have o01 := C0.2.1
  have o02 := C0.2.2
  have o11 := C1.2.1
  have o12 := C1.2.2
  have o21 := C2.2.1
  have o22 := C2.2.2
  go_wp2_with fail
  clear o00 o01 o02 o10 o11 o12 o20 o21 o22
  (with_reducible refine (DF.out _ _ ?_).mono ?_)
  · rfl
  rintro e V2 ⟨rfl, hb⟩
  replace C0 := C0.keep hb (by omega)
  replace z0 : w.heap.size + 1 ≤ V2.heap.size := by have := hb.size; omega
  replace C1 := C1.keep hb (by omega)
  replace z1 : (w.heap.size + 1) + 1 ≤ V2.heap.size := by have := hb.size; omega
  replace C2 := C2.keep hb (by omega)
  replace z2 : (w.heap.size + 2) + 1 ≤ V2.heap.size := by have := hb.size; omega
  replace HB := Lib.hid (HB.out.trans (hb.mono HB.out.size))
  clear hb
  have o00 := C0.1
  have o10 := C1.1
  have o20 := C2.1
  have o01 := C0.2.1
  have o02 := C0.2.2
  have o11 := C1.2.1
  have o12 := C1.2.2
  have o21 := C2.2.1
  have o22 := C2.2.2
  go_wp2_with fail
  clear o00 o01 o02 o10 o11 o12 o20 o21 o22
  (with_reducible refine (D1.out _).mono ?_)
  rintro e V3 ⟨rfl, hb⟩
  replace C0 := C0.keep hb (by omega)
  replace z0 : w.heap.size + 1 ≤ V3.heap.size := by have := hb.size; omega
  replace C1 := C1.keep hb (by omega)
  replace z1 : (w.heap.size + 1) + 1 ≤ V3.heap.size := by have := hb.size; omega
  replace C2 := C2.keep hb (by omega)
  replace z2 : (w.heap.size + 2) + 1 ≤ V3.heap.size := by have := hb.size; omega
  replace HB := Lib.hid (HB.out.trans (hb.mono HB.out.size))
  clear hb
  have o00 := C0.1
  have o10 := C1.1
  have o20 := C2.1
  have o01 := C0.2.1
  have o02 := C0.2.2
  have o11 := C1.2.1
  have o12 := C1.2.2
  have o21 := C2.2.1
  have o22 := C2.2.2
  go_wp2_with fail
  clear o00 o01 o02 o10 o11 o12 o20 o21 o22
  (with_reducible refine (D2.out _).mono ?_)
  rintro e V4 ⟨rfl, hb⟩
  replace C0 := C0.keep hb (by omega)
  replace z0 : w.heap.size + 1 ≤ V4.heap.size := by have := hb.size; omega
  replace C1 := C1.keep hb (by omega)
  replace z1 : (w.heap.size + 1) + 1 ≤ V4.heap.size := by have := hb.size; omega
  replace C2 := C2.keep hb (by omega)
  replace z2 : (w.heap.size + 2) + 1 ≤ V4.heap.size := by have := hb.size; omega
  replace HB := Lib.hid (HB.out.trans (hb.mono HB.out.size))
  clear hb
  have o00 := C0.1
  have o10 := C1.1
  have o20 := C2.1
  have o01 := C0.2.1
  have o02 := C0.2.2
  have o11 := C1.2.1
  have o12 := C1.2.2
  have o21 := C2.2.1
  have o22 := C2.2.2
  go_wp2_with fail
  clear o00 o01 o02 o10 o11 o12 o20 o21 o22
  (with_reducible refine (D3.out _).mono ?_)
  rintro e V5 ⟨rfl, hb⟩
  replace C0 := C0.keep hb (by omega)
  replace z0 : w.heap.size + 1 ≤ V5.heap.size := by have := hb.size; omega
  replace C1 := C1.keep hb (by omega)
  replace z1 : (w.heap.size + 1) + 1 ≤ V5.heap.size := by have := hb.size; omega
  replace C2 := C2.keep hb (by omega)
  replace z2 : (w.heap.size + 2) + 1 ≤ V5.heap.size := by have := hb.size; omega
  replace HB := Lib.hid (HB.out.trans (hb.mono HB.out.size))
  clear hb
  have o00 := C0.1
  have o10 := C1.1
  have o20 := C2.1
  have o01 := C0.2.1
  have o02 := C0.2.2
  have o11 := C1.2.1
  have o12 := C1.2.2
  have o21 := C2.2.1
  have o22 := C2.2.2
  go_wp2_with fail
  clear o00 o01 o02 o10 o11 o12 o20 o21 o22
  (with_reducible refine (D4.out _).mono ?_)
  rintro e V6 ⟨rfl, hb⟩
  replace C0 := C0.keep hb (by omega)
  replace z0 : w.heap.size + 1 ≤ V6.heap.size := by have := hb.size; omega
  replace C1 := C1.keep hb (by omega)
  replace z1 : (w.heap.size + 1) + 1 ≤ V6.heap.size := by have := hb.size; omega
  replace C2 := C2.keep hb (by omega)
  replace z2 : (w.heap.size + 2) + 1 ≤ V6.heap.size := by have := hb.size; omega
  replace HB := Lib.hid (HB.out.trans (hb.mono HB.out.size))
  clear hb
  have o00 := C0.1
  have o10 := C1.1
  have o20 := C2.1
  have o01 := C0.2.1
  have o02 := C0.2.2
  have o11 := C1.2.1
  have o12 := C1.2.2
  have o21 := C2.2.1
  have o22 := C2.2.2
  go_wp2_with fail
  clear o00 o01 o02 o10 o11 o12 o20 o21 o22
  (with_reducible refine (D5.out _).mono ?_)
  rintro e V7 ⟨rfl, hb⟩
  replace C0 := C0.keep hb (by omega)
  replace z0 : w.heap.size + 1 ≤ V7.heap.size := by have := hb.size; omega
  replace C1 := C1.keep hb (by omega)
  replace z1 : (w.heap.size + 1) + 1 ≤ V7.heap.size := by have := hb.size; omega
  replace C2 := C2.keep hb (by omega)
  replace z2 : (w.heap.size + 2) + 1 ≤ V7.heap.size := by have := hb.size; omega
  replace HB := Lib.hid (HB.out.trans (hb.mono HB.out.size))
  clear hb
  have ba : Below V7.heap.size V7 (V7.alloc (.cells #[.bool false, .string ⟨#[]⟩, .string ⟨#[]⟩] 23)) := (Below.refl _ _).alloc (Nat.le_refl _) _
  replace C0 := C0.keep ba (by omega)
  replace z0 : w.heap.size + 1 ≤ (V7.alloc (.cells #[.bool false, .string ⟨#[]⟩, .string ⟨#[]⟩] 23)).heap.size := by have := ba.size; omega
  replace C1 := C1.keep ba (by omega)
  replace z1 : (w.heap.size + 1) + 1 ≤ (V7.alloc (.cells #[.bool false, .string ⟨#[]⟩, .string ⟨#[]⟩] 23)).heap.size := by have := ba.size; omega
  replace C2 := C2.keep ba (by omega)
  replace z2 : (w.heap.size + 2) + 1 ≤ (V7.alloc (.cells #[.bool false, .string ⟨#[]⟩, .string ⟨#[]⟩] 23)).heap.size := by have := ba.size; omega
  replace HB := Lib.hid (HB.out.trans (ba.mono HB.out.size))
  clear ba
  have C3 : Cells3 (V7.alloc (.cells #[.bool false, .string ⟨#[]⟩, .string ⟨#[]⟩] 23)) V7.heap.size (.bool false) (.string ⟨#[]⟩) (.string ⟨#[]⟩) := (one_box V7 _ _ _ _).2.1
  have z3 : V7.heap.size + 1 ≤ (V7.alloc (.cells #[.bool false, .string ⟨#[]⟩, .string ⟨#[]⟩] 23)).heap.size := by simp
  have o00 := C0.1
  have o10 := C1.1
  have o20 := C2.1
  have o30 := C3.1
  have o01 := C0.2.1
  have o02 := C0.2.2
  have o11 := C1.2.1
  have o12 := C1.2.2
  have o21 := C2.2.1
  have o22 := C2.2.2
  have o31 := C3.2.1
  have o32 := C3.2.2
  go_wp2_with fail
  clear o00 o01 o02 o10 o11 o12 o20 o21 o22 o30 o31 o32
  obtain ⟨V7x, hV7x⟩ : ∃ V7x, V7x = V7.alloc (.cells #[.bool false, .string ⟨#[]⟩, .string ⟨#[]⟩] 23) := ⟨_, rfl⟩
  have HX := Lib.hid (show V7.heap.size + 1 = V7x.heap.size by rw [hV7x]; simp)
  rw [← hV7x]
  rw [← hV7x] at HB C0 z0 C1 z1 C2 z2 C3 z3
  clear hV7x
  (with_reducible refine (D7.out _).mono ?_)
  rintro e V8 ⟨rfl, hb⟩
  replace C0 := C0.keep hb (by omega)
  replace z0 : w.heap.size + 1 ≤ V8.heap.size := by have := hb.size; omega
  replace C1 := C1.keep hb (by omega)
  replace z1 : (w.heap.size + 1) + 1 ≤ V8.heap.size := by have := hb.size; omega
  replace C2 := C2.keep hb (by omega)
  replace z2 : (w.heap.size + 2) + 1 ≤ V8.heap.size := by have := hb.size; omega
  replace C3 := C3.keep hb (by omega)
  replace z3 : V7.heap.size + 1 ≤ V8.heap.size := by have := hb.size; omega
  replace HB := Lib.hid (HB.out.trans (hb.mono HB.out.size))
  clear hb
  have ba : Below V8.heap.size V8 (V8.alloc (.cells #[.bool xn, .string xi, .string xf] 23)) := (Below.refl _ _).alloc (Nat.le_refl _) _
  replace C0 := C0.keep ba (by omega)
  replace z0 : w.heap.size + 1 ≤ (V8.alloc (.cells #[.bool xn, .string xi, .string xf] 23)).heap.size := by have := ba.size; omega
  replace C1 := C1.keep ba (by omega)
  replace z1 : (w.heap.size + 1) + 1 ≤ (V8.alloc (.cells #[.bool xn, .string xi, .string xf] 23)).heap.size := by have := ba.size; omega
  replace C2 := C2.keep ba (by omega)
  replace z2 : (w.heap.size + 2) + 1 ≤ (V8.alloc (.cells #[.bool xn, .string xi, .string xf] 23)).heap.size := by have := ba.size; omega
  replace C3 := C3.keep ba (by omega)
  replace z3 : V7.heap.size + 1 ≤ (V8.alloc (.cells #[.bool xn, .string xi, .string xf] 23)).heap.size := by have := ba.size; omega
  replace HB := Lib.hid (HB.out.trans (ba.mono HB.out.size))
  clear ba
  have C4 : Cells3 (V8.alloc (.cells #[.bool xn, .string xi, .string xf] 23)) V8.heap.size (.bool xn) (.string xi) (.string xf) := (one_box V8 _ _ _ _).2.1
  have z4 : V8.heap.size + 1 ≤ (V8.alloc (.cells #[.bool xn, .string xi, .string xf] 23)).heap.size := by simp
  have o00 := C0.1
  have o10 := C1.1
  have o20 := C2.1
  have o30 := C3.1
  have o40 := C4.1
  have o01 := C0.2.1
  have o02 := C0.2.2
  have o11 := C1.2.1
  have o12 := C1.2.2
  have o21 := C2.2.1
  have o22 := C2.2.2
  have o31 := C3.2.1
  have o32 := C3.2.2
  have o41 := C4.2.1
  have o42 := C4.2.2
  go_wp2_with fail
  clear o00 o01 o02 o10 o11 o12 o20 o21 o22 o30 o31 o32 o40 o41 o42
  obtain ⟨V8x, hV8x⟩ : ∃ V8x, V8x = V8.alloc (.cells #[.bool xn, .string xi, .string xf] 23) := ⟨_, rfl⟩
  have HX := Lib.hid (show V8.heap.size + 1 = V8x.heap.size by rw [hV8x]; simp)
  rw [← hV8x]
  rw [← hV8x] at HB C0 z0 C1 z1 C2 z2 C3 z3 C4 z4
  clear hV8x
  (with_reducible refine (D8.out _).mono ?_)
  rintro e V9 ⟨rfl, hb⟩
  replace C0 := C0.keep hb (by omega)
  replace z0 : w.heap.size + 1 ≤ V9.heap.size := by have := hb.size; omega
  replace C1 := C1.keep hb (by omega)
  replace z1 : (w.heap.size + 1) + 1 ≤ V9.heap.size := by have := hb.size; omega
  replace C2 := C2.keep hb (by omega)
  replace z2 : (w.heap.size + 2) + 1 ≤ V9.heap.size := by have := hb.size; omega
  replace C3 := C3.keep hb (by omega)
  replace z3 : V7.heap.size + 1 ≤ V9.heap.size := by have := hb.size; omega
  replace C4 := C4.keep hb (by omega)
  replace z4 : V8.heap.size + 1 ≤ V9.heap.size := by have := hb.size; omega
  replace HB := Lib.hid (HB.out.trans (hb.mono HB.out.size))
  clear hb
  have ba : Below V9.heap.size V9 (V9.alloc (.cells #[.bool yn, .string yi, .string yf] 23)) := (Below.refl _ _).alloc (Nat.le_refl _) _
  replace C0 := C0.keep ba (by omega)
  replace z0 : w.heap.size + 1 ≤ (V9.alloc (.cells #[.bool yn, .string yi, .string yf] 23)).heap.size := by have := ba.size; omega
  replace C1 := C1.keep ba (by omega)
  replace z1 : (w.heap.size + 1) + 1 ≤ (V9.alloc (.cells #[.bool yn, .string yi, .string yf] 23)).heap.size := by have := ba.size; omega
  replace C2 := C2.keep ba (by omega)
  replace z2 : (w.heap.size + 2) + 1 ≤ (V9.alloc (.cells #[.bool yn, .string yi, .string yf] 23)).heap.size := by have := ba.size; omega
  replace C3 := C3.keep ba (by omega)
  replace z3 : V7.heap.size + 1 ≤ (V9.alloc (.cells #[.bool yn, .string yi, .string yf] 23)).heap.size := by have := ba.size; omega
  replace C4 := C4.keep ba (by omega)
  replace z4 : V8.heap.size + 1 ≤ (V9.alloc (.cells #[.bool yn, .string yi, .string yf] 23)).heap.size := by have := ba.size; omega
  replace HB := Lib.hid (HB.out.trans (ba.mono HB.out.size))
  clear ba
  have C5 : Cells3 (V9.alloc (.cells #[.bool yn, .string yi, .string yf] 23)) V9.heap.size (.bool yn) (.string yi) (.string yf) := (one_box V9 _ _ _ _).2.1
  have z5 : V9.heap.size + 1 ≤ (V9.alloc (.cells #[.bool yn, .string yi, .string yf] 23)).heap.size := by simp
  have o00 := C0.1
  have o10 := C1.1
  have o20 := C2.1
  have o30 := C3.1
  have o40 := C4.1
  have o50 := C5.1
  have o01 := C0.2.1
  have o02 := C0.2.2
  have o11 := C1.2.1
  have o12 := C1.2.2
  have o21 := C2.2.1
  have o22 := C2.2.2
  have o31 := C3.2.1
  have o32 := C3.2.2
  have o41 := C4.2.1
  have o42 := C4.2.2
  have o51 := C5.2.1
  have o52 := C5.2.2
  go_wp2
  go_ret
  exact ⟨rfl, HB.out⟩

set_option maxHeartbeats 4000000 in
set_option maxRecDepth 100000 in
theorem order_mdown_er_i (an bn cn : Bool) (ai af bi bf ci cf : ByteArray) (w : World) (bc : Int) (c5 : Int) (xn : Bool) (xi xf : ByteArray) (yi : ByteArray) (yf : ByteArray) (HF : ∀ (g : Nat) (wx : World), g = wx.heap.size → Calls Try.prog 40 #[.slice (some ⟨g, 0, none⟩) 3 3] (wx.alloc (.cells #[.bool an, .string ai, .string af, .bool bn, .string bi, .string bf, .bool cn, .string ci, .string cf] 23)) fun e w' => e = .returned (.bool true) ∧ Below wx.heap.size wx w') (H1 : ∀ wx : World, Calls Try.prog 21 #[(.agg #[.bool an, .string ai, .string af]), (.agg #[.bool bn, .string bi, .string bf])] wx fun e w' => e = .returned (.tuple #[(.int .i64 (-1)), .int .i64 0]) ∧ Below wx.heap.size wx w') (H2 : ∀ wx : World, Calls Try.prog 21 #[(.agg #[.bool bn, .string bi, .string bf]), (.agg #[.bool an, .string ai, .string af])] wx fun e w' => e = .returned (.tuple #[(.int .i64 1), .int .i64 0]) ∧ Below wx.heap.size wx w') (H3 : ∀ wx : World, Calls Try.prog 21 #[(.agg #[.bool bn, .string bi, .string bf]), (.agg #[.bool cn, .string ci, .string cf])] wx fun e w' => e = .returned (.tuple #[(.int .i64 bc), .int .i64 0]) ∧ Below wx.heap.size wx w') (H4 : ∀ wx : World, Calls Try.prog 21 #[(.agg #[.bool an, .string ai, .string af]), (.agg #[.bool cn, .string ci, .string cf])] wx fun e w' => e = .returned (.tuple #[(.int .i64 (-1)), .int .i64 0]) ∧ Below wx.heap.size wx w') (H5 : ∀ wx : World, Calls Try.prog 26 #[(.agg #[.bool an, .string ai, .string af]), (.agg #[.bool bn, .string bi, .string bf])] wx fun e w' => e = .returned (.tuple #[(.agg #[.bool false, .string ⟨#[]⟩, .string ⟨#[]⟩]), .int .i64 c5]) ∧ Below wx.heap.size wx w') (H7 : ∀ wx : World, Calls Try.prog 34 #[(.agg #[.bool an, .string ai, .string af])] wx fun e w' => e = .returned (.tuple #[(.agg #[.bool xn, .string xi, .string xf]), .int .i64 0]) ∧ Below wx.heap.size wx w') (H8 : ∀ wx : World, Calls Try.prog 34 #[(.agg #[.bool bn, .string bi, .string bf])] wx fun e w' => e = .returned (.tuple #[(.agg #[.bool xn, .string yi, .string yf]), .int .i64 0]) ∧ Below wx.heap.size wx w') (hbc : bc ≤ 0) (h5 : c5 ≠ 0) (hne : (xi.toList == yi.toList) = false) :
    Calls Try.prog 9 #[(.agg #[.bool an, .string ai, .string af]), (.agg #[.bool bn, .string bi, .string bf]), (.agg #[.bool cn, .string ci, .string cf])] w fun e w' => e = .returned (.bool true) ∧ Below w.heap.size w w' := by
  have DW := Lib.hid awake_any
  have DF := Lib.hid HF
  have D1 := Lib.hid H1
  have D2 := Lib.hid H2
  have D3 := Lib.hid H3
  have D4 := Lib.hid H4
  have D5 := Lib.hid H5
  have D7 := Lib.hid H7
  have D8 := Lib.hid H8
  clear HF H1 H2 H3 H4 H5 H7 H8
  have q1 : (xn == xn) = true := beq_self_eq_true _
  have q4 : decide (bc ≤ 0) = true := decide_eq_true hbc
  have q5 : (c5 == 0) = false := by simpa using h5
  clear h5
  go_enter Try.func9, Try.ntmps9
  go_wp2_with fail
  obtain ⟨W0, hW0⟩ : ∃ W0, W0 = (((w.alloc (.cells #[.bool an, .string ai, .string af] 23)).alloc (.cells #[.bool bn, .string bi, .string bf] 23)).alloc (.cells #[.bool cn, .string ci, .string cf] 23)) := ⟨_, rfl⟩
  obtain ⟨hB, hz, C0, C1, C2, _⟩ : Below w.heap.size w W0 ∧ w.heap.size + 3 ≤ W0.heap.size ∧ Cells3 W0 w.heap.size (.bool an) (.string ai) (.string af) ∧ Cells3 W0 (w.heap.size + 1) (.bool bn) (.string bi) (.string bf) ∧ Cells3 W0 (w.heap.size + 2) (.bool cn) (.string ci) (.string cf) ∧ ∀ i, W0.frozen? ⟨(w.heap.size + 2), i, none⟩ = false := by rw [hW0]; exact ⟨below_three w _ _ _, three_boxes w _ _ _ _ _ _ _ _ _ _⟩
  have z0 : w.heap.size + 1 ≤ W0.heap.size := by omega
  have z1 : (w.heap.size + 1) + 1 ≤ W0.heap.size := by omega
  have z2 : (w.heap.size + 2) + 1 ≤ W0.heap.size := by omega
  rw [← hW0]
  have HB := Lib.hid hB
  clear hW0 hB hz
  (with_reducible refine (DW.out _).mono ?_)
  rintro e V1 ⟨rfl, hb⟩
  replace C0 := C0.keep hb (by omega)
  replace z0 : w.heap.size + 1 ≤ V1.heap.size := by have := hb.size; omega
  replace C1 := C1.keep hb (by omega)
  replace z1 : (w.heap.size + 1) + 1 ≤ V1.heap.size := by have := hb.size; omega
  replace C2 := C2.keep hb (by omega)
  replace z2 : (w.heap.size + 2) + 1 ≤ V1.heap.size := by have := hb.size; omega
  replace HB := Lib.hid (HB.out.trans (hb.mono HB.out.size))
  clear hb
  have o00 := C0.1
  have o10 := C1.1
  have o20 := C2.1
  have o01 := C0.2.1
  have o02 := C0.2.2
  have o11 := C1.2.1
  have o12 := C1.2.2
  have o21 := C2.2.1
  have o22 := C2.2.2
  go_wp2_with fail
  clear o00 o01 o02 o10 o11 o12 o20 o21 o22
  (with_reducible refine (DF.out _ _ ?_).mono ?_)
  · rfl
  rintro e V2 ⟨rfl, hb⟩
  replace C0 := C0.keep hb (by omega)
  replace z0 : w.heap.size + 1 ≤ V2.heap.size := by have := hb.size; omega
  replace C1 := C1.keep hb (by omega)
  replace z1 : (w.heap.size + 1) + 1 ≤ V2.heap.size := by have := hb.size; omega
  replace C2 := C2.keep hb (by omega)
  replace z2 : (w.heap.size + 2) + 1 ≤ V2.heap.size := by have := hb.size; omega
  replace HB := Lib.hid (HB.out.trans (hb.mono HB.out.size))
  clear hb
  have o00 := C0.1
  have o10 := C1.1
  have o20 := C2.1
  have o01 := C0.2.1
  have o02 := C0.2.2
  have o11 := C1.2.1
  have o12 := C1.2.2
  have o21 := C2.2.1
  have o22 := C2.2.2
  go_wp2_with fail
  clear o00 o01 o02 o10 o11 o12 o20 o21 o22
  (with_reducible refine (D1.out _).mono ?_)
  rintro e V3 ⟨rfl, hb⟩
  replace C0 := C0.keep hb (by omega)
  replace z0 : w.heap.size + 1 ≤ V3.heap.size := by have := hb.size; omega
  replace C1 := C1.keep hb (by omega)
  replace z1 : (w.heap.size + 1) + 1 ≤ V3.heap.size := by have := hb.size; omega
  replace C2 := C2.keep hb (by omega)
  replace z2 : (w.heap.size + 2) + 1 ≤ V3.heap.size := by have := hb.size; omega
  replace HB := Lib.hid (HB.out.trans (hb.mono HB.out.size))
  clear hb
  have o00 := C0.1
  have o10 := C1.1
  have o20 := C2.1
  have o01 := C0.2.1
  have o02 := C0.2.2
  have o11 := C1.2.1
  have o12 := C1.2.2
  have o21 := C2.2.1
  have o22 := C2.2.2
  go_wp2_with fail
  clear o00 o01 o02 o10 o11 o12 o20 o21 o22
  (with_reducible refine (D2.out _).mono ?_)
  rintro e V4 ⟨rfl, hb⟩
  replace C0 := C0.keep hb (by omega)
  replace z0 : w.heap.size + 1 ≤ V4.heap.size := by have := hb.size; omega
  replace C1 := C1.keep hb (by omega)
  replace z1 : (w.heap.size + 1) + 1 ≤ V4.heap.size := by have := hb.size; omega
  replace C2 := C2.keep hb (by omega)
  replace z2 : (w.heap.size + 2) + 1 ≤ V4.heap.size := by have := hb.size; omega
  replace HB := Lib.hid (HB.out.trans (hb.mono HB.out.size))
  clear hb
  have o00 := C0.1
  have o10 := C1.1
  have o20 := C2.1
  have o01 := C0.2.1
  have o02 := C0.2.2
  have o11 := C1.2.1
  have o12 := C1.2.2
  have o21 := C2.2.1
  have o22 := C2.2.2
  go_wp2_with fail
  clear o00 o01 o02 o10 o11 o12 o20 o21 o22
  (with_reducible refine (D3.out _).mono ?_)
  rintro e V5 ⟨rfl, hb⟩
  replace C0 := C0.keep hb (by omega)
  replace z0 : w.heap.size + 1 ≤ V5.heap.size := by have := hb.size; omega
  replace C1 := C1.keep hb (by omega)
  replace z1 : (w.heap.size + 1) + 1 ≤ V5.heap.size := by have := hb.size; omega
  replace C2 := C2.keep hb (by omega)
  replace z2 : (w.heap.size + 2) + 1 ≤ V5.heap.size := by have := hb.size; omega
  replace HB := Lib.hid (HB.out.trans (hb.mono HB.out.size))
  clear hb
  have o00 := C0.1
  have o10 := C1.1
  have o20 := C2.1
  have o01 := C0.2.1
  have o02 := C0.2.2
  have o11 := C1.2.1
  have o12 := C1.2.2
  have o21 := C2.2.1
  have o22 := C2.2.2
  go_wp2_with fail
  clear o00 o01 o02 o10 o11 o12 o20 o21 o22
  (with_reducible refine (D4.out _).mono ?_)
  rintro e V6 ⟨rfl, hb⟩
  replace C0 := C0.keep hb (by omega)
  replace z0 : w.heap.size + 1 ≤ V6.heap.size := by have := hb.size; omega
  replace C1 := C1.keep hb (by omega)
  replace z1 : (w.heap.size + 1) + 1 ≤ V6.heap.size := by have := hb.size; omega
  replace C2 := C2.keep hb (by omega)
  replace z2 : (w.heap.size + 2) + 1 ≤ V6.heap.size := by have := hb.size; omega
  replace HB := Lib.hid (HB.out.trans (hb.mono HB.out.size))
  clear hb
  have o00 := C0.1
  have o10 := C1.1
  have o20 := C2.1
  have o01 := C0.2.1
  have o02 := C0.2.2
  have o11 := C1.2.1
  have o12 := C1.2.2
  have o21 := C2.2.1
  have o22 := C2.2.2
  go_wp2_with fail
  clear o00 o01 o02 o10 o11 o12 o20 o21 o22
  (with_reducible refine (D5.out _).mono ?_)
  rintro e V7 ⟨rfl, hb⟩
  replace C0 := C0.keep hb (by omega)
  replace z0 : w.heap.size + 1 ≤ V7.heap.size := by have := hb.size; omega
  replace C1 := C1.keep hb (by omega)
  replace z1 : (w.heap.size + 1) + 1 ≤ V7.heap.size := by have := hb.size; omega
  replace C2 := C2.keep hb (by omega)
  replace z2 : (w.heap.size + 2) + 1 ≤ V7.heap.size := by have := hb.size; omega
  replace HB := Lib.hid (HB.out.trans (hb.mono HB.out.size))
  clear hb
  have ba : Below V7.heap.size V7 (V7.alloc (.cells #[.bool false, .string ⟨#[]⟩, .string ⟨#[]⟩] 23)) := (Below.refl _ _).alloc (Nat.le_refl _) _
  replace C0 := C0.keep ba (by omega)
  replace z0 : w.heap.size + 1 ≤ (V7.alloc (.cells #[.bool false, .string ⟨#[]⟩, .string ⟨#[]⟩] 23)).heap.size := by have := ba.size; omega
  replace C1 := C1.keep ba (by omega)
  replace z1 : (w.heap.size + 1) + 1 ≤ (V7.alloc (.cells #[.bool false, .string ⟨#[]⟩, .string ⟨#[]⟩] 23)).heap.size := by have := ba.size; omega
  replace C2 := C2.keep ba (by omega)
  replace z2 : (w.heap.size + 2) + 1 ≤ (V7.alloc (.cells #[.bool false, .string ⟨#[]⟩, .string ⟨#[]⟩] 23)).heap.size := by have := ba.size; omega
  replace HB := Lib.hid (HB.out.trans (ba.mono HB.out.size))
  clear ba
  have C3 : Cells3 (V7.alloc (.cells #[.bool false, .string ⟨#[]⟩, .string ⟨#[]⟩] 23)) V7.heap.size (.bool false) (.string ⟨#[]⟩) (.string ⟨#[]⟩) := (one_box V7 _ _ _ _).2.1
  have z3 : V7.heap.size + 1 ≤ (V7.alloc (.cells #[.bool false, .string ⟨#[]⟩, .string ⟨#[]⟩] 23)).heap.size := by simp
  have o00 := C0.1
  have o10 := C1.1
  have o20 := C2.1
  have o30 := C3.1
  have o01 := C0.2.1
  have o02 := C0.2.2
  have o11 := C1.2.1
  have o12 := C1.2.2
  have o21 := C2.2.1
  have o22 := C2.2.2
  have o31 := C3.2.1
  have o32 := C3.2.2
  go_wp2_with fail
  clear o00 o01 o02 o10 o11 o12 o20 o21 o22 o30 o31 o32
  obtain ⟨V7x, hV7x⟩ : ∃ V7x, V7x = V7.alloc (.cells #[.bool false, .string ⟨#[]⟩, .string ⟨#[]⟩] 23) := ⟨_, rfl⟩
  have HX := Lib.hid (show V7.heap.size + 1 = V7x.heap.size by rw [hV7x]; simp)
  rw [← hV7x]
  rw [← hV7x] at HB C0 z0 C1 z1 C2 z2 C3 z3
  clear hV7x
  (with_reducible refine (D7.out _).mono ?_)
  rintro e V8 ⟨rfl, hb⟩
  replace C0 := C0.keep hb (by omega)
  replace z0 : w.heap.size + 1 ≤ V8.heap.size := by have := hb.size; omega
  replace C1 := C1.keep hb (by omega)
  replace z1 : (w.heap.size + 1) + 1 ≤ V8.heap.size := by have := hb.size; omega
  replace C2 := C2.keep hb (by omega)
  replace z2 : (w.heap.size + 2) + 1 ≤ V8.heap.size := by have := hb.size; omega
  replace C3 := C3.keep hb (by omega)
  replace z3 : V7.heap.size + 1 ≤ V8.heap.size := by have := hb.size; omega
  replace HB := Lib.hid (HB.out.trans (hb.mono HB.out.size))
  clear hb
  have ba : Below V8.heap.size V8 (V8.alloc (.cells #[.bool xn, .string xi, .string xf] 23)) := (Below.refl _ _).alloc (Nat.le_refl _) _
  replace C0 := C0.keep ba (by omega)
  replace z0 : w.heap.size + 1 ≤ (V8.alloc (.cells #[.bool xn, .string xi, .string xf] 23)).heap.size := by have := ba.size; omega
  replace C1 := C1.keep ba (by omega)
  replace z1 : (w.heap.size + 1) + 1 ≤ (V8.alloc (.cells #[.bool xn, .string xi, .string xf] 23)).heap.size := by have := ba.size; omega
  replace C2 := C2.keep ba (by omega)
  replace z2 : (w.heap.size + 2) + 1 ≤ (V8.alloc (.cells #[.bool xn, .string xi, .string xf] 23)).heap.size := by have := ba.size; omega
  replace C3 := C3.keep ba (by omega)
  replace z3 : V7.heap.size + 1 ≤ (V8.alloc (.cells #[.bool xn, .string xi, .string xf] 23)).heap.size := by have := ba.size; omega
  replace HB := Lib.hid (HB.out.trans (ba.mono HB.out.size))
  clear ba
  have C4 : Cells3 (V8.alloc (.cells #[.bool xn, .string xi, .string xf] 23)) V8.heap.size (.bool xn) (.string xi) (.string xf) := (one_box V8 _ _ _ _).2.1
  have z4 : V8.heap.size + 1 ≤ (V8.alloc (.cells #[.bool xn, .string xi, .string xf] 23)).heap.size := by simp
  have o00 := C0.1
  have o10 := C1.1
  have o20 := C2.1
  have o30 := C3.1
  have o40 := C4.1
  have o01 := C0.2.1
  have o02 := C0.2.2
  have o11 := C1.2.1
  have o12 := C1.2.2
  have o21 := C2.2.1
  have o22 := C2.2.2
  have o31 := C3.2.1
  have o32 := C3.2.2
  have o41 := C4.2.1
  have o42 := C4.2.2
  go_wp2_with fail
  clear o00 o01 o02 o10 o11 o12 o20 o21 o22 o30 o31 o32 o40 o41 o42
  obtain ⟨V8x, hV8x⟩ : ∃ V8x, V8x = V8.alloc (.cells #[.bool xn, .string xi, .string xf] 23) := ⟨_, rfl⟩
  have HX := Lib.hid (show V8.heap.size + 1 = V8x.heap.size by rw [hV8x]; simp)
  rw [← hV8x]
  rw [← hV8x] at HB C0 z0 C1 z1 C2 z2 C3 z3 C4 z4
  clear hV8x
  (with_reducible refine (D8.out _).mono ?_)
  rintro e V9 ⟨rfl, hb⟩
  replace C0 := C0.keep hb (by omega)
  replace z0 : w.heap.size + 1 ≤ V9.heap.size := by have := hb.size; omega
  replace C1 := C1.keep hb (by omega)
  replace z1 : (w.heap.size + 1) + 1 ≤ V9.heap.size := by have := hb.size; omega
  replace C2 := C2.keep hb (by omega)
  replace z2 : (w.heap.size + 2) + 1 ≤ V9.heap.size := by have := hb.size; omega
  replace C3 := C3.keep hb (by omega)
  replace z3 : V7.heap.size + 1 ≤ V9.heap.size := by have := hb.size; omega
  replace C4 := C4.keep hb (by omega)
  replace z4 : V8.heap.size + 1 ≤ V9.heap.size := by have := hb.size; omega
  replace HB := Lib.hid (HB.out.trans (hb.mono HB.out.size))
  clear hb
  have ba : Below V9.heap.size V9 (V9.alloc (.cells #[.bool xn, .string yi, .string yf] 23)) := (Below.refl _ _).alloc (Nat.le_refl _) _
  replace C0 := C0.keep ba (by omega)
  replace z0 : w.heap.size + 1 ≤ (V9.alloc (.cells #[.bool xn, .string yi, .string yf] 23)).heap.size := by have := ba.size; omega
  replace C1 := C1.keep ba (by omega)
  replace z1 : (w.heap.size + 1) + 1 ≤ (V9.alloc (.cells #[.bool xn, .string yi, .string yf] 23)).heap.size := by have := ba.size; omega
  replace C2 := C2.keep ba (by omega)
  replace z2 : (w.heap.size + 2) + 1 ≤ (V9.alloc (.cells #[.bool xn, .string yi, .string yf] 23)).heap.size := by have := ba.size; omega
  replace C3 := C3.keep ba (by omega)
  replace z3 : V7.heap.size + 1 ≤ (V9.alloc (.cells #[.bool xn, .string yi, .string yf] 23)).heap.size := by have := ba.size; omega
  replace C4 := C4.keep ba (by omega)
  replace z4 : V8.heap.size + 1 ≤ (V9.alloc (.cells #[.bool xn, .string yi, .string yf] 23)).heap.size := by have := ba.size; omega
  replace HB := Lib.hid (HB.out.trans (ba.mono HB.out.size))
  clear ba
  have C5 : Cells3 (V9.alloc (.cells #[.bool xn, .string yi, .string yf] 23)) V9.heap.size (.bool xn) (.string yi) (.string yf) := (one_box V9 _ _ _ _).2.1
  have z5 : V9.heap.size + 1 ≤ (V9.alloc (.cells #[.bool xn, .string yi, .string yf] 23)).heap.size := by simp
  have o00 := C0.1
  have o10 := C1.1
  have o20 := C2.1
  have o30 := C3.1
  have o40 := C4.1
  have o50 := C5.1
  have o01 := C0.2.1
  have o02 := C0.2.2
  have o11 := C1.2.1
  have o12 := C1.2.2
  have o21 := C2.2.1
  have o22 := C2.2.2
  have o31 := C3.2.1
  have o32 := C3.2.2
  have o41 := C4.2.1
  have o42 := C4.2.2
  have o51 := C5.2.1
  have o52 := C5.2.2
  go_wp2
  go_ret
  exact ⟨rfl, HB.out⟩

set_option maxHeartbeats 4000000 in
set_option maxRecDepth 100000 in
theorem order_mdown_er_f (an bn cn : Bool) (ai af bi bf ci cf : ByteArray) (w : World) (bc : Int) (c5 : Int) (xn : Bool) (xi xf : ByteArray) (yf : ByteArray) (HF : ∀ (g : Nat) (wx : World), g = wx.heap.size → Calls Try.prog 40 #[.slice (some ⟨g, 0, none⟩) 3 3] (wx.alloc (.cells #[.bool an, .string ai, .string af, .bool bn, .string bi, .string bf, .bool cn, .string ci, .string cf] 23)) fun e w' => e = .returned (.bool true) ∧ Below wx.heap.size wx w') (H1 : ∀ wx : World, Calls Try.prog 21 #[(.agg #[.bool an, .string ai, .string af]), (.agg #[.bool bn, .string bi, .string bf])] wx fun e w' => e = .returned (.tuple #[(.int .i64 (-1)), .int .i64 0]) ∧ Below wx.heap.size wx w') (H2 : ∀ wx : World, Calls Try.prog 21 #[(.agg #[.bool bn, .string bi, .string bf]), (.agg #[.bool an, .string ai, .string af])] wx fun e w' => e = .returned (.tuple #[(.int .i64 1), .int .i64 0]) ∧ Below wx.heap.size wx w') (H3 : ∀ wx : World, Calls Try.prog 21 #[(.agg #[.bool bn, .string bi, .string bf]), (.agg #[.bool cn, .string ci, .string cf])] wx fun e w' => e = .returned (.tuple #[(.int .i64 bc), .int .i64 0]) ∧ Below wx.heap.size wx w') (H4 : ∀ wx : World, Calls Try.prog 21 #[(.agg #[.bool an, .string ai, .string af]), (.agg #[.bool cn, .string ci, .string cf])] wx fun e w' => e = .returned (.tuple #[(.int .i64 (-1)), .int .i64 0]) ∧ Below wx.heap.size wx w') (H5 : ∀ wx : World, Calls Try.prog 26 #[(.agg #[.bool an, .string ai, .string af]), (.agg #[.bool bn, .string bi, .string bf])] wx fun e w' => e = .returned (.tuple #[(.agg #[.bool false, .string ⟨#[]⟩, .string ⟨#[]⟩]), .int .i64 c5]) ∧ Below wx.heap.size wx w') (H7 : ∀ wx : World, Calls Try.prog 34 #[(.agg #[.bool an, .string ai, .string af])] wx fun e w' => e = .returned (.tuple #[(.agg #[.bool xn, .string xi, .string xf]), .int .i64 0]) ∧ Below wx.heap.size wx w') (H8 : ∀ wx : World, Calls Try.prog 34 #[(.agg #[.bool bn, .string bi, .string bf])] wx fun e w' => e = .returned (.tuple #[(.agg #[.bool xn, .string xi, .string yf]), .int .i64 0]) ∧ Below wx.heap.size wx w') (hbc : bc ≤ 0) (h5 : c5 ≠ 0) (hne : (xf.toList == yf.toList) = false) :
    Calls Try.prog 9 #[(.agg #[.bool an, .string ai, .string af]), (.agg #[.bool bn, .string bi, .string bf]), (.agg #[.bool cn, .string ci, .string cf])] w fun e w' => e = .returned (.bool true) ∧ Below w.heap.size w w' := by
  have DW := Lib.hid awake_any
  have DF := Lib.hid HF
  have D1 := Lib.hid H1
  have D2 := Lib.hid H2
  have D3 := Lib.hid H3
  have D4 := Lib.hid H4
  have D5 := Lib.hid H5
  have D7 := Lib.hid H7
  have D8 := Lib.hid H8
  clear HF H1 H2 H3 H4 H5 H7 H8
  have q1 : (xn == xn) = true := beq_self_eq_true _
  have q2 : (xi.toList == xi.toList) = true := beq_self_eq_true _
  have q4 : decide (bc ≤ 0) = true := decide_eq_true hbc
  have q5 : (c5 == 0) = false := by simpa using h5
  clear h5
  go_enter Try.func9, Try.ntmps9
  go_wp2_with fail
  obtain ⟨W0, hW0⟩ : ∃ W0, W0 = (((w.alloc (.cells #[.bool an, .string ai, .string af] 23)).alloc (.cells #[.bool bn, .string bi, .string bf] 23)).alloc (.cells #[.bool cn, .string ci, .string cf] 23)) := ⟨_, rfl⟩
  obtain ⟨hB, hz, C0, C1, C2, _⟩ : Below w.heap.size w W0 ∧ w.heap.size + 3 ≤ W0.heap.size ∧ Cells3 W0 w.heap.size (.bool an) (.string ai) (.string af) ∧ Cells3 W0 (w.heap.size + 1) (.bool bn) (.string bi) (.string bf) ∧ Cells3 W0 (w.heap.size + 2) (.bool cn) (.string ci) (.string cf) ∧ ∀ i, W0.frozen? ⟨(w.heap.size + 2), i, none⟩ = false := by rw [hW0]; exact ⟨below_three w _ _ _, three_boxes w _ _ _ _ _ _ _ _ _ _⟩
  have z0 : w.heap.size + 1 ≤ W0.heap.size := by omega
  have z1 : (w.heap.size + 1) + 1 ≤ W0.heap.size := by omega
  have z2 : (w.heap.size + 2) + 1 ≤ W0.heap.size := by omega
  rw [← hW0]
  have HB := Lib.hid hB
  clear hW0 hB hz
  (with_reducible refine (DW.out _).mono ?_)
  rintro e V1 ⟨rfl, hb⟩
  replace C0 := C0.keep hb (by omega)
  replace z0 : w.heap.size + 1 ≤ V1.heap.size := by have := hb.size; omega
  replace C1 := C1.keep hb (by omega)
  replace z1 : (w.heap.size + 1) + 1 ≤ V1.heap.size := by have := hb.size; omega
  replace C2 := C2.keep hb (by omega)
  replace z2 : (w.heap.size + 2) + 1 ≤ V1.heap.size := by have := hb.size; omega
  replace HB := Lib.hid (HB.out.trans (hb.mono HB.out.size))
  clear hb
  have o00 := C0.1
  have o10 := C1.1
  have o20 := C2.1
  have o01 := C0.2.1
  have o02 := C0.2.2
  have o11 := C1.2.1
  have o12 := C1.2.2
  have o21 := C2.2.1
  have o22 := C2.2.2
  go_wp2_with fail
  clear o00 o01 o02 o10 o11 o12 o20 o21 o22
  (with_reducible refine (DF.out _ _ ?_).mono ?_)
  · rfl
  rintro e V2 ⟨rfl, hb⟩
  replace C0 := C0.keep hb (by omega)
  replace z0 : w.heap.size + 1 ≤ V2.heap.size := by have := hb.size; omega
  replace C1 := C1.keep hb (by omega)
  replace z1 : (w.heap.size + 1) + 1 ≤ V2.heap.size := by have := hb.size; omega
  replace C2 := C2.keep hb (by omega)
  replace z2 : (w.heap.size + 2) + 1 ≤ V2.heap.size := by have := hb.size; omega
  replace HB := Lib.hid (HB.out.trans (hb.mono HB.out.size))
  clear hb
  have o00 := C0.1
  have o10 := C1.1
  have o20 := C2.1
  have o01 := C0.2.1
  have o02 := C0.2.2
  have o11 := C1.2.1
  have o12 := C1.2.2
  have o21 := C2.2.1
  have o22 := C2.2.2
  go_wp2_with fail
  clear o00 o01 o02 o10 o11 o12 o20 o21 o22
  (with_reducible refine (D1.out _).mono ?_)
  rintro e V3 ⟨rfl, hb⟩
  replace C0 := C0.keep hb (by omega)
  replace z0 : w.heap.size + 1 ≤ V3.heap.size := by have := hb.size; omega
  replace C1 := C1.keep hb (by omega)
  replace z1 : (w.heap.size + 1) + 1 ≤ V3.heap.size := by have := hb.size; omega
  replace C2 := C2.keep hb (by omega)
  replace z2 : (w.heap.size + 2) + 1 ≤ V3.heap.size := by have := hb.size; omega
  replace HB := Lib.hid (HB.out.trans (hb.mono HB.out.size))
  clear hb
  have o00 := C0.1
  have o10 := C1.1
  have o20 := C2.1
  have o01 := C0.2.1
  have o02 := C0.2.2
  have o11 := C1.2.1
  have o12 := C1.2.2
  have o21 := C2.2.1
  have o22 := C2.2.2
  go_wp2_with fail
  clear o00 o01 o02 o10 o11 o12 o20 o21 o22
  (with_reducible refine (D2.out _).mono ?_)
  rintro e V4 ⟨rfl, hb⟩
  replace C0 := C0.keep hb (by omega)
  replace z0 : w.heap.size + 1 ≤ V4.heap.size := by have := hb.size; omega
  replace C1 := C1.keep hb (by omega)
  replace z1 : (w.heap.size + 1) + 1 ≤ V4.heap.size := by have := hb.size; omega
  replace C2 := C2.keep hb (by omega)
  replace z2 : (w.heap.size + 2) + 1 ≤ V4.heap.size := by have := hb.size; omega
  replace HB := Lib.hid (HB.out.trans (hb.mono HB.out.size))
  clear hb
  have o00 := C0.1
  have o10 := C1.1
  have o20 := C2.1
  have o01 := C0.2.1
  have o02 := C0.2.2
  have o11 := C1.2.1
  have o12 := C1.2.2
  have o21 := C2.2.1
  have o22 := C2.2.2
  go_wp2_with fail
  clear o00 o01 o02 o10 o11 o12 o20 o21 o22
  (with_reducible refine (D3.out _).mono ?_)
  rintro e V5 ⟨rfl, hb⟩
  replace C0 := C0.keep hb (by omega)
  replace z0 : w.heap.size + 1 ≤ V5.heap.size := by have := hb.size; omega
  replace C1 := C1.keep hb (by omega)
  replace z1 : (w.heap.size + 1) + 1 ≤ V5.heap.size := by have := hb.size; omega
  replace C2 := C2.keep hb (by omega)
  replace z2 : (w.heap.size + 2) + 1 ≤ V5.heap.size := by have := hb.size; omega
  replace HB := Lib.hid (HB.out.trans (hb.mono HB.out.size))
  clear hb
  have o00 := C0.1
  have o10 := C1.1
  have o20 := C2.1
  have o01 := C0.2.1
  have o02 := C0.2.2
  have o11 := C1.2.1
  have o12 := C1.2.2
  have o21 := C2.2.1
  have o22 := C2.2.2
  go_wp2_with fail
  clear o00 o01 o02 o10 o11 o12 o20 o21 o22
  (with_reducible refine (D4.out _).mono ?_)
  rintro e V6 ⟨rfl, hb⟩
  replace C0 := C0.keep hb (by omega)
  replace z0 : w.heap.size + 1 ≤ V6.heap.size := by have := hb.size; omega
  replace C1 := C1.keep hb (by omega)
  replace z1 : (w.heap.size + 1) + 1 ≤ V6.heap.size := by have := hb.size; omega
  replace C2 := C2.keep hb (by omega)
  replace z2 : (w.heap.size + 2) + 1 ≤ V6.heap.size := by have := hb.size; omega
  replace HB := Lib.hid (HB.out.trans (hb.mono HB.out.size))
  clear hb
  have o00 := C0.1
  have o10 := C1.1
  have o20 := C2.1
  have o01 := C0.2.1
  have o02 := C0.2.2
  have o11 := C1.2.1
  have o12 := C1.2.2
  have o21 := C2.2.1
  have o22 := C2.2.2
  go_wp2_with fail
  clear o00 o01 o02 o10 o11 o12 o20 o21 o22
  (with_reducible refine (D5.out _).mono ?_)
  rintro e V7 ⟨rfl, hb⟩
  replace C0 := C0.keep hb (by omega)
  replace z0 : w.heap.size + 1 ≤ V7.heap.size := by have := hb.size; omega
  replace C1 := C1.keep hb (by omega)
  replace z1 : (w.heap.size + 1) + 1 ≤ V7.heap.size := by have := hb.size; omega
  replace C2 := C2.keep hb (by omega)
  replace z2 : (w.heap.size + 2) + 1 ≤ V7.heap.size := by have := hb.size; omega
  replace HB := Lib.hid (HB.out.trans (hb.mono HB.out.size))
  clear hb
  have ba : Below V7.heap.size V7 (V7.alloc (.cells #[.bool false, .string ⟨#[]⟩, .string ⟨#[]⟩] 23)) := (Below.refl _ _).alloc (Nat.le_refl _) _
  replace C0 := C0.keep ba (by omega)
  replace z0 : w.heap.size + 1 ≤ (V7.alloc (.cells #[.bool false, .string ⟨#[]⟩, .string ⟨#[]⟩] 23)).heap.size := by have := ba.size; omega
  replace C1 := C1.keep ba (by omega)
  replace z1 : (w.heap.size + 1) + 1 ≤ (V7.alloc (.cells #[.bool false, .string ⟨#[]⟩, .string ⟨#[]⟩] 23)).heap.size := by have := ba.size; omega
  replace C2 := C2.keep ba (by omega)
  replace z2 : (w.heap.size + 2) + 1 ≤ (V7.alloc (.cells #[.bool false, .string ⟨#[]⟩, .string ⟨#[]⟩] 23)).heap.size := by have := ba.size; omega
  replace HB := Lib.hid (HB.out.trans (ba.mono HB.out.size))
  clear ba
  have C3 : Cells3 (V7.alloc (.cells #[.bool false, .string ⟨#[]⟩, .string ⟨#[]⟩] 23)) V7.heap.size (.bool false) (.string ⟨#[]⟩) (.string ⟨#[]⟩) := (one_box V7 _ _ _ _).2.1
  have z3 : V7.heap.size + 1 ≤ (V7.alloc (.cells #[.bool false, .string ⟨#[]⟩, .string ⟨#[]⟩] 23)).heap.size := by simp
  have o00 := C0.1
  have o10 := C1.1
  have o20 := C2.1
  have o30 := C3.1
  have o01 := C0.2.1
  have o02 := C0.2.2
  have o11 := C1.2.1
  have o12 := C1.2.2
  have o21 := C2.2.1
  have o22 := C2.2.2
  have o31 := C3.2.1
  have o32 := C3.2.2
  go_wp2_with fail
  clear o00 o01 o02 o10 o11 o12 o20 o21 o22 o30 o31 o32
  obtain ⟨V7x, hV7x⟩ : ∃ V7x, V7x = V7.alloc (.cells #[.bool false, .string ⟨#[]⟩, .string ⟨#[]⟩] 23) := ⟨_, rfl⟩
  have HX := Lib.hid (show V7.heap.size + 1 = V7x.heap.size by rw [hV7x]; simp)
  rw [← hV7x]
  rw [← hV7x] at HB C0 z0 C1 z1 C2 z2 C3 z3
  clear hV7x
  (with_reducible refine (D7.out _).mono ?_)
  rintro e V8 ⟨rfl, hb⟩
  replace C0 := C0.keep hb (by omega)
  replace z0 : w.heap.size + 1 ≤ V8.heap.size := by have := hb.size; omega
  replace C1 := C1.keep hb (by omega)
  replace z1 : (w.heap.size + 1) + 1 ≤ V8.heap.size := by have := hb.size; omega
  replace C2 := C2.keep hb (by omega)
  replace z2 : (w.heap.size + 2) + 1 ≤ V8.heap.size := by have := hb.size; omega
  replace C3 := C3.keep hb (by omega)
  replace z3 : V7.heap.size + 1 ≤ V8.heap.size := by have := hb.size; omega
  replace HB := Lib.hid (HB.out.trans (hb.mono HB.out.size))
  clear hb
  have ba : Below V8.heap.size V8 (V8.alloc (.cells #[.bool xn, .string xi, .string xf] 23)) := (Below.refl _ _).alloc (Nat.le_refl _) _
  replace C0 := C0.keep ba (by omega)
  replace z0 : w.heap.size + 1 ≤ (V8.alloc (.cells #[.bool xn, .string xi, .string xf] 23)).heap.size := by have := ba.size; omega
  replace C1 := C1.keep ba (by omega)
  replace z1 : (w.heap.size + 1) + 1 ≤ (V8.alloc (.cells #[.bool xn, .string xi, .string xf] 23)).heap.size := by have := ba.size; omega
  replace C2 := C2.keep ba (by omega)
  replace z2 : (w.heap.size + 2) + 1 ≤ (V8.alloc (.cells #[.bool xn, .string xi, .string xf] 23)).heap.size := by have := ba.size; omega
  replace C3 := C3.keep ba (by omega)
  replace z3 : V7.heap.size + 1 ≤ (V8.alloc (.cells #[.bool xn, .string xi, .string xf] 23)).heap.size := by have := ba.size; omega
  replace HB := Lib.hid (HB.out.trans (ba.mono HB.out.size))
  clear ba
  have C4 : Cells3 (V8.alloc (.cells #[.bool xn, .string xi, .string xf] 23)) V8.heap.size (.bool xn) (.string xi) (.string xf) := (one_box V8 _ _ _ _).2.1
  have z4 : V8.heap.size + 1 ≤ (V8.alloc (.cells #[.bool xn, .string xi, .string xf] 23)).heap.size := by simp
  have o00 := C0.1
  have o10 := C1.1
  have o20 := C2.1
  have o30 := C3.1
  have o40 := C4.1
  have o01 := C0.2.1
  have o02 := C0.2.2
  have o11 := C1.2.1
  have o12 := C1.2.2
  have o21 := C2.2.1
  have o22 := C2.2.2
  have o31 := C3.2.1
  have o32 := C3.2.2
  have o41 := C4.2.1
  have o42 := C4.2.2
  go_wp2_with fail
  clear o00 o01 o02 o10 o11 o12 o20 o21 o22 o30 o31 o32 o40 o41 o42
  obtain ⟨V8x, hV8x⟩ : ∃ V8x, V8x = V8.alloc (.cells #[.bool xn, .string xi, .string xf] 23) := ⟨_, rfl⟩
  have HX := Lib.hid (show V8.heap.size + 1 = V8x.heap.size by rw [hV8x]; simp)
  rw [← hV8x]
  rw [← hV8x] at HB C0 z0 C1 z1 C2 z2 C3 z3 C4 z4
  clear hV8x
  (with_reducible refine (D8.out _).mono ?_)
  rintro e V9 ⟨rfl, hb⟩
  replace C0 := C0.keep hb (by omega)
  replace z0 : w.heap.size + 1 ≤ V9.heap.size := by have := hb.size; omega
  replace C1 := C1.keep hb (by omega)
  replace z1 : (w.heap.size + 1) + 1 ≤ V9.heap.size := by have := hb.size; omega
  replace C2 := C2.keep hb (by omega)
  replace z2 : (w.heap.size + 2) + 1 ≤ V9.heap.size := by have := hb.size; omega
  replace C3 := C3.keep hb (by omega)
  replace z3 : V7.heap.size + 1 ≤ V9.heap.size := by have := hb.size; omega
  replace C4 := C4.keep hb (by omega)
  replace z4 : V8.heap.size + 1 ≤ V9.heap.size := by have := hb.size; omega
  replace HB := Lib.hid (HB.out.trans (hb.mono HB.out.size))
  clear hb
  have ba : Below V9.heap.size V9 (V9.alloc (.cells #[.bool xn, .string xi, .string yf] 23)) := (Below.refl _ _).alloc (Nat.le_refl _) _
  replace C0 := C0.keep ba (by omega)
  replace z0 : w.heap.size + 1 ≤ (V9.alloc (.cells #[.bool xn, .string xi, .string yf] 23)).heap.size := by have := ba.size; omega
  replace C1 := C1.keep ba (by omega)
  replace z1 : (w.heap.size + 1) + 1 ≤ (V9.alloc (.cells #[.bool xn, .string xi, .string yf] 23)).heap.size := by have := ba.size; omega
  replace C2 := C2.keep ba (by omega)
  replace z2 : (w.heap.size + 2) + 1 ≤ (V9.alloc (.cells #[.bool xn, .string xi, .string yf] 23)).heap.size := by have := ba.size; omega
  replace C3 := C3.keep ba (by omega)
  replace z3 : V7.heap.size + 1 ≤ (V9.alloc (.cells #[.bool xn, .string xi, .string yf] 23)).heap.size := by have := ba.size; omega
  replace C4 := C4.keep ba (by omega)
  replace z4 : V8.heap.size + 1 ≤ (V9.alloc (.cells #[.bool xn, .string xi, .string yf] 23)).heap.size := by have := ba.size; omega
  replace HB := Lib.hid (HB.out.trans (ba.mono HB.out.size))
  clear ba
  have C5 : Cells3 (V9.alloc (.cells #[.bool xn, .string xi, .string yf] 23)) V9.heap.size (.bool xn) (.string xi) (.string yf) := (one_box V9 _ _ _ _).2.1
  have z5 : V9.heap.size + 1 ≤ (V9.alloc (.cells #[.bool xn, .string xi, .string yf] 23)).heap.size := by simp
  have o00 := C0.1
  have o10 := C1.1
  have o20 := C2.1
  have o30 := C3.1
  have o40 := C4.1
  have o50 := C5.1
  have o01 := C0.2.1
  have o02 := C0.2.2
  have o11 := C1.2.1
  have o12 := C1.2.2
  have o21 := C2.2.1
  have o22 := C2.2.2
  have o31 := C3.2.1
  have o32 := C3.2.2
  have o41 := C4.2.1
  have o42 := C4.2.2
  have o51 := C5.2.1
  have o52 := C5.2.2
  go_wp2
  go_ret
  exact ⟨rfl, HB.out⟩
end Go.Proofs.Ytohppejblbeemaa
