/- OperandSame: the exponent moves the point; the sign is not seen. -/
import Derived.Test.YtcdmanhhddcmcaaOpG
import Derived.Deep.DeepCutAuto
import Derived.Deep.QuietTactic
import Derived.BigQuiet
import Derived.Deep.RegionHeld3
namespace Go.Proofs.Ytcdmanhhddcmcaa
open Go.RowKit
attribute [local go_sem ↓] Go.wp_at_zero Go.wp_at_succ
theorem nine_drew {W : World} {b : Nat} {x0 x1 x2 x3 x4 x5 x6 x7 x8 : Value} (h : Cells9 W b x0 x1 x2 x3 x4 x5 x6 x7 x8) : Cells9 W.drew b x0 x1 x2 x3 x4 x5 x6 x7 x8 := h
theorem three_drew {W : World} {b : Nat} {x0 x1 x2 : Value} (h : Cells3 W b x0 x1 x2) : Cells3 W.drew b x0 x1 x2 := h
theorem drewN_below {B : Nat} {w W : World} (h : Below B w W) (n : Nat) : Below B w (W.drewN n) := h.trans ⟨rfl, rfl, rfl, Nat.le_refl _, fun _ _ => rfl⟩
theorem set9_8 {W : World} {b : Nat} {x0 x1 x2 x3 x4 x5 x6 x7 x8 y : Value} (h : Cells9 W b x0 x1 x2 x3 x4 x5 x6 x7 x8) : Cells9 (W.setCell ⟨b, 8, none⟩ y) b x0 x1 x2 x3 x4 x5 x6 x7 y :=
  ⟨cell_set_far _ _ _ _ _ _ (by decide) h.1, cell_set_far _ _ _ _ _ _ (by decide) h.2.1, cell_set_far _ _ _ _ _ _ (by decide) h.2.2.1, cell_set_far _ _ _ _ _ _ (by decide) h.2.2.2.1, cell_set_far _ _ _ _ _ _ (by decide) h.2.2.2.2.1, cell_set_far _ _ _ _ _ _ (by decide) h.2.2.2.2.2.1, cell_set_far _ _ _ _ _ _ (by decide) h.2.2.2.2.2.2.1, cell_set_far _ _ _ _ _ _ (by decide) h.2.2.2.2.2.2.2.1, cell_set_same _ _ _ _ h.2.2.2.2.2.2.2.2⟩

set_option maxHeartbeats 4000000 in
set_option maxRecDepth 100000 in
theorem same_bad (dn : Bool) (di df : ByteArray) (n : Int) (c : Int) (hc : (c == 0) = false)
    (H1 : ∀ wx : World, Calls Try.prog 13 #[.agg #[.bool dn, .string di, .string df], .int .i64 n] wx fun e w' => e = .returned (.tuple #[.agg #[.bool false, .string ⟨#[]⟩, .string ⟨#[]⟩, .string ⟨#[]⟩, .int .i64 0, .int .i64 0, .string ⟨#[]⟩, .string ⟨#[]⟩, .int .i64 0], .int .i64 c]) ∧ Below wx.heap.size wx w')
    (H2 : ∀ wx : World, Calls Try.prog 19 #[.agg #[.bool false, .string ⟨#[48]⟩, .string ⟨#[]⟩], .agg #[.bool dn, .string di, .string df]] wx fun e w' => e = .returned (.tuple #[.agg #[.bool false, .string ⟨#[]⟩, .string ⟨#[]⟩], .int .i64 c]) ∧ Below wx.heap.size wx w') (w : World)
    : Calls Try.prog 4 #[.agg #[.bool dn, .string di, .string df], .int .i64 n] w fun e w' => e = .returned (.bool true) ∧ Below w.heap.size w w' := by
  have DW := Lib.hid oawake_any
  have D1 := Lib.hid H1
  have D2 := Lib.hid H2
  clear H1 H2
  go_enter Try.func4, Try.ntmps4
  go_wp2_with fail
  obtain ⟨W0, hW0⟩ : ∃ W0, W0 = (w.alloc (.cells #[.bool dn, .string di, .string df] 23)) := ⟨_, rfl⟩
  have hB0 : Below w.heap.size w w := Below.refl _ _
  have ha0 : Below w.heap.size w (w.alloc (.cells #[.bool dn, .string di, .string df] 23)) := (Below.refl _ _).alloc (Nat.le_refl _) _
  have hB1 := hB0.trans (ha0.mono hB0.size)
  have hs0 : (w.alloc (.cells #[.bool dn, .string di, .string df] 23)).heap.size = w.heap.size + 1 := by simp
  have C0 := (one_box w (.bool dn) (.string di) (.string df) 23).2.1
  rw [← hW0] at hB1 hs0 C0 ⊢
  have z0 : w.heap.size + 1 ≤ W0.heap.size := by omega
  have HB := Lib.hid hB1
  clear hW0 hB0 ha0 hB1 hs0
  (with_reducible refine (DW.out _).mono ?_)
  rintro e V1 ⟨rfl, hb⟩
  replace C0 := C0.keep hb (by omega)
  replace z0 : w.heap.size + 1 ≤ V1.heap.size := by have := hb.size; omega
  replace HB := Lib.hid (HB.out.trans (hb.mono HB.out.size))
  clear hb
  have K0 := Lib.hid C0
  obtain ⟨o0_0, o0_1, o0_2⟩ := C0
  go_wp2_with fail
  clear o0_0 o0_1 o0_2
  have C0 := K0.out
  clear K0
  (with_reducible refine (D1.out _).mono ?_)
  rintro e V2 ⟨rfl, hb⟩
  replace C0 := C0.keep hb (by omega)
  replace z0 : w.heap.size + 1 ≤ V2.heap.size := by have := hb.size; omega
  replace HB := Lib.hid (HB.out.trans (hb.mono HB.out.size))
  clear hb
  have ba : Below V2.heap.size V2 (V2.alloc (.cells #[.bool false, .string ⟨#[]⟩, .string ⟨#[]⟩, .string ⟨#[]⟩, .int .i64 0, .int .i64 0, .string ⟨#[]⟩, .string ⟨#[]⟩, .int .i64 0] 25)) := (Below.refl _ _).alloc (Nat.le_refl _) _
  replace C0 := C0.keep ba (by omega)
  have C1 : Cells9 (V2.alloc (.cells #[.bool false, .string ⟨#[]⟩, .string ⟨#[]⟩, .string ⟨#[]⟩, .int .i64 0, .int .i64 0, .string ⟨#[]⟩, .string ⟨#[]⟩, .int .i64 0] 25)) V2.heap.size (.bool false) (.string ⟨#[]⟩) (.string ⟨#[]⟩) (.string ⟨#[]⟩) (.int .i64 0) (.int .i64 0) (.string ⟨#[]⟩) (.string ⟨#[]⟩) (.int .i64 0) := (nine_box V2 (.bool false) (.string ⟨#[]⟩) (.string ⟨#[]⟩) (.string ⟨#[]⟩) (.int .i64 0) (.int .i64 0) (.string ⟨#[]⟩) (.string ⟨#[]⟩) (.int .i64 0) 25).2.1
  have z1 : V2.heap.size + 1 ≤ (V2.alloc (.cells #[.bool false, .string ⟨#[]⟩, .string ⟨#[]⟩, .string ⟨#[]⟩, .int .i64 0, .int .i64 0, .string ⟨#[]⟩, .string ⟨#[]⟩, .int .i64 0] 25)).heap.size := by simp
  replace z0 : w.heap.size + 1 ≤ (V2.alloc (.cells #[.bool false, .string ⟨#[]⟩, .string ⟨#[]⟩, .string ⟨#[]⟩, .int .i64 0, .int .i64 0, .string ⟨#[]⟩, .string ⟨#[]⟩, .int .i64 0] 25)).heap.size := by have := ba.size; omega
  replace HB := Lib.hid (HB.out.trans (ba.mono HB.out.size))
  clear ba
  have K0 := Lib.hid C0
  have K1 := Lib.hid C1
  obtain ⟨o0_0, o0_1, o0_2⟩ := C0
  obtain ⟨o1_0, o1_1, o1_2, o1_3, o1_4, o1_5, o1_6, o1_7, o1_8⟩ := C1
  go_wp2_with fail
  clear o0_0 o0_1 o0_2
  have C0 := K0.out
  clear K0
  clear o1_0 o1_1 o1_2 o1_3 o1_4 o1_5 o1_6 o1_7 o1_8
  have C1 := K1.out
  clear K1
  obtain ⟨V2x, hV2x⟩ : ∃ V2x, V2x = (V2.alloc (.cells #[.bool false, .string ⟨#[]⟩, .string ⟨#[]⟩, .string ⟨#[]⟩, .int .i64 0, .int .i64 0, .string ⟨#[]⟩, .string ⟨#[]⟩, .int .i64 0] 25)) := ⟨_, rfl⟩
  rw [← hV2x]
  rw [← hV2x] at HB C0 z0 C1 z1 
  clear hV2x
  (with_reducible refine (D2.out _).mono ?_)
  rintro e V3 ⟨rfl, hb⟩
  replace C0 := C0.keep hb (by omega)
  replace C1 := C1.keep hb (by omega)
  replace z0 : w.heap.size + 1 ≤ V3.heap.size := by have := hb.size; omega
  replace z1 : V2.heap.size + 1 ≤ V3.heap.size := by have := hb.size; omega
  replace HB := Lib.hid (HB.out.trans (hb.mono HB.out.size))
  clear hb
  have ba : Below V3.heap.size V3 (V3.alloc (.cells #[.bool false, .string ⟨#[]⟩, .string ⟨#[]⟩] 23)) := (Below.refl _ _).alloc (Nat.le_refl _) _
  replace C0 := C0.keep ba (by omega)
  replace C1 := C1.keep ba (by omega)
  have C2 : Cells3 (V3.alloc (.cells #[.bool false, .string ⟨#[]⟩, .string ⟨#[]⟩] 23)) V3.heap.size (.bool false) (.string ⟨#[]⟩) (.string ⟨#[]⟩) := (one_box V3 (.bool false) (.string ⟨#[]⟩) (.string ⟨#[]⟩) 23).2.1
  have z2 : V3.heap.size + 1 ≤ (V3.alloc (.cells #[.bool false, .string ⟨#[]⟩, .string ⟨#[]⟩] 23)).heap.size := by simp
  replace z0 : w.heap.size + 1 ≤ (V3.alloc (.cells #[.bool false, .string ⟨#[]⟩, .string ⟨#[]⟩] 23)).heap.size := by have := ba.size; omega
  replace z1 : V2.heap.size + 1 ≤ (V3.alloc (.cells #[.bool false, .string ⟨#[]⟩, .string ⟨#[]⟩] 23)).heap.size := by have := ba.size; omega
  replace HB := Lib.hid (HB.out.trans (ba.mono HB.out.size))
  clear ba
  have K0 := Lib.hid C0
  have K1 := Lib.hid C1
  have K2 := Lib.hid C2
  obtain ⟨o0_0, o0_1, o0_2⟩ := C0
  obtain ⟨o1_0, o1_1, o1_2, o1_3, o1_4, o1_5, o1_6, o1_7, o1_8⟩ := C1
  obtain ⟨o2_0, o2_1, o2_2⟩ := C2
  go_wp2
  go_ret
  exact ⟨rfl, HB.out⟩

set_option maxHeartbeats 4000000 in
set_option maxRecDepth 100000 in
theorem same_err (dn : Bool) (di df : ByteArray) (n : Int) (mn : Bool) (mi mf : ByteArray) (c : Int) (hc : (c == 0) = false)
    (H1 : ∀ wx : World, Calls Try.prog 13 #[.agg #[.bool dn, .string di, .string df], .int .i64 n] wx fun e w' => e = .returned (.tuple #[.agg #[.bool false, .string ⟨#[]⟩, .string ⟨#[]⟩, .string ⟨#[]⟩, .int .i64 0, .int .i64 0, .string ⟨#[]⟩, .string ⟨#[]⟩, .int .i64 0], .int .i64 c]) ∧ Below wx.heap.size wx w')
    (H2 : ∀ wx : World, Calls Try.prog 19 #[.agg #[.bool false, .string ⟨#[48]⟩, .string ⟨#[]⟩], .agg #[.bool dn, .string di, .string df]] wx fun e w' => e = .returned (.tuple #[.agg #[.bool mn, .string mi, .string mf], .int .i64 0]) ∧ Below wx.heap.size wx w')
    (H3 : ∀ wx : World, Calls Try.prog 13 #[.agg #[.bool mn, .string mi, .string mf], .int .i64 n] wx fun e w' => e = .returned (.tuple #[.agg #[.bool false, .string ⟨#[]⟩, .string ⟨#[]⟩, .string ⟨#[]⟩, .int .i64 0, .int .i64 0, .string ⟨#[]⟩, .string ⟨#[]⟩, .int .i64 0], .int .i64 c]) ∧ Below wx.heap.size wx w') (w : World)
    : Calls Try.prog 4 #[.agg #[.bool dn, .string di, .string df], .int .i64 n] w fun e w' => e = .returned (.bool true) ∧ Below w.heap.size w w' := by
  have DW := Lib.hid oawake_any
  have D1 := Lib.hid H1
  have D2 := Lib.hid H2
  have D3 := Lib.hid H3
  clear H1 H2 H3
  have q4 : (c == c) = true := beq_self_eq_true _
  go_enter Try.func4, Try.ntmps4
  go_wp2_with fail
  obtain ⟨W0, hW0⟩ : ∃ W0, W0 = (w.alloc (.cells #[.bool dn, .string di, .string df] 23)) := ⟨_, rfl⟩
  have hB0 : Below w.heap.size w w := Below.refl _ _
  have ha0 : Below w.heap.size w (w.alloc (.cells #[.bool dn, .string di, .string df] 23)) := (Below.refl _ _).alloc (Nat.le_refl _) _
  have hB1 := hB0.trans (ha0.mono hB0.size)
  have hs0 : (w.alloc (.cells #[.bool dn, .string di, .string df] 23)).heap.size = w.heap.size + 1 := by simp
  have C0 := (one_box w (.bool dn) (.string di) (.string df) 23).2.1
  rw [← hW0] at hB1 hs0 C0 ⊢
  have z0 : w.heap.size + 1 ≤ W0.heap.size := by omega
  have HB := Lib.hid hB1
  clear hW0 hB0 ha0 hB1 hs0
  (with_reducible refine (DW.out _).mono ?_)
  rintro e V1 ⟨rfl, hb⟩
  replace C0 := C0.keep hb (by omega)
  replace z0 : w.heap.size + 1 ≤ V1.heap.size := by have := hb.size; omega
  replace HB := Lib.hid (HB.out.trans (hb.mono HB.out.size))
  clear hb
  have K0 := Lib.hid C0
  obtain ⟨o0_0, o0_1, o0_2⟩ := C0
  go_wp2_with fail
  clear o0_0 o0_1 o0_2
  have C0 := K0.out
  clear K0
  (with_reducible refine (D1.out _).mono ?_)
  rintro e V2 ⟨rfl, hb⟩
  replace C0 := C0.keep hb (by omega)
  replace z0 : w.heap.size + 1 ≤ V2.heap.size := by have := hb.size; omega
  replace HB := Lib.hid (HB.out.trans (hb.mono HB.out.size))
  clear hb
  have ba : Below V2.heap.size V2 (V2.alloc (.cells #[.bool false, .string ⟨#[]⟩, .string ⟨#[]⟩, .string ⟨#[]⟩, .int .i64 0, .int .i64 0, .string ⟨#[]⟩, .string ⟨#[]⟩, .int .i64 0] 25)) := (Below.refl _ _).alloc (Nat.le_refl _) _
  replace C0 := C0.keep ba (by omega)
  have C1 : Cells9 (V2.alloc (.cells #[.bool false, .string ⟨#[]⟩, .string ⟨#[]⟩, .string ⟨#[]⟩, .int .i64 0, .int .i64 0, .string ⟨#[]⟩, .string ⟨#[]⟩, .int .i64 0] 25)) V2.heap.size (.bool false) (.string ⟨#[]⟩) (.string ⟨#[]⟩) (.string ⟨#[]⟩) (.int .i64 0) (.int .i64 0) (.string ⟨#[]⟩) (.string ⟨#[]⟩) (.int .i64 0) := (nine_box V2 (.bool false) (.string ⟨#[]⟩) (.string ⟨#[]⟩) (.string ⟨#[]⟩) (.int .i64 0) (.int .i64 0) (.string ⟨#[]⟩) (.string ⟨#[]⟩) (.int .i64 0) 25).2.1
  have z1 : V2.heap.size + 1 ≤ (V2.alloc (.cells #[.bool false, .string ⟨#[]⟩, .string ⟨#[]⟩, .string ⟨#[]⟩, .int .i64 0, .int .i64 0, .string ⟨#[]⟩, .string ⟨#[]⟩, .int .i64 0] 25)).heap.size := by simp
  replace z0 : w.heap.size + 1 ≤ (V2.alloc (.cells #[.bool false, .string ⟨#[]⟩, .string ⟨#[]⟩, .string ⟨#[]⟩, .int .i64 0, .int .i64 0, .string ⟨#[]⟩, .string ⟨#[]⟩, .int .i64 0] 25)).heap.size := by have := ba.size; omega
  replace HB := Lib.hid (HB.out.trans (ba.mono HB.out.size))
  clear ba
  have K0 := Lib.hid C0
  have K1 := Lib.hid C1
  obtain ⟨o0_0, o0_1, o0_2⟩ := C0
  obtain ⟨o1_0, o1_1, o1_2, o1_3, o1_4, o1_5, o1_6, o1_7, o1_8⟩ := C1
  go_wp2_with fail
  clear o0_0 o0_1 o0_2
  have C0 := K0.out
  clear K0
  clear o1_0 o1_1 o1_2 o1_3 o1_4 o1_5 o1_6 o1_7 o1_8
  have C1 := K1.out
  clear K1
  obtain ⟨V2x, hV2x⟩ : ∃ V2x, V2x = (V2.alloc (.cells #[.bool false, .string ⟨#[]⟩, .string ⟨#[]⟩, .string ⟨#[]⟩, .int .i64 0, .int .i64 0, .string ⟨#[]⟩, .string ⟨#[]⟩, .int .i64 0] 25)) := ⟨_, rfl⟩
  rw [← hV2x]
  rw [← hV2x] at HB C0 z0 C1 z1 
  clear hV2x
  (with_reducible refine (D2.out _).mono ?_)
  rintro e V3 ⟨rfl, hb⟩
  replace C0 := C0.keep hb (by omega)
  replace C1 := C1.keep hb (by omega)
  replace z0 : w.heap.size + 1 ≤ V3.heap.size := by have := hb.size; omega
  replace z1 : V2.heap.size + 1 ≤ V3.heap.size := by have := hb.size; omega
  replace HB := Lib.hid (HB.out.trans (hb.mono HB.out.size))
  clear hb
  have ba : Below V3.heap.size V3 (V3.alloc (.cells #[.bool mn, .string mi, .string mf] 23)) := (Below.refl _ _).alloc (Nat.le_refl _) _
  replace C0 := C0.keep ba (by omega)
  replace C1 := C1.keep ba (by omega)
  have C2 : Cells3 (V3.alloc (.cells #[.bool mn, .string mi, .string mf] 23)) V3.heap.size (.bool mn) (.string mi) (.string mf) := (one_box V3 (.bool mn) (.string mi) (.string mf) 23).2.1
  have z2 : V3.heap.size + 1 ≤ (V3.alloc (.cells #[.bool mn, .string mi, .string mf] 23)).heap.size := by simp
  replace z0 : w.heap.size + 1 ≤ (V3.alloc (.cells #[.bool mn, .string mi, .string mf] 23)).heap.size := by have := ba.size; omega
  replace z1 : V2.heap.size + 1 ≤ (V3.alloc (.cells #[.bool mn, .string mi, .string mf] 23)).heap.size := by have := ba.size; omega
  replace HB := Lib.hid (HB.out.trans (ba.mono HB.out.size))
  clear ba
  have K0 := Lib.hid C0
  have K1 := Lib.hid C1
  have K2 := Lib.hid C2
  obtain ⟨o0_0, o0_1, o0_2⟩ := C0
  obtain ⟨o1_0, o1_1, o1_2, o1_3, o1_4, o1_5, o1_6, o1_7, o1_8⟩ := C1
  obtain ⟨o2_0, o2_1, o2_2⟩ := C2
  go_wp2_with fail
  clear o0_0 o0_1 o0_2
  have C0 := K0.out
  clear K0
  clear o1_0 o1_1 o1_2 o1_3 o1_4 o1_5 o1_6 o1_7 o1_8
  have C1 := K1.out
  clear K1
  clear o2_0 o2_1 o2_2
  have C2 := K2.out
  clear K2
  obtain ⟨V3x, hV3x⟩ : ∃ V3x, V3x = (V3.alloc (.cells #[.bool mn, .string mi, .string mf] 23)) := ⟨_, rfl⟩
  rw [← hV3x]
  rw [← hV3x] at HB C0 z0 C1 z1 C2 z2 
  clear hV3x
  (with_reducible refine (D3.out _).mono ?_)
  rintro e V4 ⟨rfl, hb⟩
  replace C0 := C0.keep hb (by omega)
  replace C1 := C1.keep hb (by omega)
  replace C2 := C2.keep hb (by omega)
  replace z0 : w.heap.size + 1 ≤ V4.heap.size := by have := hb.size; omega
  replace z1 : V2.heap.size + 1 ≤ V4.heap.size := by have := hb.size; omega
  replace z2 : V3.heap.size + 1 ≤ V4.heap.size := by have := hb.size; omega
  replace HB := Lib.hid (HB.out.trans (hb.mono HB.out.size))
  clear hb
  have ba : Below V4.heap.size V4 (V4.alloc (.cells #[.bool false, .string ⟨#[]⟩, .string ⟨#[]⟩, .string ⟨#[]⟩, .int .i64 0, .int .i64 0, .string ⟨#[]⟩, .string ⟨#[]⟩, .int .i64 0] 25)) := (Below.refl _ _).alloc (Nat.le_refl _) _
  replace C0 := C0.keep ba (by omega)
  replace C1 := C1.keep ba (by omega)
  replace C2 := C2.keep ba (by omega)
  have C3 : Cells9 (V4.alloc (.cells #[.bool false, .string ⟨#[]⟩, .string ⟨#[]⟩, .string ⟨#[]⟩, .int .i64 0, .int .i64 0, .string ⟨#[]⟩, .string ⟨#[]⟩, .int .i64 0] 25)) V4.heap.size (.bool false) (.string ⟨#[]⟩) (.string ⟨#[]⟩) (.string ⟨#[]⟩) (.int .i64 0) (.int .i64 0) (.string ⟨#[]⟩) (.string ⟨#[]⟩) (.int .i64 0) := (nine_box V4 (.bool false) (.string ⟨#[]⟩) (.string ⟨#[]⟩) (.string ⟨#[]⟩) (.int .i64 0) (.int .i64 0) (.string ⟨#[]⟩) (.string ⟨#[]⟩) (.int .i64 0) 25).2.1
  have z3 : V4.heap.size + 1 ≤ (V4.alloc (.cells #[.bool false, .string ⟨#[]⟩, .string ⟨#[]⟩, .string ⟨#[]⟩, .int .i64 0, .int .i64 0, .string ⟨#[]⟩, .string ⟨#[]⟩, .int .i64 0] 25)).heap.size := by simp
  replace z0 : w.heap.size + 1 ≤ (V4.alloc (.cells #[.bool false, .string ⟨#[]⟩, .string ⟨#[]⟩, .string ⟨#[]⟩, .int .i64 0, .int .i64 0, .string ⟨#[]⟩, .string ⟨#[]⟩, .int .i64 0] 25)).heap.size := by have := ba.size; omega
  replace z1 : V2.heap.size + 1 ≤ (V4.alloc (.cells #[.bool false, .string ⟨#[]⟩, .string ⟨#[]⟩, .string ⟨#[]⟩, .int .i64 0, .int .i64 0, .string ⟨#[]⟩, .string ⟨#[]⟩, .int .i64 0] 25)).heap.size := by have := ba.size; omega
  replace z2 : V3.heap.size + 1 ≤ (V4.alloc (.cells #[.bool false, .string ⟨#[]⟩, .string ⟨#[]⟩, .string ⟨#[]⟩, .int .i64 0, .int .i64 0, .string ⟨#[]⟩, .string ⟨#[]⟩, .int .i64 0] 25)).heap.size := by have := ba.size; omega
  replace HB := Lib.hid (HB.out.trans (ba.mono HB.out.size))
  clear ba
  have K0 := Lib.hid C0
  have K1 := Lib.hid C1
  have K2 := Lib.hid C2
  have K3 := Lib.hid C3
  obtain ⟨o0_0, o0_1, o0_2⟩ := C0
  obtain ⟨o1_0, o1_1, o1_2, o1_3, o1_4, o1_5, o1_6, o1_7, o1_8⟩ := C1
  obtain ⟨o2_0, o2_1, o2_2⟩ := C2
  obtain ⟨o3_0, o3_1, o3_2, o3_3, o3_4, o3_5, o3_6, o3_7, o3_8⟩ := C3
  go_wp2
  go_ret
  exact ⟨rfl, HB.out⟩

set_option maxHeartbeats 4000000 in
set_option maxRecDepth 100000 in
theorem same_ok (dn : Bool) (di df : ByteArray) (n : Int) (xn : Bool) (xi xf : ByteArray) (mn : Bool) (mi mf : ByteArray) (i tf F T : ByteArray) (V Wd : Int)
    (H1 : ∀ wx : World, Calls Try.prog 13 #[.agg #[.bool dn, .string di, .string df], .int .i64 n] wx fun e w' => e = .returned (.tuple #[.agg #[.bool false, .string i, .string tf, .string i, .int .i64 V, .int .i64 Wd, .string F, .string T, .int .i64 n], .int .i64 0]) ∧ Below wx.heap.size wx w')
    (H2 : ∀ wx : World, Calls Try.prog 18 #[.agg #[.bool dn, .string di, .string df], .int .i64 n] wx fun e w' => e = .returned (.tuple #[.agg #[.bool xn, .string xi, .string xf], .int .i64 0]) ∧ Below wx.heap.size wx w')
    (H3 : ∀ wx : World, Calls Try.prog 13 #[.agg #[.bool xn, .string xi, .string xf], .int .i64 0] wx fun e w' => e = .returned (.tuple #[.agg #[.bool false, .string i, .string tf, .string i, .int .i64 V, .int .i64 Wd, .string F, .string T, .int .i64 0], .int .i64 0]) ∧ Below wx.heap.size wx w')
    (H4 : ∀ wx : World, Calls Try.prog 15 #[.agg #[.bool false, .string i, .string tf, .string i, .int .i64 V, .int .i64 Wd, .string F, .string T, .int .i64 n]] wx fun e w' => e = .returned (.int .i64 0) ∧ Below wx.heap.size wx w')
    (H5 : ∀ wx : World, Calls Try.prog 19 #[.agg #[.bool false, .string ⟨#[48]⟩, .string ⟨#[]⟩], .agg #[.bool dn, .string di, .string df]] wx fun e w' => e = .returned (.tuple #[.agg #[.bool mn, .string mi, .string mf], .int .i64 0]) ∧ Below wx.heap.size wx w')
    (H6 : ∀ wx : World, Calls Try.prog 13 #[.agg #[.bool mn, .string mi, .string mf], .int .i64 n] wx fun e w' => e = .returned (.tuple #[.agg #[.bool false, .string i, .string tf, .string i, .int .i64 V, .int .i64 Wd, .string F, .string T, .int .i64 n], .int .i64 0]) ∧ Below wx.heap.size wx w') (w : World)
    : Calls Try.prog 4 #[.agg #[.bool dn, .string di, .string df], .int .i64 n] w fun e w' => e = .returned (.bool true) ∧ Below w.heap.size w w' := by
  have DW := Lib.hid oawake_any
  have D1 := Lib.hid H1
  have D2 := Lib.hid H2
  have D3 := Lib.hid H3
  have D4 := Lib.hid H4
  have D5 := Lib.hid H5
  have D6 := Lib.hid H6
  clear H1 H2 H3 H4 H5 H6
  have q4 : (n == n) = true := beq_self_eq_true _
  have q5 : (n != n) = false := by simp
  go_enter Try.func4, Try.ntmps4
  go_wp2_with fail
  obtain ⟨W0, hW0⟩ : ∃ W0, W0 = (w.alloc (.cells #[.bool dn, .string di, .string df] 23)) := ⟨_, rfl⟩
  have hB0 : Below w.heap.size w w := Below.refl _ _
  have ha0 : Below w.heap.size w (w.alloc (.cells #[.bool dn, .string di, .string df] 23)) := (Below.refl _ _).alloc (Nat.le_refl _) _
  have hB1 := hB0.trans (ha0.mono hB0.size)
  have hs0 : (w.alloc (.cells #[.bool dn, .string di, .string df] 23)).heap.size = w.heap.size + 1 := by simp
  have C0 := (one_box w (.bool dn) (.string di) (.string df) 23).2.1
  rw [← hW0] at hB1 hs0 C0 ⊢
  have z0 : w.heap.size + 1 ≤ W0.heap.size := by omega
  have HB := Lib.hid hB1
  clear hW0 hB0 ha0 hB1 hs0
  (with_reducible refine (DW.out _).mono ?_)
  rintro e V1 ⟨rfl, hb⟩
  replace C0 := C0.keep hb (by omega)
  replace z0 : w.heap.size + 1 ≤ V1.heap.size := by have := hb.size; omega
  replace HB := Lib.hid (HB.out.trans (hb.mono HB.out.size))
  clear hb
  have K0 := Lib.hid C0
  obtain ⟨o0_0, o0_1, o0_2⟩ := C0
  go_wp2_with fail
  clear o0_0 o0_1 o0_2
  have C0 := K0.out
  clear K0
  (with_reducible refine (D1.out _).mono ?_)
  rintro e V2 ⟨rfl, hb⟩
  replace C0 := C0.keep hb (by omega)
  replace z0 : w.heap.size + 1 ≤ V2.heap.size := by have := hb.size; omega
  replace HB := Lib.hid (HB.out.trans (hb.mono HB.out.size))
  clear hb
  have ba : Below V2.heap.size V2 (V2.alloc (.cells #[.bool false, .string i, .string tf, .string i, .int .i64 V, .int .i64 Wd, .string F, .string T, .int .i64 n] 25)) := (Below.refl _ _).alloc (Nat.le_refl _) _
  replace C0 := C0.keep ba (by omega)
  have C1 : Cells9 (V2.alloc (.cells #[.bool false, .string i, .string tf, .string i, .int .i64 V, .int .i64 Wd, .string F, .string T, .int .i64 n] 25)) V2.heap.size (.bool false) (.string i) (.string tf) (.string i) (.int .i64 V) (.int .i64 Wd) (.string F) (.string T) (.int .i64 n) := (nine_box V2 (.bool false) (.string i) (.string tf) (.string i) (.int .i64 V) (.int .i64 Wd) (.string F) (.string T) (.int .i64 n) 25).2.1
  have z1 : V2.heap.size + 1 ≤ (V2.alloc (.cells #[.bool false, .string i, .string tf, .string i, .int .i64 V, .int .i64 Wd, .string F, .string T, .int .i64 n] 25)).heap.size := by simp
  replace z0 : w.heap.size + 1 ≤ (V2.alloc (.cells #[.bool false, .string i, .string tf, .string i, .int .i64 V, .int .i64 Wd, .string F, .string T, .int .i64 n] 25)).heap.size := by have := ba.size; omega
  replace HB := Lib.hid (HB.out.trans (ba.mono HB.out.size))
  clear ba
  have K0 := Lib.hid C0
  have K1 := Lib.hid C1
  obtain ⟨o0_0, o0_1, o0_2⟩ := C0
  obtain ⟨o1_0, o1_1, o1_2, o1_3, o1_4, o1_5, o1_6, o1_7, o1_8⟩ := C1
  go_wp2_with fail
  clear o0_0 o0_1 o0_2
  have C0 := K0.out
  clear K0
  clear o1_0 o1_1 o1_2 o1_3 o1_4 o1_5 o1_6 o1_7 o1_8
  have C1 := K1.out
  clear K1
  obtain ⟨V2x, hV2x⟩ : ∃ V2x, V2x = (V2.alloc (.cells #[.bool false, .string i, .string tf, .string i, .int .i64 V, .int .i64 Wd, .string F, .string T, .int .i64 n] 25)) := ⟨_, rfl⟩
  rw [← hV2x]
  rw [← hV2x] at HB C0 z0 C1 z1 
  clear hV2x
  (with_reducible refine (D2.out _).mono ?_)
  rintro e V3 ⟨rfl, hb⟩
  replace C0 := C0.keep hb (by omega)
  replace C1 := C1.keep hb (by omega)
  replace z0 : w.heap.size + 1 ≤ V3.heap.size := by have := hb.size; omega
  replace z1 : V2.heap.size + 1 ≤ V3.heap.size := by have := hb.size; omega
  replace HB := Lib.hid (HB.out.trans (hb.mono HB.out.size))
  clear hb
  have ba : Below V3.heap.size V3 (V3.alloc (.cells #[.bool xn, .string xi, .string xf] 23)) := (Below.refl _ _).alloc (Nat.le_refl _) _
  replace C0 := C0.keep ba (by omega)
  replace C1 := C1.keep ba (by omega)
  have C2 : Cells3 (V3.alloc (.cells #[.bool xn, .string xi, .string xf] 23)) V3.heap.size (.bool xn) (.string xi) (.string xf) := (one_box V3 (.bool xn) (.string xi) (.string xf) 23).2.1
  have z2 : V3.heap.size + 1 ≤ (V3.alloc (.cells #[.bool xn, .string xi, .string xf] 23)).heap.size := by simp
  replace z0 : w.heap.size + 1 ≤ (V3.alloc (.cells #[.bool xn, .string xi, .string xf] 23)).heap.size := by have := ba.size; omega
  replace z1 : V2.heap.size + 1 ≤ (V3.alloc (.cells #[.bool xn, .string xi, .string xf] 23)).heap.size := by have := ba.size; omega
  replace HB := Lib.hid (HB.out.trans (ba.mono HB.out.size))
  clear ba
  have K0 := Lib.hid C0
  have K1 := Lib.hid C1
  have K2 := Lib.hid C2
  obtain ⟨o0_0, o0_1, o0_2⟩ := C0
  obtain ⟨o1_0, o1_1, o1_2, o1_3, o1_4, o1_5, o1_6, o1_7, o1_8⟩ := C1
  obtain ⟨o2_0, o2_1, o2_2⟩ := C2
  go_wp2_with fail
  clear o0_0 o0_1 o0_2
  have C0 := K0.out
  clear K0
  clear o1_0 o1_1 o1_2 o1_3 o1_4 o1_5 o1_6 o1_7 o1_8
  have C1 := K1.out
  clear K1
  clear o2_0 o2_1 o2_2
  have C2 := K2.out
  clear K2
  obtain ⟨V3x, hV3x⟩ : ∃ V3x, V3x = (V3.alloc (.cells #[.bool xn, .string xi, .string xf] 23)) := ⟨_, rfl⟩
  rw [← hV3x]
  rw [← hV3x] at HB C0 z0 C1 z1 C2 z2 
  clear hV3x
  (with_reducible refine (D3.out _).mono ?_)
  rintro e V4 ⟨rfl, hb⟩
  replace C0 := C0.keep hb (by omega)
  replace C1 := C1.keep hb (by omega)
  replace C2 := C2.keep hb (by omega)
  replace z0 : w.heap.size + 1 ≤ V4.heap.size := by have := hb.size; omega
  replace z1 : V2.heap.size + 1 ≤ V4.heap.size := by have := hb.size; omega
  replace z2 : V3.heap.size + 1 ≤ V4.heap.size := by have := hb.size; omega
  replace HB := Lib.hid (HB.out.trans (hb.mono HB.out.size))
  clear hb
  have y0_3 := Lib.hid z0
  have y1_3 := Lib.hid z1
  have y2_3 := Lib.hid z2
  have ba : Below V4.heap.size V4 (V4.alloc (.cells #[.bool false, .string i, .string tf, .string i, .int .i64 V, .int .i64 Wd, .string F, .string T, .int .i64 0] 25)) := (Below.refl _ _).alloc (Nat.le_refl _) _
  replace C0 := C0.keep ba (by omega)
  replace C1 := C1.keep ba (by omega)
  replace C2 := C2.keep ba (by omega)
  have F3 := Lib.hid (nine_box V4 (.bool false) (.string i) (.string tf) (.string i) (.int .i64 V) (.int .i64 Wd) (.string F) (.string T) (.int .i64 0) 25).2.2
  have C3 : Cells9 (V4.alloc (.cells #[.bool false, .string i, .string tf, .string i, .int .i64 V, .int .i64 Wd, .string F, .string T, .int .i64 0] 25)) V4.heap.size (.bool false) (.string i) (.string tf) (.string i) (.int .i64 V) (.int .i64 Wd) (.string F) (.string T) (.int .i64 0) := (nine_box V4 (.bool false) (.string i) (.string tf) (.string i) (.int .i64 V) (.int .i64 Wd) (.string F) (.string T) (.int .i64 0) 25).2.1
  have z3 : V4.heap.size + 1 ≤ (V4.alloc (.cells #[.bool false, .string i, .string tf, .string i, .int .i64 V, .int .i64 Wd, .string F, .string T, .int .i64 0] 25)).heap.size := by simp
  replace z0 : w.heap.size + 1 ≤ (V4.alloc (.cells #[.bool false, .string i, .string tf, .string i, .int .i64 V, .int .i64 Wd, .string F, .string T, .int .i64 0] 25)).heap.size := by have := ba.size; omega
  replace z1 : V2.heap.size + 1 ≤ (V4.alloc (.cells #[.bool false, .string i, .string tf, .string i, .int .i64 V, .int .i64 Wd, .string F, .string T, .int .i64 0] 25)).heap.size := by have := ba.size; omega
  replace z2 : V3.heap.size + 1 ≤ (V4.alloc (.cells #[.bool false, .string i, .string tf, .string i, .int .i64 V, .int .i64 Wd, .string F, .string T, .int .i64 0] 25)).heap.size := by have := ba.size; omega
  replace HB := Lib.hid (HB.out.trans (ba.mono HB.out.size))
  clear ba
  have K0 := Lib.hid C0
  have K1 := Lib.hid C1
  have K2 := Lib.hid C2
  have K3 := Lib.hid C3
  obtain ⟨o0_0, o0_1, o0_2⟩ := C0
  obtain ⟨o1_0, o1_1, o1_2, o1_3, o1_4, o1_5, o1_6, o1_7, o1_8⟩ := C1
  obtain ⟨o2_0, o2_1, o2_2⟩ := C2
  obtain ⟨o3_0, o3_1, o3_2, o3_3, o3_4, o3_5, o3_6, o3_7, o3_8⟩ := C3
  go_wp2_with fail
  clear o0_0 o0_1 o0_2
  have C0 := K0.out
  clear K0
  clear o1_0 o1_1 o1_2 o1_3 o1_4 o1_5 o1_6 o1_7 o1_8
  have C1 := K1.out
  clear K1
  clear o2_0 o2_1 o2_2
  have C2 := K2.out
  clear K2
  clear o3_0 o3_1 o3_2 o3_3 o3_4 o3_5 o3_6 o3_7 o3_8
  have C3 := K3.out
  clear K3
  obtain ⟨V4x, hV4x⟩ : ∃ V4x, V4x = (V4.alloc (.cells #[.bool false, .string i, .string tf, .string i, .int .i64 V, .int .i64 Wd, .string F, .string T, .int .i64 0] 25)) := ⟨_, rfl⟩
  rw [← hV4x]
  rw [← hV4x] at HB C0 z0 C1 z1 C2 z2 C3 z3 F3
  clear hV4x
  (with_reducible refine (D4.out _).mono ?_)
  rintro e V5 ⟨rfl, hb⟩
  replace C0 := C0.keep hb (by omega)
  replace C1 := C1.keep hb (by omega)
  replace C2 := C2.keep hb (by omega)
  replace C3 := C3.keep hb (by omega)
  replace F3 := Lib.hid (frozen_keep F3.out hb (by omega))
  replace z0 : w.heap.size + 1 ≤ V5.heap.size := by have := hb.size; omega
  replace z1 : V2.heap.size + 1 ≤ V5.heap.size := by have := hb.size; omega
  replace z2 : V3.heap.size + 1 ≤ V5.heap.size := by have := hb.size; omega
  replace z3 : V4.heap.size + 1 ≤ V5.heap.size := by have := hb.size; omega
  replace HB := Lib.hid (HB.out.trans (hb.mono HB.out.size))
  clear hb
  have K0 := Lib.hid C0
  have K1 := Lib.hid C1
  have K2 := Lib.hid C2
  have K3 := Lib.hid C3
  obtain ⟨o0_0, o0_1, o0_2⟩ := C0
  obtain ⟨o1_0, o1_1, o1_2, o1_3, o1_4, o1_5, o1_6, o1_7, o1_8⟩ := C1
  obtain ⟨o2_0, o2_1, o2_2⟩ := C2
  obtain ⟨o3_0, o3_1, o3_2, o3_3, o3_4, o3_5, o3_6, o3_7, o3_8⟩ := C3
  have f3 := F3.out
  have n1 : Cells9 (V5.setCell ⟨V4.heap.size, 8, none⟩ (.int .i64 n)) V2.heap.size (.bool false) (.string i) (.string tf) (.string i) (.int .i64 V) (.int .i64 Wd) (.string F) (.string T) (.int .i64 n) := far9 K1.out (by have := y1_3.out; show V4.heap.size ≠ V2.heap.size; omega) _
  obtain ⟨n1_0, n1_1, n1_2, n1_3, n1_4, n1_5, n1_6, n1_7, n1_8⟩ := n1
  go_wp2_with fail
  clear n1_0 n1_1 n1_2 n1_3 n1_4 n1_5 n1_6 n1_7 n1_8
  clear o0_0 o0_1 o0_2
  have C0 := K0.out
  clear K0
  clear o1_0 o1_1 o1_2 o1_3 o1_4 o1_5 o1_6 o1_7 o1_8
  have C1 := K1.out
  clear K1
  clear o2_0 o2_1 o2_2
  have C2 := K2.out
  clear K2
  clear o3_0 o3_1 o3_2 o3_3 o3_4 o3_5 o3_6 o3_7 o3_8
  have C3 := K3.out
  clear K3
  obtain ⟨V5s, hV5s⟩ : ∃ V5s, V5s = (V5.setCell ⟨V4.heap.size, 8, none⟩ (.int .i64 n)) := ⟨_, rfl⟩
  rw [← hV5s]
  replace C0 : Cells3 V5s w.heap.size (.bool dn) (.string di) (.string df) := by rw [hV5s]; exact fars3 C0 (by have := y0_3.out; show V4.heap.size ≠ w.heap.size; omega) _
  replace C1 : Cells9 V5s V2.heap.size (.bool false) (.string i) (.string tf) (.string i) (.int .i64 V) (.int .i64 Wd) (.string F) (.string T) (.int .i64 n) := by rw [hV5s]; exact far9 C1 (by have := y1_3.out; show V4.heap.size ≠ V2.heap.size; omega) _
  replace C2 : Cells3 V5s V3.heap.size (.bool xn) (.string xi) (.string xf) := by rw [hV5s]; exact fars3 C2 (by have := y2_3.out; show V4.heap.size ≠ V3.heap.size; omega) _
  replace C3 : Cells9 V5s V4.heap.size (.bool false) (.string i) (.string tf) (.string i) (.int .i64 V) (.int .i64 Wd) (.string F) (.string T) (.int .i64 n) := by rw [hV5s]; exact set9_8 C3
  replace HB : Hid (Below w.heap.size w V5s) := by rw [hV5s]; exact HB.out.setCell (p := ⟨V4.heap.size, 8, none⟩) (by have := y0_3.out; show w.heap.size ≤ V4.heap.size; omega) _
  replace z0 : w.heap.size + 1 ≤ V5s.heap.size := by rw [hV5s]; simpa [World.setCell] using z0
  replace z1 : V2.heap.size + 1 ≤ V5s.heap.size := by rw [hV5s]; simpa [World.setCell] using z1
  replace z2 : V3.heap.size + 1 ≤ V5s.heap.size := by rw [hV5s]; simpa [World.setCell] using z2
  replace z3 : V4.heap.size + 1 ≤ V5s.heap.size := by rw [hV5s]; simpa [World.setCell] using z3
  clear hV5s F3 f3
  (with_reducible refine (D5.out _).mono ?_)
  rintro e V6 ⟨rfl, hb⟩
  replace C0 := C0.keep hb (by omega)
  replace C1 := C1.keep hb (by omega)
  replace C2 := C2.keep hb (by omega)
  replace C3 := C3.keep hb (by omega)
  replace z0 : w.heap.size + 1 ≤ V6.heap.size := by have := hb.size; omega
  replace z1 : V2.heap.size + 1 ≤ V6.heap.size := by have := hb.size; omega
  replace z2 : V3.heap.size + 1 ≤ V6.heap.size := by have := hb.size; omega
  replace z3 : V4.heap.size + 1 ≤ V6.heap.size := by have := hb.size; omega
  replace HB := Lib.hid (HB.out.trans (hb.mono HB.out.size))
  clear hb
  have ba : Below V6.heap.size V6 (V6.alloc (.cells #[.bool mn, .string mi, .string mf] 23)) := (Below.refl _ _).alloc (Nat.le_refl _) _
  replace C0 := C0.keep ba (by omega)
  replace C1 := C1.keep ba (by omega)
  replace C2 := C2.keep ba (by omega)
  replace C3 := C3.keep ba (by omega)
  have C4 : Cells3 (V6.alloc (.cells #[.bool mn, .string mi, .string mf] 23)) V6.heap.size (.bool mn) (.string mi) (.string mf) := (one_box V6 (.bool mn) (.string mi) (.string mf) 23).2.1
  have z4 : V6.heap.size + 1 ≤ (V6.alloc (.cells #[.bool mn, .string mi, .string mf] 23)).heap.size := by simp
  replace z0 : w.heap.size + 1 ≤ (V6.alloc (.cells #[.bool mn, .string mi, .string mf] 23)).heap.size := by have := ba.size; omega
  replace z1 : V2.heap.size + 1 ≤ (V6.alloc (.cells #[.bool mn, .string mi, .string mf] 23)).heap.size := by have := ba.size; omega
  replace z2 : V3.heap.size + 1 ≤ (V6.alloc (.cells #[.bool mn, .string mi, .string mf] 23)).heap.size := by have := ba.size; omega
  replace z3 : V4.heap.size + 1 ≤ (V6.alloc (.cells #[.bool mn, .string mi, .string mf] 23)).heap.size := by have := ba.size; omega
  replace HB := Lib.hid (HB.out.trans (ba.mono HB.out.size))
  clear ba
  have K0 := Lib.hid C0
  have K1 := Lib.hid C1
  have K2 := Lib.hid C2
  have K3 := Lib.hid C3
  have K4 := Lib.hid C4
  obtain ⟨o0_0, o0_1, o0_2⟩ := C0
  obtain ⟨o1_0, o1_1, o1_2, o1_3, o1_4, o1_5, o1_6, o1_7, o1_8⟩ := C1
  obtain ⟨o2_0, o2_1, o2_2⟩ := C2
  obtain ⟨o3_0, o3_1, o3_2, o3_3, o3_4, o3_5, o3_6, o3_7, o3_8⟩ := C3
  obtain ⟨o4_0, o4_1, o4_2⟩ := C4
  go_wp2_with fail
  clear o0_0 o0_1 o0_2
  have C0 := K0.out
  clear K0
  clear o1_0 o1_1 o1_2 o1_3 o1_4 o1_5 o1_6 o1_7 o1_8
  have C1 := K1.out
  clear K1
  clear o2_0 o2_1 o2_2
  have C2 := K2.out
  clear K2
  clear o3_0 o3_1 o3_2 o3_3 o3_4 o3_5 o3_6 o3_7 o3_8
  have C3 := K3.out
  clear K3
  clear o4_0 o4_1 o4_2
  have C4 := K4.out
  clear K4
  obtain ⟨V6x, hV6x⟩ : ∃ V6x, V6x = (V6.alloc (.cells #[.bool mn, .string mi, .string mf] 23)) := ⟨_, rfl⟩
  rw [← hV6x]
  rw [← hV6x] at HB C0 z0 C1 z1 C2 z2 C3 z3 C4 z4 
  clear hV6x
  (with_reducible refine (D6.out _).mono ?_)
  rintro e V7 ⟨rfl, hb⟩
  replace C0 := C0.keep hb (by omega)
  replace C1 := C1.keep hb (by omega)
  replace C2 := C2.keep hb (by omega)
  replace C3 := C3.keep hb (by omega)
  replace C4 := C4.keep hb (by omega)
  replace z0 : w.heap.size + 1 ≤ V7.heap.size := by have := hb.size; omega
  replace z1 : V2.heap.size + 1 ≤ V7.heap.size := by have := hb.size; omega
  replace z2 : V3.heap.size + 1 ≤ V7.heap.size := by have := hb.size; omega
  replace z3 : V4.heap.size + 1 ≤ V7.heap.size := by have := hb.size; omega
  replace z4 : V6.heap.size + 1 ≤ V7.heap.size := by have := hb.size; omega
  replace HB := Lib.hid (HB.out.trans (hb.mono HB.out.size))
  clear hb
  have ba : Below V7.heap.size V7 (V7.alloc (.cells #[.bool false, .string i, .string tf, .string i, .int .i64 V, .int .i64 Wd, .string F, .string T, .int .i64 n] 25)) := (Below.refl _ _).alloc (Nat.le_refl _) _
  replace C0 := C0.keep ba (by omega)
  replace C1 := C1.keep ba (by omega)
  replace C2 := C2.keep ba (by omega)
  replace C3 := C3.keep ba (by omega)
  replace C4 := C4.keep ba (by omega)
  have C5 : Cells9 (V7.alloc (.cells #[.bool false, .string i, .string tf, .string i, .int .i64 V, .int .i64 Wd, .string F, .string T, .int .i64 n] 25)) V7.heap.size (.bool false) (.string i) (.string tf) (.string i) (.int .i64 V) (.int .i64 Wd) (.string F) (.string T) (.int .i64 n) := (nine_box V7 (.bool false) (.string i) (.string tf) (.string i) (.int .i64 V) (.int .i64 Wd) (.string F) (.string T) (.int .i64 n) 25).2.1
  have z5 : V7.heap.size + 1 ≤ (V7.alloc (.cells #[.bool false, .string i, .string tf, .string i, .int .i64 V, .int .i64 Wd, .string F, .string T, .int .i64 n] 25)).heap.size := by simp
  replace z0 : w.heap.size + 1 ≤ (V7.alloc (.cells #[.bool false, .string i, .string tf, .string i, .int .i64 V, .int .i64 Wd, .string F, .string T, .int .i64 n] 25)).heap.size := by have := ba.size; omega
  replace z1 : V2.heap.size + 1 ≤ (V7.alloc (.cells #[.bool false, .string i, .string tf, .string i, .int .i64 V, .int .i64 Wd, .string F, .string T, .int .i64 n] 25)).heap.size := by have := ba.size; omega
  replace z2 : V3.heap.size + 1 ≤ (V7.alloc (.cells #[.bool false, .string i, .string tf, .string i, .int .i64 V, .int .i64 Wd, .string F, .string T, .int .i64 n] 25)).heap.size := by have := ba.size; omega
  replace z3 : V4.heap.size + 1 ≤ (V7.alloc (.cells #[.bool false, .string i, .string tf, .string i, .int .i64 V, .int .i64 Wd, .string F, .string T, .int .i64 n] 25)).heap.size := by have := ba.size; omega
  replace z4 : V6.heap.size + 1 ≤ (V7.alloc (.cells #[.bool false, .string i, .string tf, .string i, .int .i64 V, .int .i64 Wd, .string F, .string T, .int .i64 n] 25)).heap.size := by have := ba.size; omega
  replace HB := Lib.hid (HB.out.trans (ba.mono HB.out.size))
  clear ba
  have K0 := Lib.hid C0
  have K1 := Lib.hid C1
  have K2 := Lib.hid C2
  have K3 := Lib.hid C3
  have K4 := Lib.hid C4
  have K5 := Lib.hid C5
  obtain ⟨o0_0, o0_1, o0_2⟩ := C0
  obtain ⟨o1_0, o1_1, o1_2, o1_3, o1_4, o1_5, o1_6, o1_7, o1_8⟩ := C1
  obtain ⟨o2_0, o2_1, o2_2⟩ := C2
  obtain ⟨o3_0, o3_1, o3_2, o3_3, o3_4, o3_5, o3_6, o3_7, o3_8⟩ := C3
  obtain ⟨o4_0, o4_1, o4_2⟩ := C4
  obtain ⟨o5_0, o5_1, o5_2, o5_3, o5_4, o5_5, o5_6, o5_7, o5_8⟩ := C5
  go_wp2
  go_ret
  exact ⟨rfl, HB.out⟩

end Go.Proofs.Ytcdmanhhddcmcaa
