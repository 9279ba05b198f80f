/- OperandLost: unlike numbers have unlike operands. -/
import Derived.Test.YtcdmanhhddcmcaaOpF
import Derived.Deep.DeepCutAuto
import Derived.Deep.RegionWith
import Derived.Deep.QuietTactic
import Derived.BigQuiet
namespace Go.Proofs.Ytcdmanhhddcmcaa
open Go.RowKit
attribute [local go_sem ↓] Go.wp_at_zero Go.wp_at_succ
theorem drewN_below {B : Nat} {w W : World} (h : Below B w W) (n : Nat) : Below B w (W.drewN n) := h.trans ⟨rfl, rfl, rfl, Nat.le_refl _, fun _ _ => rfl⟩
theorem set_neg {W : World} {b : Nat} {x0 x1 x2 y : Value} (h : Cells3 W b x0 x1 x2) : Cells3 (W.setCell ⟨b, 0, none⟩ y) b y x1 x2 :=
  ⟨cell_set_same _ _ _ _ h.1, cell_set_far _ _ _ _ _ _ (by decide) h.2.1, cell_set_far _ _ _ _ _ _ (by decide) h.2.2⟩

set_option maxHeartbeats 4000000 in
set_option maxRecDepth 100000 in
theorem lost_e (an bn : Bool) (ai af bi bf : ByteArray) (j k : Int) (xn : Bool) (xi xf xI : ByteArray) (xV xW : Int) (xF xT : ByteArray) (xE : Int) (yn : Bool) (yi yf yI : ByteArray) (yV yW : Int) (yF yT : ByteArray) (yE : Int) (ec fc : Int) (he : (ec == 0) = false)
    (H1 : ∀ wx : World, Calls Try.prog 13 #[.agg #[.bool an, .string ai, .string af], .int .i64 j] wx fun e w' => e = .returned (.tuple #[.agg #[.bool xn, .string xi, .string xf, .string xI, .int .i64 xV, .int .i64 xW, .string xF, .string xT, .int .i64 xE], .int .i64 ec]) ∧ Below wx.heap.size wx w')
    (H2 : ∀ wx : World, Calls Try.prog 13 #[.agg #[.bool bn, .string bi, .string bf], .int .i64 k] wx fun e w' => e = .returned (.tuple #[.agg #[.bool yn, .string yi, .string yf, .string yI, .int .i64 yV, .int .i64 yW, .string yF, .string yT, .int .i64 yE], .int .i64 fc]) ∧ Below wx.heap.size wx w') (w : World)
    : Calls Try.prog 9 #[.agg #[.bool an, .string ai, .string af], .agg #[.bool bn, .string bi, .string bf], .int .i64 j, .int .i64 k] w fun e w' => e = .returned (.bool true) ∧ Below w.heap.size w w' := by
  have DW := Lib.hid oawake_any
  have D1 := Lib.hid H1
  have D2 := Lib.hid H2
  clear H1 H2
  go_enter Try.func9, Try.ntmps9
  go_wp2_with fail
  obtain ⟨W0, hW0⟩ : ∃ W0, W0 = ((w.alloc (.cells #[.bool an, .string ai, .string af] 23)).alloc (.cells #[.bool bn, .string bi, .string bf] 23)) := ⟨_, rfl⟩
  have hB0 : Below w.heap.size w w := Below.refl _ _
  have ha0 : Below w.heap.size w (w.alloc (.cells #[.bool an, .string ai, .string af] 23)) := (Below.refl _ _).alloc (Nat.le_refl _) _
  have hB1 := hB0.trans (ha0.mono hB0.size)
  have hs0 : (w.alloc (.cells #[.bool an, .string ai, .string af] 23)).heap.size = w.heap.size + 1 := by simp
  have C0 := (one_box w (.bool an) (.string ai) (.string af) 23).2.1
  have ha1 : Below (w.alloc (.cells #[.bool an, .string ai, .string af] 23)).heap.size (w.alloc (.cells #[.bool an, .string ai, .string af] 23)) ((w.alloc (.cells #[.bool an, .string ai, .string af] 23)).alloc (.cells #[.bool bn, .string bi, .string bf] 23)) := (Below.refl _ _).alloc (Nat.le_refl _) _
  have hB2 := hB1.trans (ha1.mono hB1.size)
  have hs1 : ((w.alloc (.cells #[.bool an, .string ai, .string af] 23)).alloc (.cells #[.bool bn, .string bi, .string bf] 23)).heap.size = w.heap.size + 2 := by rw [show ((w.alloc (.cells #[.bool an, .string ai, .string af] 23)).alloc (.cells #[.bool bn, .string bi, .string bf] 23)).heap.size = (w.alloc (.cells #[.bool an, .string ai, .string af] 23)).heap.size + 1 by simp, hs0]
  replace C0 := C0.keep ha1 (by rw [hs0]; omega)
  have C1 := (one_box (w.alloc (.cells #[.bool an, .string ai, .string af] 23)) (.bool bn) (.string bi) (.string bf) 23).2.1
  rw [hs0] at C1
  rw [← hW0] at hB2 hs1 C0 C1 ⊢
  have z0 : w.heap.size + 1 ≤ W0.heap.size := by omega
  have z1 : (w.heap.size + 1) + 1 ≤ W0.heap.size := by omega
  have HB := Lib.hid hB2
  clear hW0 hB0 ha0 hB1 ha1 hB2 hs0 hs1
  (with_reducible refine (DW.out _).mono ?_)
  rintro e V1 ⟨rfl, hb⟩
  replace C0 := C0.keep hb (by omega)
  replace C1 := C1.keep hb (by omega)
  replace z0 : w.heap.size + 1 ≤ V1.heap.size := by have := hb.size; omega
  replace z1 : (w.heap.size + 1) + 1 ≤ V1.heap.size := by have := hb.size; omega
  replace HB := Lib.hid (HB.out.trans (hb.mono HB.out.size))
  clear hb
  have K0 := Lib.hid C0
  have K1 := Lib.hid C1
  obtain ⟨o0_0, o0_1, o0_2⟩ := C0
  obtain ⟨o1_0, o1_1, o1_2⟩ := C1
  go_wp2_with fail
  clear o0_0 o0_1 o0_2
  have C0 := K0.out
  clear K0
  clear o1_0 o1_1 o1_2
  have C1 := K1.out
  clear K1
  (with_reducible refine (D1.out _).mono ?_)
  rintro e V2 ⟨rfl, hb⟩
  replace C0 := C0.keep hb (by omega)
  replace C1 := C1.keep hb (by omega)
  replace z0 : w.heap.size + 1 ≤ V2.heap.size := by have := hb.size; omega
  replace z1 : (w.heap.size + 1) + 1 ≤ V2.heap.size := by have := hb.size; omega
  replace HB := Lib.hid (HB.out.trans (hb.mono HB.out.size))
  clear hb
  have ba : Below V2.heap.size V2 (V2.alloc (.cells #[.bool xn, .string xi, .string xf, .string xI, .int .i64 xV, .int .i64 xW, .string xF, .string xT, .int .i64 xE] 25)) := (Below.refl _ _).alloc (Nat.le_refl _) _
  replace C0 := C0.keep ba (by omega)
  replace C1 := C1.keep ba (by omega)
  have C2 : Cells9 (V2.alloc (.cells #[.bool xn, .string xi, .string xf, .string xI, .int .i64 xV, .int .i64 xW, .string xF, .string xT, .int .i64 xE] 25)) V2.heap.size (.bool xn) (.string xi) (.string xf) (.string xI) (.int .i64 xV) (.int .i64 xW) (.string xF) (.string xT) (.int .i64 xE) := (nine_box V2 (.bool xn) (.string xi) (.string xf) (.string xI) (.int .i64 xV) (.int .i64 xW) (.string xF) (.string xT) (.int .i64 xE) 25).2.1
  have z2 : V2.heap.size + 1 ≤ (V2.alloc (.cells #[.bool xn, .string xi, .string xf, .string xI, .int .i64 xV, .int .i64 xW, .string xF, .string xT, .int .i64 xE] 25)).heap.size := by simp
  replace z0 : w.heap.size + 1 ≤ (V2.alloc (.cells #[.bool xn, .string xi, .string xf, .string xI, .int .i64 xV, .int .i64 xW, .string xF, .string xT, .int .i64 xE] 25)).heap.size := by have := ba.size; omega
  replace z1 : (w.heap.size + 1) + 1 ≤ (V2.alloc (.cells #[.bool xn, .string xi, .string xf, .string xI, .int .i64 xV, .int .i64 xW, .string xF, .string xT, .int .i64 xE] 25)).heap.size := by have := ba.size; omega
  replace HB := Lib.hid (HB.out.trans (ba.mono HB.out.size))
  clear ba
  have K0 := Lib.hid C0
  have K1 := Lib.hid C1
  have K2 := Lib.hid C2
  obtain ⟨o0_0, o0_1, o0_2⟩ := C0
  obtain ⟨o1_0, o1_1, o1_2⟩ := C1
  obtain ⟨o2_0, o2_1, o2_2, o2_3, o2_4, o2_5, o2_6, o2_7, o2_8⟩ := C2
  go_wp2_with fail
  clear o0_0 o0_1 o0_2
  have C0 := K0.out
  clear K0
  clear o1_0 o1_1 o1_2
  have C1 := K1.out
  clear K1
  clear o2_0 o2_1 o2_2 o2_3 o2_4 o2_5 o2_6 o2_7 o2_8
  have C2 := K2.out
  clear K2
  obtain ⟨V2x, hV2x⟩ : ∃ V2x, V2x = (V2.alloc (.cells #[.bool xn, .string xi, .string xf, .string xI, .int .i64 xV, .int .i64 xW, .string xF, .string xT, .int .i64 xE] 25)) := ⟨_, rfl⟩
  rw [← hV2x]
  rw [← hV2x] at HB C0 z0 C1 z1 C2 z2 
  clear hV2x
  (with_reducible refine (D2.out _).mono ?_)
  rintro e V3 ⟨rfl, hb⟩
  replace C0 := C0.keep hb (by omega)
  replace C1 := C1.keep hb (by omega)
  replace C2 := C2.keep hb (by omega)
  replace z0 : w.heap.size + 1 ≤ V3.heap.size := by have := hb.size; omega
  replace z1 : (w.heap.size + 1) + 1 ≤ V3.heap.size := by have := hb.size; omega
  replace z2 : V2.heap.size + 1 ≤ V3.heap.size := by have := hb.size; omega
  replace HB := Lib.hid (HB.out.trans (hb.mono HB.out.size))
  clear hb
  have ba : Below V3.heap.size V3 (V3.alloc (.cells #[.bool yn, .string yi, .string yf, .string yI, .int .i64 yV, .int .i64 yW, .string yF, .string yT, .int .i64 yE] 25)) := (Below.refl _ _).alloc (Nat.le_refl _) _
  replace C0 := C0.keep ba (by omega)
  replace C1 := C1.keep ba (by omega)
  replace C2 := C2.keep ba (by omega)
  have C3 : Cells9 (V3.alloc (.cells #[.bool yn, .string yi, .string yf, .string yI, .int .i64 yV, .int .i64 yW, .string yF, .string yT, .int .i64 yE] 25)) V3.heap.size (.bool yn) (.string yi) (.string yf) (.string yI) (.int .i64 yV) (.int .i64 yW) (.string yF) (.string yT) (.int .i64 yE) := (nine_box V3 (.bool yn) (.string yi) (.string yf) (.string yI) (.int .i64 yV) (.int .i64 yW) (.string yF) (.string yT) (.int .i64 yE) 25).2.1
  have z3 : V3.heap.size + 1 ≤ (V3.alloc (.cells #[.bool yn, .string yi, .string yf, .string yI, .int .i64 yV, .int .i64 yW, .string yF, .string yT, .int .i64 yE] 25)).heap.size := by simp
  replace z0 : w.heap.size + 1 ≤ (V3.alloc (.cells #[.bool yn, .string yi, .string yf, .string yI, .int .i64 yV, .int .i64 yW, .string yF, .string yT, .int .i64 yE] 25)).heap.size := by have := ba.size; omega
  replace z1 : (w.heap.size + 1) + 1 ≤ (V3.alloc (.cells #[.bool yn, .string yi, .string yf, .string yI, .int .i64 yV, .int .i64 yW, .string yF, .string yT, .int .i64 yE] 25)).heap.size := by have := ba.size; omega
  replace z2 : V2.heap.size + 1 ≤ (V3.alloc (.cells #[.bool yn, .string yi, .string yf, .string yI, .int .i64 yV, .int .i64 yW, .string yF, .string yT, .int .i64 yE] 25)).heap.size := by have := ba.size; omega
  replace HB := Lib.hid (HB.out.trans (ba.mono HB.out.size))
  clear ba
  have K0 := Lib.hid C0
  have K1 := Lib.hid C1
  have K2 := Lib.hid C2
  have K3 := Lib.hid C3
  obtain ⟨o0_0, o0_1, o0_2⟩ := C0
  obtain ⟨o1_0, o1_1, o1_2⟩ := C1
  obtain ⟨o2_0, o2_1, o2_2, o2_3, o2_4, o2_5, o2_6, o2_7, o2_8⟩ := C2
  obtain ⟨o3_0, o3_1, o3_2, o3_3, o3_4, o3_5, o3_6, o3_7, o3_8⟩ := C3
  go_wp2
  go_ret
  exact ⟨rfl, HB.out⟩

set_option maxHeartbeats 4000000 in
set_option maxRecDepth 100000 in
theorem lost_f (an bn : Bool) (ai af bi bf : ByteArray) (j k : Int) (xn : Bool) (xi xf xI : ByteArray) (xV xW : Int) (xF xT : ByteArray) (xE : Int) (yn : Bool) (yi yf yI : ByteArray) (yV yW : Int) (yF yT : ByteArray) (yE : Int) (fc : Int) (hf : (fc == 0) = false)
    (H1 : ∀ wx : World, Calls Try.prog 13 #[.agg #[.bool an, .string ai, .string af], .int .i64 j] wx fun e w' => e = .returned (.tuple #[.agg #[.bool xn, .string xi, .string xf, .string xI, .int .i64 xV, .int .i64 xW, .string xF, .string xT, .int .i64 xE], .int .i64 0]) ∧ Below wx.heap.size wx w')
    (H2 : ∀ wx : World, Calls Try.prog 13 #[.agg #[.bool bn, .string bi, .string bf], .int .i64 k] wx fun e w' => e = .returned (.tuple #[.agg #[.bool yn, .string yi, .string yf, .string yI, .int .i64 yV, .int .i64 yW, .string yF, .string yT, .int .i64 yE], .int .i64 fc]) ∧ Below wx.heap.size wx w') (w : World)
    : Calls Try.prog 9 #[.agg #[.bool an, .string ai, .string af], .agg #[.bool bn, .string bi, .string bf], .int .i64 j, .int .i64 k] w fun e w' => e = .returned (.bool true) ∧ Below w.heap.size w w' := by
  have DW := Lib.hid oawake_any
  have D1 := Lib.hid H1
  have D2 := Lib.hid H2
  clear H1 H2
  go_enter Try.func9, Try.ntmps9
  go_wp2_with fail
  obtain ⟨W0, hW0⟩ : ∃ W0, W0 = ((w.alloc (.cells #[.bool an, .string ai, .string af] 23)).alloc (.cells #[.bool bn, .string bi, .string bf] 23)) := ⟨_, rfl⟩
  have hB0 : Below w.heap.size w w := Below.refl _ _
  have ha0 : Below w.heap.size w (w.alloc (.cells #[.bool an, .string ai, .string af] 23)) := (Below.refl _ _).alloc (Nat.le_refl _) _
  have hB1 := hB0.trans (ha0.mono hB0.size)
  have hs0 : (w.alloc (.cells #[.bool an, .string ai, .string af] 23)).heap.size = w.heap.size + 1 := by simp
  have C0 := (one_box w (.bool an) (.string ai) (.string af) 23).2.1
  have ha1 : Below (w.alloc (.cells #[.bool an, .string ai, .string af] 23)).heap.size (w.alloc (.cells #[.bool an, .string ai, .string af] 23)) ((w.alloc (.cells #[.bool an, .string ai, .string af] 23)).alloc (.cells #[.bool bn, .string bi, .string bf] 23)) := (Below.refl _ _).alloc (Nat.le_refl _) _
  have hB2 := hB1.trans (ha1.mono hB1.size)
  have hs1 : ((w.alloc (.cells #[.bool an, .string ai, .string af] 23)).alloc (.cells #[.bool bn, .string bi, .string bf] 23)).heap.size = w.heap.size + 2 := by rw [show ((w.alloc (.cells #[.bool an, .string ai, .string af] 23)).alloc (.cells #[.bool bn, .string bi, .string bf] 23)).heap.size = (w.alloc (.cells #[.bool an, .string ai, .string af] 23)).heap.size + 1 by simp, hs0]
  replace C0 := C0.keep ha1 (by rw [hs0]; omega)
  have C1 := (one_box (w.alloc (.cells #[.bool an, .string ai, .string af] 23)) (.bool bn) (.string bi) (.string bf) 23).2.1
  rw [hs0] at C1
  rw [← hW0] at hB2 hs1 C0 C1 ⊢
  have z0 : w.heap.size + 1 ≤ W0.heap.size := by omega
  have z1 : (w.heap.size + 1) + 1 ≤ W0.heap.size := by omega
  have HB := Lib.hid hB2
  clear hW0 hB0 ha0 hB1 ha1 hB2 hs0 hs1
  (with_reducible refine (DW.out _).mono ?_)
  rintro e V1 ⟨rfl, hb⟩
  replace C0 := C0.keep hb (by omega)
  replace C1 := C1.keep hb (by omega)
  replace z0 : w.heap.size + 1 ≤ V1.heap.size := by have := hb.size; omega
  replace z1 : (w.heap.size + 1) + 1 ≤ V1.heap.size := by have := hb.size; omega
  replace HB := Lib.hid (HB.out.trans (hb.mono HB.out.size))
  clear hb
  have K0 := Lib.hid C0
  have K1 := Lib.hid C1
  obtain ⟨o0_0, o0_1, o0_2⟩ := C0
  obtain ⟨o1_0, o1_1, o1_2⟩ := C1
  go_wp2_with fail
  clear o0_0 o0_1 o0_2
  have C0 := K0.out
  clear K0
  clear o1_0 o1_1 o1_2
  have C1 := K1.out
  clear K1
  (with_reducible refine (D1.out _).mono ?_)
  rintro e V2 ⟨rfl, hb⟩
  replace C0 := C0.keep hb (by omega)
  replace C1 := C1.keep hb (by omega)
  replace z0 : w.heap.size + 1 ≤ V2.heap.size := by have := hb.size; omega
  replace z1 : (w.heap.size + 1) + 1 ≤ V2.heap.size := by have := hb.size; omega
  replace HB := Lib.hid (HB.out.trans (hb.mono HB.out.size))
  clear hb
  have ba : Below V2.heap.size V2 (V2.alloc (.cells #[.bool xn, .string xi, .string xf, .string xI, .int .i64 xV, .int .i64 xW, .string xF, .string xT, .int .i64 xE] 25)) := (Below.refl _ _).alloc (Nat.le_refl _) _
  replace C0 := C0.keep ba (by omega)
  replace C1 := C1.keep ba (by omega)
  have C2 : Cells9 (V2.alloc (.cells #[.bool xn, .string xi, .string xf, .string xI, .int .i64 xV, .int .i64 xW, .string xF, .string xT, .int .i64 xE] 25)) V2.heap.size (.bool xn) (.string xi) (.string xf) (.string xI) (.int .i64 xV) (.int .i64 xW) (.string xF) (.string xT) (.int .i64 xE) := (nine_box V2 (.bool xn) (.string xi) (.string xf) (.string xI) (.int .i64 xV) (.int .i64 xW) (.string xF) (.string xT) (.int .i64 xE) 25).2.1
  have z2 : V2.heap.size + 1 ≤ (V2.alloc (.cells #[.bool xn, .string xi, .string xf, .string xI, .int .i64 xV, .int .i64 xW, .string xF, .string xT, .int .i64 xE] 25)).heap.size := by simp
  replace z0 : w.heap.size + 1 ≤ (V2.alloc (.cells #[.bool xn, .string xi, .string xf, .string xI, .int .i64 xV, .int .i64 xW, .string xF, .string xT, .int .i64 xE] 25)).heap.size := by have := ba.size; omega
  replace z1 : (w.heap.size + 1) + 1 ≤ (V2.alloc (.cells #[.bool xn, .string xi, .string xf, .string xI, .int .i64 xV, .int .i64 xW, .string xF, .string xT, .int .i64 xE] 25)).heap.size := by have := ba.size; omega
  replace HB := Lib.hid (HB.out.trans (ba.mono HB.out.size))
  clear ba
  have K0 := Lib.hid C0
  have K1 := Lib.hid C1
  have K2 := Lib.hid C2
  obtain ⟨o0_0, o0_1, o0_2⟩ := C0
  obtain ⟨o1_0, o1_1, o1_2⟩ := C1
  obtain ⟨o2_0, o2_1, o2_2, o2_3, o2_4, o2_5, o2_6, o2_7, o2_8⟩ := C2
  go_wp2_with fail
  clear o0_0 o0_1 o0_2
  have C0 := K0.out
  clear K0
  clear o1_0 o1_1 o1_2
  have C1 := K1.out
  clear K1
  clear o2_0 o2_1 o2_2 o2_3 o2_4 o2_5 o2_6 o2_7 o2_8
  have C2 := K2.out
  clear K2
  obtain ⟨V2x, hV2x⟩ : ∃ V2x, V2x = (V2.alloc (.cells #[.bool xn, .string xi, .string xf, .string xI, .int .i64 xV, .int .i64 xW, .string xF, .string xT, .int .i64 xE] 25)) := ⟨_, rfl⟩
  rw [← hV2x]
  rw [← hV2x] at HB C0 z0 C1 z1 C2 z2 
  clear hV2x
  (with_reducible refine (D2.out _).mono ?_)
  rintro e V3 ⟨rfl, hb⟩
  replace C0 := C0.keep hb (by omega)
  replace C1 := C1.keep hb (by omega)
  replace C2 := C2.keep hb (by omega)
  replace z0 : w.heap.size + 1 ≤ V3.heap.size := by have := hb.size; omega
  replace z1 : (w.heap.size + 1) + 1 ≤ V3.heap.size := by have := hb.size; omega
  replace z2 : V2.heap.size + 1 ≤ V3.heap.size := by have := hb.size; omega
  replace HB := Lib.hid (HB.out.trans (hb.mono HB.out.size))
  clear hb
  have ba : Below V3.heap.size V3 (V3.alloc (.cells #[.bool yn, .string yi, .string yf, .string yI, .int .i64 yV, .int .i64 yW, .string yF, .string yT, .int .i64 yE] 25)) := (Below.refl _ _).alloc (Nat.le_refl _) _
  replace C0 := C0.keep ba (by omega)
  replace C1 := C1.keep ba (by omega)
  replace C2 := C2.keep ba (by omega)
  have C3 : Cells9 (V3.alloc (.cells #[.bool yn, .string yi, .string yf, .string yI, .int .i64 yV, .int .i64 yW, .string yF, .string yT, .int .i64 yE] 25)) V3.heap.size (.bool yn) (.string yi) (.string yf) (.string yI) (.int .i64 yV) (.int .i64 yW) (.string yF) (.string yT) (.int .i64 yE) := (nine_box V3 (.bool yn) (.string yi) (.string yf) (.string yI) (.int .i64 yV) (.int .i64 yW) (.string yF) (.string yT) (.int .i64 yE) 25).2.1
  have z3 : V3.heap.size + 1 ≤ (V3.alloc (.cells #[.bool yn, .string yi, .string yf, .string yI, .int .i64 yV, .int .i64 yW, .string yF, .string yT, .int .i64 yE] 25)).heap.size := by simp
  replace z0 : w.heap.size + 1 ≤ (V3.alloc (.cells #[.bool yn, .string yi, .string yf, .string yI, .int .i64 yV, .int .i64 yW, .string yF, .string yT, .int .i64 yE] 25)).heap.size := by have := ba.size; omega
  replace z1 : (w.heap.size + 1) + 1 ≤ (V3.alloc (.cells #[.bool yn, .string yi, .string yf, .string yI, .int .i64 yV, .int .i64 yW, .string yF, .string yT, .int .i64 yE] 25)).heap.size := by have := ba.size; omega
  replace z2 : V2.heap.size + 1 ≤ (V3.alloc (.cells #[.bool yn, .string yi, .string yf, .string yI, .int .i64 yV, .int .i64 yW, .string yF, .string yT, .int .i64 yE] 25)).heap.size := by have := ba.size; omega
  replace HB := Lib.hid (HB.out.trans (ba.mono HB.out.size))
  clear ba
  have K0 := Lib.hid C0
  have K1 := Lib.hid C1
  have K2 := Lib.hid C2
  have K3 := Lib.hid C3
  obtain ⟨o0_0, o0_1, o0_2⟩ := C0
  obtain ⟨o1_0, o1_1, o1_2⟩ := C1
  obtain ⟨o2_0, o2_1, o2_2, o2_3, o2_4, o2_5, o2_6, o2_7, o2_8⟩ := C2
  obtain ⟨o3_0, o3_1, o3_2, o3_3, o3_4, o3_5, o3_6, o3_7, o3_8⟩ := C3
  go_wp2
  go_ret
  exact ⟨rfl, HB.out⟩

set_option maxHeartbeats 4000000 in
set_option maxRecDepth 100000 in
theorem lost_s1 (an bn : Bool) (ai af bi bf : ByteArray) (j : Int) (ci cf tf F T : ByteArray) (V Wd : Int) (cn dn : Bool)
    (H1 : ∀ wx : World, Calls Try.prog 13 #[.agg #[.bool an, .string ai, .string af], .int .i64 j] wx fun e w' => e = .returned (.tuple #[.agg #[.bool false, .string ci, .string tf, .string ci, .int .i64 V, .int .i64 Wd, .string F, .string T, .int .i64 j], .int .i64 0]) ∧ Below wx.heap.size wx w')
    (H2 : ∀ wx : World, Calls Try.prog 13 #[.agg #[.bool bn, .string bi, .string bf], .int .i64 j] wx fun e w' => e = .returned (.tuple #[.agg #[.bool false, .string ci, .string tf, .string ci, .int .i64 V, .int .i64 Wd, .string F, .string T, .int .i64 j], .int .i64 0]) ∧ Below wx.heap.size wx w')
    (H3 : ∀ wx : World, Calls Try.prog 18 #[.agg #[.bool an, .string ai, .string af], .int .i64 j] wx fun e w' => e = .returned (.tuple #[.agg #[.bool cn, .string ci, .string cf], .int .i64 0]) ∧ Below wx.heap.size wx w')
    (H4 : ∀ wx : World, Calls Try.prog 18 #[.agg #[.bool bn, .string bi, .string bf], .int .i64 j] wx fun e w' => e = .returned (.tuple #[.agg #[.bool dn, .string ci, .string cf], .int .i64 0]) ∧ Below wx.heap.size wx w') (w : World) 
    : Calls Try.prog 9 #[.agg #[.bool an, .string ai, .string af], .agg #[.bool bn, .string bi, .string bf], .int .i64 j, .int .i64 j] w fun e w' => e = .returned (.bool true) ∧ Below w.heap.size w w' := by
  have DW := Lib.hid oawake_any
  have D1 := Lib.hid H1
  have D2 := Lib.hid H2
  have D3 := Lib.hid H3
  have D4 := Lib.hid H4
  clear H1 H2 H3 H4
  go_enter Try.func9, Try.ntmps9
  go_wp2_with fail
  obtain ⟨W0, hW0⟩ : ∃ W0, W0 = ((w.alloc (.cells #[.bool an, .string ai, .string af] 23)).alloc (.cells #[.bool bn, .string bi, .string bf] 23)) := ⟨_, rfl⟩
  have hB0 : Below w.heap.size w w := Below.refl _ _
  have ha0 : Below w.heap.size w (w.alloc (.cells #[.bool an, .string ai, .string af] 23)) := (Below.refl _ _).alloc (Nat.le_refl _) _
  have hB1 := hB0.trans (ha0.mono hB0.size)
  have hs0 : (w.alloc (.cells #[.bool an, .string ai, .string af] 23)).heap.size = w.heap.size + 1 := by simp
  have C0 := (one_box w (.bool an) (.string ai) (.string af) 23).2.1
  have ha1 : Below (w.alloc (.cells #[.bool an, .string ai, .string af] 23)).heap.size (w.alloc (.cells #[.bool an, .string ai, .string af] 23)) ((w.alloc (.cells #[.bool an, .string ai, .string af] 23)).alloc (.cells #[.bool bn, .string bi, .string bf] 23)) := (Below.refl _ _).alloc (Nat.le_refl _) _
  have hB2 := hB1.trans (ha1.mono hB1.size)
  have hs1 : ((w.alloc (.cells #[.bool an, .string ai, .string af] 23)).alloc (.cells #[.bool bn, .string bi, .string bf] 23)).heap.size = w.heap.size + 2 := by rw [show ((w.alloc (.cells #[.bool an, .string ai, .string af] 23)).alloc (.cells #[.bool bn, .string bi, .string bf] 23)).heap.size = (w.alloc (.cells #[.bool an, .string ai, .string af] 23)).heap.size + 1 by simp, hs0]
  replace C0 := C0.keep ha1 (by rw [hs0]; omega)
  have C1 := (one_box (w.alloc (.cells #[.bool an, .string ai, .string af] 23)) (.bool bn) (.string bi) (.string bf) 23).2.1
  rw [hs0] at C1
  rw [← hW0] at hB2 hs1 C0 C1 ⊢
  have z0 : w.heap.size + 1 ≤ W0.heap.size := by omega
  have z1 : (w.heap.size + 1) + 1 ≤ W0.heap.size := by omega
  have HB := Lib.hid hB2
  clear hW0 hB0 ha0 hB1 ha1 hB2 hs0 hs1
  (with_reducible refine (DW.out _).mono ?_)
  rintro e V1 ⟨rfl, hb⟩
  replace C0 := C0.keep hb (by omega)
  replace C1 := C1.keep hb (by omega)
  replace z0 : w.heap.size + 1 ≤ V1.heap.size := by have := hb.size; omega
  replace z1 : (w.heap.size + 1) + 1 ≤ V1.heap.size := by have := hb.size; omega
  replace HB := Lib.hid (HB.out.trans (hb.mono HB.out.size))
  clear hb
  have K0 := Lib.hid C0
  have K1 := Lib.hid C1
  obtain ⟨o0_0, o0_1, o0_2⟩ := C0
  obtain ⟨o1_0, o1_1, o1_2⟩ := C1
  go_wp2_with fail
  clear o0_0 o0_1 o0_2
  have C0 := K0.out
  clear K0
  clear o1_0 o1_1 o1_2
  have C1 := K1.out
  clear K1
  (with_reducible refine (D1.out _).mono ?_)
  rintro e V2 ⟨rfl, hb⟩
  replace C0 := C0.keep hb (by omega)
  replace C1 := C1.keep hb (by omega)
  replace z0 : w.heap.size + 1 ≤ V2.heap.size := by have := hb.size; omega
  replace z1 : (w.heap.size + 1) + 1 ≤ V2.heap.size := by have := hb.size; omega
  replace HB := Lib.hid (HB.out.trans (hb.mono HB.out.size))
  clear hb
  have ba : Below V2.heap.size V2 (V2.alloc (.cells #[.bool false, .string ci, .string tf, .string ci, .int .i64 V, .int .i64 Wd, .string F, .string T, .int .i64 j] 25)) := (Below.refl _ _).alloc (Nat.le_refl _) _
  replace C0 := C0.keep ba (by omega)
  replace C1 := C1.keep ba (by omega)
  have C2 : Cells9 (V2.alloc (.cells #[.bool false, .string ci, .string tf, .string ci, .int .i64 V, .int .i64 Wd, .string F, .string T, .int .i64 j] 25)) V2.heap.size (.bool false) (.string ci) (.string tf) (.string ci) (.int .i64 V) (.int .i64 Wd) (.string F) (.string T) (.int .i64 j) := (nine_box V2 (.bool false) (.string ci) (.string tf) (.string ci) (.int .i64 V) (.int .i64 Wd) (.string F) (.string T) (.int .i64 j) 25).2.1
  have z2 : V2.heap.size + 1 ≤ (V2.alloc (.cells #[.bool false, .string ci, .string tf, .string ci, .int .i64 V, .int .i64 Wd, .string F, .string T, .int .i64 j] 25)).heap.size := by simp
  replace z0 : w.heap.size + 1 ≤ (V2.alloc (.cells #[.bool false, .string ci, .string tf, .string ci, .int .i64 V, .int .i64 Wd, .string F, .string T, .int .i64 j] 25)).heap.size := by have := ba.size; omega
  replace z1 : (w.heap.size + 1) + 1 ≤ (V2.alloc (.cells #[.bool false, .string ci, .string tf, .string ci, .int .i64 V, .int .i64 Wd, .string F, .string T, .int .i64 j] 25)).heap.size := by have := ba.size; omega
  replace HB := Lib.hid (HB.out.trans (ba.mono HB.out.size))
  clear ba
  have K0 := Lib.hid C0
  have K1 := Lib.hid C1
  have K2 := Lib.hid C2
  obtain ⟨o0_0, o0_1, o0_2⟩ := C0
  obtain ⟨o1_0, o1_1, o1_2⟩ := C1
  obtain ⟨o2_0, o2_1, o2_2, o2_3, o2_4, o2_5, o2_6, o2_7, o2_8⟩ := C2
  go_wp2_with fail
  clear o0_0 o0_1 o0_2
  have C0 := K0.out
  clear K0
  clear o1_0 o1_1 o1_2
  have C1 := K1.out
  clear K1
  clear o2_0 o2_1 o2_2 o2_3 o2_4 o2_5 o2_6 o2_7 o2_8
  have C2 := K2.out
  clear K2
  obtain ⟨V2x, hV2x⟩ : ∃ V2x, V2x = (V2.alloc (.cells #[.bool false, .string ci, .string tf, .string ci, .int .i64 V, .int .i64 Wd, .string F, .string T, .int .i64 j] 25)) := ⟨_, rfl⟩
  rw [← hV2x]
  rw [← hV2x] at HB C0 z0 C1 z1 C2 z2 
  clear hV2x
  (with_reducible refine (D2.out _).mono ?_)
  rintro e V3 ⟨rfl, hb⟩
  replace C0 := C0.keep hb (by omega)
  replace C1 := C1.keep hb (by omega)
  replace C2 := C2.keep hb (by omega)
  replace z0 : w.heap.size + 1 ≤ V3.heap.size := by have := hb.size; omega
  replace z1 : (w.heap.size + 1) + 1 ≤ V3.heap.size := by have := hb.size; omega
  replace z2 : V2.heap.size + 1 ≤ V3.heap.size := by have := hb.size; omega
  replace HB := Lib.hid (HB.out.trans (hb.mono HB.out.size))
  clear hb
  have ba : Below V3.heap.size V3 (V3.alloc (.cells #[.bool false, .string ci, .string tf, .string ci, .int .i64 V, .int .i64 Wd, .string F, .string T, .int .i64 j] 25)) := (Below.refl _ _).alloc (Nat.le_refl _) _
  replace C0 := C0.keep ba (by omega)
  replace C1 := C1.keep ba (by omega)
  replace C2 := C2.keep ba (by omega)
  have C3 : Cells9 (V3.alloc (.cells #[.bool false, .string ci, .string tf, .string ci, .int .i64 V, .int .i64 Wd, .string F, .string T, .int .i64 j] 25)) V3.heap.size (.bool false) (.string ci) (.string tf) (.string ci) (.int .i64 V) (.int .i64 Wd) (.string F) (.string T) (.int .i64 j) := (nine_box V3 (.bool false) (.string ci) (.string tf) (.string ci) (.int .i64 V) (.int .i64 Wd) (.string F) (.string T) (.int .i64 j) 25).2.1
  have z3 : V3.heap.size + 1 ≤ (V3.alloc (.cells #[.bool false, .string ci, .string tf, .string ci, .int .i64 V, .int .i64 Wd, .string F, .string T, .int .i64 j] 25)).heap.size := by simp
  replace z0 : w.heap.size + 1 ≤ (V3.alloc (.cells #[.bool false, .string ci, .string tf, .string ci, .int .i64 V, .int .i64 Wd, .string F, .string T, .int .i64 j] 25)).heap.size := by have := ba.size; omega
  replace z1 : (w.heap.size + 1) + 1 ≤ (V3.alloc (.cells #[.bool false, .string ci, .string tf, .string ci, .int .i64 V, .int .i64 Wd, .string F, .string T, .int .i64 j] 25)).heap.size := by have := ba.size; omega
  replace z2 : V2.heap.size + 1 ≤ (V3.alloc (.cells #[.bool false, .string ci, .string tf, .string ci, .int .i64 V, .int .i64 Wd, .string F, .string T, .int .i64 j] 25)).heap.size := by have := ba.size; omega
  replace HB := Lib.hid (HB.out.trans (ba.mono HB.out.size))
  clear ba
  have K0 := Lib.hid C0
  have K1 := Lib.hid C1
  have K2 := Lib.hid C2
  have K3 := Lib.hid C3
  obtain ⟨o0_0, o0_1, o0_2⟩ := C0
  obtain ⟨o1_0, o1_1, o1_2⟩ := C1
  obtain ⟨o2_0, o2_1, o2_2, o2_3, o2_4, o2_5, o2_6, o2_7, o2_8⟩ := C2
  obtain ⟨o3_0, o3_1, o3_2, o3_3, o3_4, o3_5, o3_6, o3_7, o3_8⟩ := C3
  go_wp2_with fail
  clear o0_0 o0_1 o0_2
  have C0 := K0.out
  clear K0
  clear o1_0 o1_1 o1_2
  have C1 := K1.out
  clear K1
  clear o2_0 o2_1 o2_2 o2_3 o2_4 o2_5 o2_6 o2_7 o2_8
  have C2 := K2.out
  clear K2
  clear o3_0 o3_1 o3_2 o3_3 o3_4 o3_5 o3_6 o3_7 o3_8
  have C3 := K3.out
  clear K3
  obtain ⟨V3x, hV3x⟩ : ∃ V3x, V3x = (V3.alloc (.cells #[.bool false, .string ci, .string tf, .string ci, .int .i64 V, .int .i64 Wd, .string F, .string T, .int .i64 j] 25)) := ⟨_, rfl⟩
  rw [← hV3x]
  rw [← hV3x] at HB C0 z0 C1 z1 C2 z2 C3 z3 
  clear hV3x
  (with_reducible refine (D3.out _).mono ?_)
  rintro e V4 ⟨rfl, hb⟩
  replace C0 := C0.keep hb (by omega)
  replace C1 := C1.keep hb (by omega)
  replace C2 := C2.keep hb (by omega)
  replace C3 := C3.keep hb (by omega)
  replace z0 : w.heap.size + 1 ≤ V4.heap.size := by have := hb.size; omega
  replace z1 : (w.heap.size + 1) + 1 ≤ V4.heap.size := by have := hb.size; omega
  replace z2 : V2.heap.size + 1 ≤ V4.heap.size := by have := hb.size; omega
  replace z3 : V3.heap.size + 1 ≤ V4.heap.size := by have := hb.size; omega
  replace HB := Lib.hid (HB.out.trans (hb.mono HB.out.size))
  clear hb
  have y0_4 := Lib.hid z0
  have y1_4 := Lib.hid z1
  have y2_4 := Lib.hid z2
  have y3_4 := Lib.hid z3
  have ba : Below V4.heap.size V4 (V4.alloc (.cells #[.bool cn, .string ci, .string cf] 23)) := (Below.refl _ _).alloc (Nat.le_refl _) _
  replace C0 := C0.keep ba (by omega)
  replace C1 := C1.keep ba (by omega)
  replace C2 := C2.keep ba (by omega)
  replace C3 := C3.keep ba (by omega)
  have F4 := Lib.hid (one_box V4 (.bool cn) (.string ci) (.string cf) 23).2.2
  have C4 : Cells3 (V4.alloc (.cells #[.bool cn, .string ci, .string cf] 23)) V4.heap.size (.bool cn) (.string ci) (.string cf) := (one_box V4 (.bool cn) (.string ci) (.string cf) 23).2.1
  have z4 : V4.heap.size + 1 ≤ (V4.alloc (.cells #[.bool cn, .string ci, .string cf] 23)).heap.size := by simp
  replace z0 : w.heap.size + 1 ≤ (V4.alloc (.cells #[.bool cn, .string ci, .string cf] 23)).heap.size := by have := ba.size; omega
  replace z1 : (w.heap.size + 1) + 1 ≤ (V4.alloc (.cells #[.bool cn, .string ci, .string cf] 23)).heap.size := by have := ba.size; omega
  replace z2 : V2.heap.size + 1 ≤ (V4.alloc (.cells #[.bool cn, .string ci, .string cf] 23)).heap.size := by have := ba.size; omega
  replace z3 : V3.heap.size + 1 ≤ (V4.alloc (.cells #[.bool cn, .string ci, .string cf] 23)).heap.size := by have := ba.size; omega
  replace HB := Lib.hid (HB.out.trans (ba.mono HB.out.size))
  clear ba
  have K0 := Lib.hid C0
  have K1 := Lib.hid C1
  have K2 := Lib.hid C2
  have K3 := Lib.hid C3
  have K4 := Lib.hid C4
  obtain ⟨o0_0, o0_1, o0_2⟩ := C0
  obtain ⟨o1_0, o1_1, o1_2⟩ := C1
  obtain ⟨o2_0, o2_1, o2_2, o2_3, o2_4, o2_5, o2_6, o2_7, o2_8⟩ := C2
  obtain ⟨o3_0, o3_1, o3_2, o3_3, o3_4, o3_5, o3_6, o3_7, o3_8⟩ := C3
  obtain ⟨o4_0, o4_1, o4_2⟩ := C4
  go_wp2_with fail
  clear o0_0 o0_1 o0_2
  have C0 := K0.out
  clear K0
  clear o1_0 o1_1 o1_2
  have C1 := K1.out
  clear K1
  clear o2_0 o2_1 o2_2 o2_3 o2_4 o2_5 o2_6 o2_7 o2_8
  have C2 := K2.out
  clear K2
  clear o3_0 o3_1 o3_2 o3_3 o3_4 o3_5 o3_6 o3_7 o3_8
  have C3 := K3.out
  clear K3
  clear o4_0 o4_1 o4_2
  have C4 := K4.out
  clear K4
  obtain ⟨V4x, hV4x⟩ : ∃ V4x, V4x = (V4.alloc (.cells #[.bool cn, .string ci, .string cf] 23)) := ⟨_, rfl⟩
  rw [← hV4x]
  rw [← hV4x] at HB C0 z0 C1 z1 C2 z2 C3 z3 C4 z4 F4
  clear hV4x
  (with_reducible refine (D4.out _).mono ?_)
  rintro e V5 ⟨rfl, hb⟩
  replace C0 := C0.keep hb (by omega)
  replace C1 := C1.keep hb (by omega)
  replace C2 := C2.keep hb (by omega)
  replace C3 := C3.keep hb (by omega)
  replace C4 := C4.keep hb (by omega)
  replace F4 := Lib.hid (frozen_keep F4.out hb (by omega))
  replace z0 : w.heap.size + 1 ≤ V5.heap.size := by have := hb.size; omega
  replace z1 : (w.heap.size + 1) + 1 ≤ V5.heap.size := by have := hb.size; omega
  replace z2 : V2.heap.size + 1 ≤ V5.heap.size := by have := hb.size; omega
  replace z3 : V3.heap.size + 1 ≤ V5.heap.size := by have := hb.size; omega
  replace z4 : V4.heap.size + 1 ≤ V5.heap.size := by have := hb.size; omega
  replace HB := Lib.hid (HB.out.trans (hb.mono HB.out.size))
  clear hb
  have y0_5 := Lib.hid z0
  have y1_5 := Lib.hid z1
  have y2_5 := Lib.hid z2
  have y3_5 := Lib.hid z3
  have y4_5 := Lib.hid z4
  have ba : Below V5.heap.size V5 (V5.alloc (.cells #[.bool dn, .string ci, .string cf] 23)) := (Below.refl _ _).alloc (Nat.le_refl _) _
  replace C0 := C0.keep ba (by omega)
  replace C1 := C1.keep ba (by omega)
  replace C2 := C2.keep ba (by omega)
  replace C3 := C3.keep ba (by omega)
  replace C4 := C4.keep ba (by omega)
  replace F4 := Lib.hid (frozen_keep F4.out ba (by omega))
  have C5 : Cells3 (V5.alloc (.cells #[.bool dn, .string ci, .string cf] 23)) V5.heap.size (.bool dn) (.string ci) (.string cf) := (one_box V5 (.bool dn) (.string ci) (.string cf) 23).2.1
  have z5 : V5.heap.size + 1 ≤ (V5.alloc (.cells #[.bool dn, .string ci, .string cf] 23)).heap.size := by simp
  replace z0 : w.heap.size + 1 ≤ (V5.alloc (.cells #[.bool dn, .string ci, .string cf] 23)).heap.size := by have := ba.size; omega
  replace z1 : (w.heap.size + 1) + 1 ≤ (V5.alloc (.cells #[.bool dn, .string ci, .string cf] 23)).heap.size := by have := ba.size; omega
  replace z2 : V2.heap.size + 1 ≤ (V5.alloc (.cells #[.bool dn, .string ci, .string cf] 23)).heap.size := by have := ba.size; omega
  replace z3 : V3.heap.size + 1 ≤ (V5.alloc (.cells #[.bool dn, .string ci, .string cf] 23)).heap.size := by have := ba.size; omega
  replace z4 : V4.heap.size + 1 ≤ (V5.alloc (.cells #[.bool dn, .string ci, .string cf] 23)).heap.size := by have := ba.size; omega
  replace HB := Lib.hid (HB.out.trans (ba.mono HB.out.size))
  clear ba
  have K0 := Lib.hid C0
  have K1 := Lib.hid C1
  have K2 := Lib.hid C2
  have K3 := Lib.hid C3
  have K4 := Lib.hid C4
  have K5 := Lib.hid C5
  obtain ⟨o0_0, o0_1, o0_2⟩ := C0
  obtain ⟨o1_0, o1_1, o1_2⟩ := C1
  obtain ⟨o2_0, o2_1, o2_2, o2_3, o2_4, o2_5, o2_6, o2_7, o2_8⟩ := C2
  obtain ⟨o3_0, o3_1, o3_2, o3_3, o3_4, o3_5, o3_6, o3_7, o3_8⟩ := C3
  obtain ⟨o4_0, o4_1, o4_2⟩ := C4
  obtain ⟨o5_0, o5_1, o5_2⟩ := C5
  have f4 := F4.out
  have y45 := y4_5.out
  have s5 : ((V5.alloc (.cells #[.bool dn, .string ci, .string cf] 23)).setCell ⟨V4.heap.size, 0, none⟩ (.bool false)).cell? ⟨V5.heap.size, 0, none⟩ = some (.bool dn) := (fars3 ⟨o5_0, o5_1, o5_2⟩ (by show V4.heap.size ≠ V5.heap.size; omega) _).1
  clear y45
  go_wp2_with fail
  clear s5
  obtain ⟨W6, hW6⟩ : ∃ W6, W6 = ((V5.alloc (.cells #[.bool dn, .string ci, .string cf] 23)).setCell ⟨V4.heap.size, 0, none⟩ (.bool false)).setCell ⟨V5.heap.size, 0, none⟩ (.bool false) := ⟨_, rfl⟩
  rw [← hW6]
  clear o0_0 o0_1 o0_2
  have C0 := K0.out
  clear K0
  clear o1_0 o1_1 o1_2
  have C1 := K1.out
  clear K1
  clear o2_0 o2_1 o2_2 o2_3 o2_4 o2_5 o2_6 o2_7 o2_8
  have C2 := K2.out
  clear K2
  clear o3_0 o3_1 o3_2 o3_3 o3_4 o3_5 o3_6 o3_7 o3_8
  have C3 := K3.out
  clear K3
  clear o4_0 o4_1 o4_2
  have C4 := K4.out
  clear K4
  clear o5_0 o5_1 o5_2
  have C5 := K5.out
  clear K5
  have y24 := y2_4.out
  have y34 := y3_4.out
  have y25 := y2_5.out
  have y35 := y3_5.out
  have y45 := y4_5.out
  have y04 := y0_4.out
  have y05 := y0_5.out
  have N2 : Cells9 W6 V2.heap.size (.bool false) (.string ci) (.string tf) (.string ci) (.int .i64 V) (.int .i64 Wd) (.string F) (.string T) (.int .i64 j) := by rw [hW6]; exact far9 (far9 C2 (by show V4.heap.size ≠ V2.heap.size; omega) _) (by show V5.heap.size ≠ V2.heap.size; omega) _
  have N3 : Cells9 W6 V3.heap.size (.bool false) (.string ci) (.string tf) (.string ci) (.int .i64 V) (.int .i64 Wd) (.string F) (.string T) (.int .i64 j) := by rw [hW6]; exact far9 (far9 C3 (by show V4.heap.size ≠ V3.heap.size; omega) _) (by show V5.heap.size ≠ V3.heap.size; omega) _
  have N4 : Cells3 W6 V4.heap.size (.bool false) (.string ci) (.string cf) := by rw [hW6]; exact fars3 (set_neg C4) (by show V5.heap.size ≠ V4.heap.size; omega) _
  have N5 : Cells3 W6 V5.heap.size (.bool false) (.string ci) (.string cf) := by rw [hW6]; exact set_neg (fars3 C5 (by show V4.heap.size ≠ V5.heap.size; omega) _)
  have HB6 : Hid (Below w.heap.size w W6) := by rw [hW6]; exact (HB.out.setCell (p := ⟨V4.heap.size, 0, none⟩) (by show w.heap.size ≤ V4.heap.size; omega) _).setCell (p := ⟨V5.heap.size, 0, none⟩) (by show w.heap.size ≤ V5.heap.size; omega) _
  clear y24 y34 y25 y35 y45 y04 y05 hW6 C0 C1 C2 C3 C4 C5 HB F4 f4 z0 z1 z2 z3 z4 z5
  obtain ⟨o0, o1, o2, o3, o4, o5, o6, o7, o8⟩ := N2
  obtain ⟨p0, p1, p2, p3, p4, p5, p6, p7, p8⟩ := N3
  obtain ⟨c0, c1, c2⟩ := N4
  obtain ⟨d0, d1, d2⟩ := N5
  go_quiet (fail)
  all_goals (go_wp2; go_ret; exact ⟨rfl, drewN_below HB6.out _⟩)

set_option maxHeartbeats 4000000 in
set_option maxRecDepth 100000 in
theorem lost_s2 (an bn : Bool) (ai af bi bf : ByteArray) (j : Int) (ci cf tf F T : ByteArray) (V Wd : Int) (cn dn : Bool) (k : Int)
    (H1 : ∀ wx : World, Calls Try.prog 13 #[.agg #[.bool an, .string ai, .string af], .int .i64 j] wx fun e w' => e = .returned (.tuple #[.agg #[.bool false, .string ci, .string tf, .string ci, .int .i64 V, .int .i64 Wd, .string F, .string T, .int .i64 j], .int .i64 0]) ∧ Below wx.heap.size wx w')
    (H2 : ∀ wx : World, Calls Try.prog 13 #[.agg #[.bool bn, .string bi, .string bf], .int .i64 k] wx fun e w' => e = .returned (.tuple #[.agg #[.bool false, .string ci, .string tf, .string ci, .int .i64 V, .int .i64 Wd, .string F, .string T, .int .i64 k], .int .i64 0]) ∧ Below wx.heap.size wx w')
    (H3 : ∀ wx : World, Calls Try.prog 18 #[.agg #[.bool an, .string ai, .string af], .int .i64 j] wx fun e w' => e = .returned (.tuple #[.agg #[.bool cn, .string ci, .string cf], .int .i64 0]) ∧ Below wx.heap.size wx w')
    (H4 : ∀ wx : World, Calls Try.prog 18 #[.agg #[.bool bn, .string bi, .string bf], .int .i64 k] wx fun e w' => e = .returned (.tuple #[.agg #[.bool dn, .string ci, .string cf], .int .i64 0]) ∧ Below wx.heap.size wx w') (w : World) (q0 : (j == k) = false)
    : Calls Try.prog 9 #[.agg #[.bool an, .string ai, .string af], .agg #[.bool bn, .string bi, .string bf], .int .i64 j, .int .i64 k] w fun e w' => e = .returned (.bool true) ∧ Below w.heap.size w w' := by
  have DW := Lib.hid oawake_any
  have D1 := Lib.hid H1
  have D2 := Lib.hid H2
  have D3 := Lib.hid H3
  have D4 := Lib.hid H4
  clear H1 H2 H3 H4
  go_enter Try.func9, Try.ntmps9
  go_wp2_with fail
  obtain ⟨W0, hW0⟩ : ∃ W0, W0 = ((w.alloc (.cells #[.bool an, .string ai, .string af] 23)).alloc (.cells #[.bool bn, .string bi, .string bf] 23)) := ⟨_, rfl⟩
  have hB0 : Below w.heap.size w w := Below.refl _ _
  have ha0 : Below w.heap.size w (w.alloc (.cells #[.bool an, .string ai, .string af] 23)) := (Below.refl _ _).alloc (Nat.le_refl _) _
  have hB1 := hB0.trans (ha0.mono hB0.size)
  have hs0 : (w.alloc (.cells #[.bool an, .string ai, .string af] 23)).heap.size = w.heap.size + 1 := by simp
  have C0 := (one_box w (.bool an) (.string ai) (.string af) 23).2.1
  have ha1 : Below (w.alloc (.cells #[.bool an, .string ai, .string af] 23)).heap.size (w.alloc (.cells #[.bool an, .string ai, .string af] 23)) ((w.alloc (.cells #[.bool an, .string ai, .string af] 23)).alloc (.cells #[.bool bn, .string bi, .string bf] 23)) := (Below.refl _ _).alloc (Nat.le_refl _) _
  have hB2 := hB1.trans (ha1.mono hB1.size)
  have hs1 : ((w.alloc (.cells #[.bool an, .string ai, .string af] 23)).alloc (.cells #[.bool bn, .string bi, .string bf] 23)).heap.size = w.heap.size + 2 := by rw [show ((w.alloc (.cells #[.bool an, .string ai, .string af] 23)).alloc (.cells #[.bool bn, .string bi, .string bf] 23)).heap.size = (w.alloc (.cells #[.bool an, .string ai, .string af] 23)).heap.size + 1 by simp, hs0]
  replace C0 := C0.keep ha1 (by rw [hs0]; omega)
  have C1 := (one_box (w.alloc (.cells #[.bool an, .string ai, .string af] 23)) (.bool bn) (.string bi) (.string bf) 23).2.1
  rw [hs0] at C1
  rw [← hW0] at hB2 hs1 C0 C1 ⊢
  have z0 : w.heap.size + 1 ≤ W0.heap.size := by omega
  have z1 : (w.heap.size + 1) + 1 ≤ W0.heap.size := by omega
  have HB := Lib.hid hB2
  clear hW0 hB0 ha0 hB1 ha1 hB2 hs0 hs1
  (with_reducible refine (DW.out _).mono ?_)
  rintro e V1 ⟨rfl, hb⟩
  replace C0 := C0.keep hb (by omega)
  replace C1 := C1.keep hb (by omega)
  replace z0 : w.heap.size + 1 ≤ V1.heap.size := by have := hb.size; omega
  replace z1 : (w.heap.size + 1) + 1 ≤ V1.heap.size := by have := hb.size; omega
  replace HB := Lib.hid (HB.out.trans (hb.mono HB.out.size))
  clear hb
  have K0 := Lib.hid C0
  have K1 := Lib.hid C1
  obtain ⟨o0_0, o0_1, o0_2⟩ := C0
  obtain ⟨o1_0, o1_1, o1_2⟩ := C1
  go_wp2_with fail
  clear o0_0 o0_1 o0_2
  have C0 := K0.out
  clear K0
  clear o1_0 o1_1 o1_2
  have C1 := K1.out
  clear K1
  (with_reducible refine (D1.out _).mono ?_)
  rintro e V2 ⟨rfl, hb⟩
  replace C0 := C0.keep hb (by omega)
  replace C1 := C1.keep hb (by omega)
  replace z0 : w.heap.size + 1 ≤ V2.heap.size := by have := hb.size; omega
  replace z1 : (w.heap.size + 1) + 1 ≤ V2.heap.size := by have := hb.size; omega
  replace HB := Lib.hid (HB.out.trans (hb.mono HB.out.size))
  clear hb
  have ba : Below V2.heap.size V2 (V2.alloc (.cells #[.bool false, .string ci, .string tf, .string ci, .int .i64 V, .int .i64 Wd, .string F, .string T, .int .i64 j] 25)) := (Below.refl _ _).alloc (Nat.le_refl _) _
  replace C0 := C0.keep ba (by omega)
  replace C1 := C1.keep ba (by omega)
  have C2 : Cells9 (V2.alloc (.cells #[.bool false, .string ci, .string tf, .string ci, .int .i64 V, .int .i64 Wd, .string F, .string T, .int .i64 j] 25)) V2.heap.size (.bool false) (.string ci) (.string tf) (.string ci) (.int .i64 V) (.int .i64 Wd) (.string F) (.string T) (.int .i64 j) := (nine_box V2 (.bool false) (.string ci) (.string tf) (.string ci) (.int .i64 V) (.int .i64 Wd) (.string F) (.string T) (.int .i64 j) 25).2.1
  have z2 : V2.heap.size + 1 ≤ (V2.alloc (.cells #[.bool false, .string ci, .string tf, .string ci, .int .i64 V, .int .i64 Wd, .string F, .string T, .int .i64 j] 25)).heap.size := by simp
  replace z0 : w.heap.size + 1 ≤ (V2.alloc (.cells #[.bool false, .string ci, .string tf, .string ci, .int .i64 V, .int .i64 Wd, .string F, .string T, .int .i64 j] 25)).heap.size := by have := ba.size; omega
  replace z1 : (w.heap.size + 1) + 1 ≤ (V2.alloc (.cells #[.bool false, .string ci, .string tf, .string ci, .int .i64 V, .int .i64 Wd, .string F, .string T, .int .i64 j] 25)).heap.size := by have := ba.size; omega
  replace HB := Lib.hid (HB.out.trans (ba.mono HB.out.size))
  clear ba
  have K0 := Lib.hid C0
  have K1 := Lib.hid C1
  have K2 := Lib.hid C2
  obtain ⟨o0_0, o0_1, o0_2⟩ := C0
  obtain ⟨o1_0, o1_1, o1_2⟩ := C1
  obtain ⟨o2_0, o2_1, o2_2, o2_3, o2_4, o2_5, o2_6, o2_7, o2_8⟩ := C2
  go_wp2_with fail
  clear o0_0 o0_1 o0_2
  have C0 := K0.out
  clear K0
  clear o1_0 o1_1 o1_2
  have C1 := K1.out
  clear K1
  clear o2_0 o2_1 o2_2 o2_3 o2_4 o2_5 o2_6 o2_7 o2_8
  have C2 := K2.out
  clear K2
  obtain ⟨V2x, hV2x⟩ : ∃ V2x, V2x = (V2.alloc (.cells #[.bool false, .string ci, .string tf, .string ci, .int .i64 V, .int .i64 Wd, .string F, .string T, .int .i64 j] 25)) := ⟨_, rfl⟩
  rw [← hV2x]
  rw [← hV2x] at HB C0 z0 C1 z1 C2 z2 
  clear hV2x
  (with_reducible refine (D2.out _).mono ?_)
  rintro e V3 ⟨rfl, hb⟩
  replace C0 := C0.keep hb (by omega)
  replace C1 := C1.keep hb (by omega)
  replace C2 := C2.keep hb (by omega)
  replace z0 : w.heap.size + 1 ≤ V3.heap.size := by have := hb.size; omega
  replace z1 : (w.heap.size + 1) + 1 ≤ V3.heap.size := by have := hb.size; omega
  replace z2 : V2.heap.size + 1 ≤ V3.heap.size := by have := hb.size; omega
  replace HB := Lib.hid (HB.out.trans (hb.mono HB.out.size))
  clear hb
  have ba : Below V3.heap.size V3 (V3.alloc (.cells #[.bool false, .string ci, .string tf, .string ci, .int .i64 V, .int .i64 Wd, .string F, .string T, .int .i64 k] 25)) := (Below.refl _ _).alloc (Nat.le_refl _) _
  replace C0 := C0.keep ba (by omega)
  replace C1 := C1.keep ba (by omega)
  replace C2 := C2.keep ba (by omega)
  have C3 : Cells9 (V3.alloc (.cells #[.bool false, .string ci, .string tf, .string ci, .int .i64 V, .int .i64 Wd, .string F, .string T, .int .i64 k] 25)) V3.heap.size (.bool false) (.string ci) (.string tf) (.string ci) (.int .i64 V) (.int .i64 Wd) (.string F) (.string T) (.int .i64 k) := (nine_box V3 (.bool false) (.string ci) (.string tf) (.string ci) (.int .i64 V) (.int .i64 Wd) (.string F) (.string T) (.int .i64 k) 25).2.1
  have z3 : V3.heap.size + 1 ≤ (V3.alloc (.cells #[.bool false, .string ci, .string tf, .string ci, .int .i64 V, .int .i64 Wd, .string F, .string T, .int .i64 k] 25)).heap.size := by simp
  replace z0 : w.heap.size + 1 ≤ (V3.alloc (.cells #[.bool false, .string ci, .string tf, .string ci, .int .i64 V, .int .i64 Wd, .string F, .string T, .int .i64 k] 25)).heap.size := by have := ba.size; omega
  replace z1 : (w.heap.size + 1) + 1 ≤ (V3.alloc (.cells #[.bool false, .string ci, .string tf, .string ci, .int .i64 V, .int .i64 Wd, .string F, .string T, .int .i64 k] 25)).heap.size := by have := ba.size; omega
  replace z2 : V2.heap.size + 1 ≤ (V3.alloc (.cells #[.bool false, .string ci, .string tf, .string ci, .int .i64 V, .int .i64 Wd, .string F, .string T, .int .i64 k] 25)).heap.size := by have := ba.size; omega
  replace HB := Lib.hid (HB.out.trans (ba.mono HB.out.size))
  clear ba
  have K0 := Lib.hid C0
  have K1 := Lib.hid C1
  have K2 := Lib.hid C2
  have K3 := Lib.hid C3
  obtain ⟨o0_0, o0_1, o0_2⟩ := C0
  obtain ⟨o1_0, o1_1, o1_2⟩ := C1
  obtain ⟨o2_0, o2_1, o2_2, o2_3, o2_4, o2_5, o2_6, o2_7, o2_8⟩ := C2
  obtain ⟨o3_0, o3_1, o3_2, o3_3, o3_4, o3_5, o3_6, o3_7, o3_8⟩ := C3
  go_wp2_with fail
  clear o0_0 o0_1 o0_2
  have C0 := K0.out
  clear K0
  clear o1_0 o1_1 o1_2
  have C1 := K1.out
  clear K1
  clear o2_0 o2_1 o2_2 o2_3 o2_4 o2_5 o2_6 o2_7 o2_8
  have C2 := K2.out
  clear K2
  clear o3_0 o3_1 o3_2 o3_3 o3_4 o3_5 o3_6 o3_7 o3_8
  have C3 := K3.out
  clear K3
  obtain ⟨V3x, hV3x⟩ : ∃ V3x, V3x = (V3.alloc (.cells #[.bool false, .string ci, .string tf, .string ci, .int .i64 V, .int .i64 Wd, .string F, .string T, .int .i64 k] 25)) := ⟨_, rfl⟩
  rw [← hV3x]
  rw [← hV3x] at HB C0 z0 C1 z1 C2 z2 C3 z3 
  clear hV3x
  (with_reducible refine (D3.out _).mono ?_)
  rintro e V4 ⟨rfl, hb⟩
  replace C0 := C0.keep hb (by omega)
  replace C1 := C1.keep hb (by omega)
  replace C2 := C2.keep hb (by omega)
  replace C3 := C3.keep hb (by omega)
  replace z0 : w.heap.size + 1 ≤ V4.heap.size := by have := hb.size; omega
  replace z1 : (w.heap.size + 1) + 1 ≤ V4.heap.size := by have := hb.size; omega
  replace z2 : V2.heap.size + 1 ≤ V4.heap.size := by have := hb.size; omega
  replace z3 : V3.heap.size + 1 ≤ V4.heap.size := by have := hb.size; omega
  replace HB := Lib.hid (HB.out.trans (hb.mono HB.out.size))
  clear hb
  have y0_4 := Lib.hid z0
  have y1_4 := Lib.hid z1
  have y2_4 := Lib.hid z2
  have y3_4 := Lib.hid z3
  have ba : Below V4.heap.size V4 (V4.alloc (.cells #[.bool cn, .string ci, .string cf] 23)) := (Below.refl _ _).alloc (Nat.le_refl _) _
  replace C0 := C0.keep ba (by omega)
  replace C1 := C1.keep ba (by omega)
  replace C2 := C2.keep ba (by omega)
  replace C3 := C3.keep ba (by omega)
  have F4 := Lib.hid (one_box V4 (.bool cn) (.string ci) (.string cf) 23).2.2
  have C4 : Cells3 (V4.alloc (.cells #[.bool cn, .string ci, .string cf] 23)) V4.heap.size (.bool cn) (.string ci) (.string cf) := (one_box V4 (.bool cn) (.string ci) (.string cf) 23).2.1
  have z4 : V4.heap.size + 1 ≤ (V4.alloc (.cells #[.bool cn, .string ci, .string cf] 23)).heap.size := by simp
  replace z0 : w.heap.size + 1 ≤ (V4.alloc (.cells #[.bool cn, .string ci, .string cf] 23)).heap.size := by have := ba.size; omega
  replace z1 : (w.heap.size + 1) + 1 ≤ (V4.alloc (.cells #[.bool cn, .string ci, .string cf] 23)).heap.size := by have := ba.size; omega
  replace z2 : V2.heap.size + 1 ≤ (V4.alloc (.cells #[.bool cn, .string ci, .string cf] 23)).heap.size := by have := ba.size; omega
  replace z3 : V3.heap.size + 1 ≤ (V4.alloc (.cells #[.bool cn, .string ci, .string cf] 23)).heap.size := by have := ba.size; omega
  replace HB := Lib.hid (HB.out.trans (ba.mono HB.out.size))
  clear ba
  have K0 := Lib.hid C0
  have K1 := Lib.hid C1
  have K2 := Lib.hid C2
  have K3 := Lib.hid C3
  have K4 := Lib.hid C4
  obtain ⟨o0_0, o0_1, o0_2⟩ := C0
  obtain ⟨o1_0, o1_1, o1_2⟩ := C1
  obtain ⟨o2_0, o2_1, o2_2, o2_3, o2_4, o2_5, o2_6, o2_7, o2_8⟩ := C2
  obtain ⟨o3_0, o3_1, o3_2, o3_3, o3_4, o3_5, o3_6, o3_7, o3_8⟩ := C3
  obtain ⟨o4_0, o4_1, o4_2⟩ := C4
  go_wp2_with fail
  clear o0_0 o0_1 o0_2
  have C0 := K0.out
  clear K0
  clear o1_0 o1_1 o1_2
  have C1 := K1.out
  clear K1
  clear o2_0 o2_1 o2_2 o2_3 o2_4 o2_5 o2_6 o2_7 o2_8
  have C2 := K2.out
  clear K2
  clear o3_0 o3_1 o3_2 o3_3 o3_4 o3_5 o3_6 o3_7 o3_8
  have C3 := K3.out
  clear K3
  clear o4_0 o4_1 o4_2
  have C4 := K4.out
  clear K4
  obtain ⟨V4x, hV4x⟩ : ∃ V4x, V4x = (V4.alloc (.cells #[.bool cn, .string ci, .string cf] 23)) := ⟨_, rfl⟩
  rw [← hV4x]
  rw [← hV4x] at HB C0 z0 C1 z1 C2 z2 C3 z3 C4 z4 F4
  clear hV4x
  (with_reducible refine (D4.out _).mono ?_)
  rintro e V5 ⟨rfl, hb⟩
  replace C0 := C0.keep hb (by omega)
  replace C1 := C1.keep hb (by omega)
  replace C2 := C2.keep hb (by omega)
  replace C3 := C3.keep hb (by omega)
  replace C4 := C4.keep hb (by omega)
  replace F4 := Lib.hid (frozen_keep F4.out hb (by omega))
  replace z0 : w.heap.size + 1 ≤ V5.heap.size := by have := hb.size; omega
  replace z1 : (w.heap.size + 1) + 1 ≤ V5.heap.size := by have := hb.size; omega
  replace z2 : V2.heap.size + 1 ≤ V5.heap.size := by have := hb.size; omega
  replace z3 : V3.heap.size + 1 ≤ V5.heap.size := by have := hb.size; omega
  replace z4 : V4.heap.size + 1 ≤ V5.heap.size := by have := hb.size; omega
  replace HB := Lib.hid (HB.out.trans (hb.mono HB.out.size))
  clear hb
  have y0_5 := Lib.hid z0
  have y1_5 := Lib.hid z1
  have y2_5 := Lib.hid z2
  have y3_5 := Lib.hid z3
  have y4_5 := Lib.hid z4
  have ba : Below V5.heap.size V5 (V5.alloc (.cells #[.bool dn, .string ci, .string cf] 23)) := (Below.refl _ _).alloc (Nat.le_refl _) _
  replace C0 := C0.keep ba (by omega)
  replace C1 := C1.keep ba (by omega)
  replace C2 := C2.keep ba (by omega)
  replace C3 := C3.keep ba (by omega)
  replace C4 := C4.keep ba (by omega)
  replace F4 := Lib.hid (frozen_keep F4.out ba (by omega))
  have C5 : Cells3 (V5.alloc (.cells #[.bool dn, .string ci, .string cf] 23)) V5.heap.size (.bool dn) (.string ci) (.string cf) := (one_box V5 (.bool dn) (.string ci) (.string cf) 23).2.1
  have z5 : V5.heap.size + 1 ≤ (V5.alloc (.cells #[.bool dn, .string ci, .string cf] 23)).heap.size := by simp
  replace z0 : w.heap.size + 1 ≤ (V5.alloc (.cells #[.bool dn, .string ci, .string cf] 23)).heap.size := by have := ba.size; omega
  replace z1 : (w.heap.size + 1) + 1 ≤ (V5.alloc (.cells #[.bool dn, .string ci, .string cf] 23)).heap.size := by have := ba.size; omega
  replace z2 : V2.heap.size + 1 ≤ (V5.alloc (.cells #[.bool dn, .string ci, .string cf] 23)).heap.size := by have := ba.size; omega
  replace z3 : V3.heap.size + 1 ≤ (V5.alloc (.cells #[.bool dn, .string ci, .string cf] 23)).heap.size := by have := ba.size; omega
  replace z4 : V4.heap.size + 1 ≤ (V5.alloc (.cells #[.bool dn, .string ci, .string cf] 23)).heap.size := by have := ba.size; omega
  replace HB := Lib.hid (HB.out.trans (ba.mono HB.out.size))
  clear ba
  have K0 := Lib.hid C0
  have K1 := Lib.hid C1
  have K2 := Lib.hid C2
  have K3 := Lib.hid C3
  have K4 := Lib.hid C4
  have K5 := Lib.hid C5
  obtain ⟨o0_0, o0_1, o0_2⟩ := C0
  obtain ⟨o1_0, o1_1, o1_2⟩ := C1
  obtain ⟨o2_0, o2_1, o2_2, o2_3, o2_4, o2_5, o2_6, o2_7, o2_8⟩ := C2
  obtain ⟨o3_0, o3_1, o3_2, o3_3, o3_4, o3_5, o3_6, o3_7, o3_8⟩ := C3
  obtain ⟨o4_0, o4_1, o4_2⟩ := C4
  obtain ⟨o5_0, o5_1, o5_2⟩ := C5
  have f4 := F4.out
  have y45 := y4_5.out
  have s5 : ((V5.alloc (.cells #[.bool dn, .string ci, .string cf] 23)).setCell ⟨V4.heap.size, 0, none⟩ (.bool false)).cell? ⟨V5.heap.size, 0, none⟩ = some (.bool dn) := (fars3 ⟨o5_0, o5_1, o5_2⟩ (by show V4.heap.size ≠ V5.heap.size; omega) _).1
  clear y45
  go_wp2_with fail
  clear s5
  obtain ⟨W6, hW6⟩ : ∃ W6, W6 = ((V5.alloc (.cells #[.bool dn, .string ci, .string cf] 23)).setCell ⟨V4.heap.size, 0, none⟩ (.bool false)).setCell ⟨V5.heap.size, 0, none⟩ (.bool false) := ⟨_, rfl⟩
  rw [← hW6]
  clear o0_0 o0_1 o0_2
  have C0 := K0.out
  clear K0
  clear o1_0 o1_1 o1_2
  have C1 := K1.out
  clear K1
  clear o2_0 o2_1 o2_2 o2_3 o2_4 o2_5 o2_6 o2_7 o2_8
  have C2 := K2.out
  clear K2
  clear o3_0 o3_1 o3_2 o3_3 o3_4 o3_5 o3_6 o3_7 o3_8
  have C3 := K3.out
  clear K3
  clear o4_0 o4_1 o4_2
  have C4 := K4.out
  clear K4
  clear o5_0 o5_1 o5_2
  have C5 := K5.out
  clear K5
  have y24 := y2_4.out
  have y34 := y3_4.out
  have y25 := y2_5.out
  have y35 := y3_5.out
  have y45 := y4_5.out
  have y04 := y0_4.out
  have y05 := y0_5.out
  have N2 : Cells9 W6 V2.heap.size (.bool false) (.string ci) (.string tf) (.string ci) (.int .i64 V) (.int .i64 Wd) (.string F) (.string T) (.int .i64 j) := by rw [hW6]; exact far9 (far9 C2 (by show V4.heap.size ≠ V2.heap.size; omega) _) (by show V5.heap.size ≠ V2.heap.size; omega) _
  have N3 : Cells9 W6 V3.heap.size (.bool false) (.string ci) (.string tf) (.string ci) (.int .i64 V) (.int .i64 Wd) (.string F) (.string T) (.int .i64 k) := by rw [hW6]; exact far9 (far9 C3 (by show V4.heap.size ≠ V3.heap.size; omega) _) (by show V5.heap.size ≠ V3.heap.size; omega) _
  have N4 : Cells3 W6 V4.heap.size (.bool false) (.string ci) (.string cf) := by rw [hW6]; exact fars3 (set_neg C4) (by show V5.heap.size ≠ V4.heap.size; omega) _
  have N5 : Cells3 W6 V5.heap.size (.bool false) (.string ci) (.string cf) := by rw [hW6]; exact set_neg (fars3 C5 (by show V4.heap.size ≠ V5.heap.size; omega) _)
  have HB6 : Hid (Below w.heap.size w W6) := by rw [hW6]; exact (HB.out.setCell (p := ⟨V4.heap.size, 0, none⟩) (by show w.heap.size ≤ V4.heap.size; omega) _).setCell (p := ⟨V5.heap.size, 0, none⟩) (by show w.heap.size ≤ V5.heap.size; omega) _
  clear y24 y34 y25 y35 y45 y04 y05 hW6 C0 C1 C2 C3 C4 C5 HB F4 f4 z0 z1 z2 z3 z4 z5
  obtain ⟨o0, o1, o2, o3, o4, o5, o6, o7, o8⟩ := N2
  obtain ⟨p0, p1, p2, p3, p4, p5, p6, p7, p8⟩ := N3
  obtain ⟨c0, c1, c2⟩ := N4
  obtain ⟨d0, d1, d2⟩ := N5
  go_quiet (fail)
  all_goals (go_wp2; go_ret; exact ⟨rfl, drewN_below HB6.out _⟩)

set_option maxHeartbeats 4000000 in
set_option maxRecDepth 100000 in
theorem lost_n1 (an bn : Bool) (ai af bi bf : ByteArray) (j : Int) (ci cf tf F T di df uf G U : ByteArray) (V Wd Y Yd : Int) (cn dn : Bool) (k : Int)
    (H1 : ∀ wx : World, Calls Try.prog 13 #[.agg #[.bool an, .string ai, .string af], .int .i64 j] wx fun e w' => e = .returned (.tuple #[.agg #[.bool false, .string ci, .string tf, .string ci, .int .i64 V, .int .i64 Wd, .string F, .string T, .int .i64 j], .int .i64 0]) ∧ Below wx.heap.size wx w')
    (H2 : ∀ wx : World, Calls Try.prog 13 #[.agg #[.bool bn, .string bi, .string bf], .int .i64 k] wx fun e w' => e = .returned (.tuple #[.agg #[.bool false, .string di, .string uf, .string di, .int .i64 Y, .int .i64 Yd, .string G, .string U, .int .i64 k], .int .i64 0]) ∧ Below wx.heap.size wx w')
    (H3 : ∀ wx : World, Calls Try.prog 18 #[.agg #[.bool an, .string ai, .string af], .int .i64 j] wx fun e w' => e = .returned (.tuple #[.agg #[.bool cn, .string ci, .string cf], .int .i64 0]) ∧ Below wx.heap.size wx w')
    (H4 : ∀ wx : World, Calls Try.prog 18 #[.agg #[.bool bn, .string bi, .string bf], .int .i64 k] wx fun e w' => e = .returned (.tuple #[.agg #[.bool dn, .string di, .string df], .int .i64 0]) ∧ Below wx.heap.size wx w') (w : World) (q0 : (ci.toList == di.toList) = false)
    : Calls Try.prog 9 #[.agg #[.bool an, .string ai, .string af], .agg #[.bool bn, .string bi, .string bf], .int .i64 j, .int .i64 k] w fun e w' => e = .returned (.bool true) ∧ Below w.heap.size w w' := by
  have DW := Lib.hid oawake_any
  have D1 := Lib.hid H1
  have D2 := Lib.hid H2
  have D3 := Lib.hid H3
  have D4 := Lib.hid H4
  clear H1 H2 H3 H4
  go_enter Try.func9, Try.ntmps9
  go_wp2_with fail
  obtain ⟨W0, hW0⟩ : ∃ W0, W0 = ((w.alloc (.cells #[.bool an, .string ai, .string af] 23)).alloc (.cells #[.bool bn, .string bi, .string bf] 23)) := ⟨_, rfl⟩
  have hB0 : Below w.heap.size w w := Below.refl _ _
  have ha0 : Below w.heap.size w (w.alloc (.cells #[.bool an, .string ai, .string af] 23)) := (Below.refl _ _).alloc (Nat.le_refl _) _
  have hB1 := hB0.trans (ha0.mono hB0.size)
  have hs0 : (w.alloc (.cells #[.bool an, .string ai, .string af] 23)).heap.size = w.heap.size + 1 := by simp
  have C0 := (one_box w (.bool an) (.string ai) (.string af) 23).2.1
  have ha1 : Below (w.alloc (.cells #[.bool an, .string ai, .string af] 23)).heap.size (w.alloc (.cells #[.bool an, .string ai, .string af] 23)) ((w.alloc (.cells #[.bool an, .string ai, .string af] 23)).alloc (.cells #[.bool bn, .string bi, .string bf] 23)) := (Below.refl _ _).alloc (Nat.le_refl _) _
  have hB2 := hB1.trans (ha1.mono hB1.size)
  have hs1 : ((w.alloc (.cells #[.bool an, .string ai, .string af] 23)).alloc (.cells #[.bool bn, .string bi, .string bf] 23)).heap.size = w.heap.size + 2 := by rw [show ((w.alloc (.cells #[.bool an, .string ai, .string af] 23)).alloc (.cells #[.bool bn, .string bi, .string bf] 23)).heap.size = (w.alloc (.cells #[.bool an, .string ai, .string af] 23)).heap.size + 1 by simp, hs0]
  replace C0 := C0.keep ha1 (by rw [hs0]; omega)
  have C1 := (one_box (w.alloc (.cells #[.bool an, .string ai, .string af] 23)) (.bool bn) (.string bi) (.string bf) 23).2.1
  rw [hs0] at C1
  rw [← hW0] at hB2 hs1 C0 C1 ⊢
  have z0 : w.heap.size + 1 ≤ W0.heap.size := by omega
  have z1 : (w.heap.size + 1) + 1 ≤ W0.heap.size := by omega
  have HB := Lib.hid hB2
  clear hW0 hB0 ha0 hB1 ha1 hB2 hs0 hs1
  (with_reducible refine (DW.out _).mono ?_)
  rintro e V1 ⟨rfl, hb⟩
  replace C0 := C0.keep hb (by omega)
  replace C1 := C1.keep hb (by omega)
  replace z0 : w.heap.size + 1 ≤ V1.heap.size := by have := hb.size; omega
  replace z1 : (w.heap.size + 1) + 1 ≤ V1.heap.size := by have := hb.size; omega
  replace HB := Lib.hid (HB.out.trans (hb.mono HB.out.size))
  clear hb
  have K0 := Lib.hid C0
  have K1 := Lib.hid C1
  obtain ⟨o0_0, o0_1, o0_2⟩ := C0
  obtain ⟨o1_0, o1_1, o1_2⟩ := C1
  go_wp2_with fail
  clear o0_0 o0_1 o0_2
  have C0 := K0.out
  clear K0
  clear o1_0 o1_1 o1_2
  have C1 := K1.out
  clear K1
  (with_reducible refine (D1.out _).mono ?_)
  rintro e V2 ⟨rfl, hb⟩
  replace C0 := C0.keep hb (by omega)
  replace C1 := C1.keep hb (by omega)
  replace z0 : w.heap.size + 1 ≤ V2.heap.size := by have := hb.size; omega
  replace z1 : (w.heap.size + 1) + 1 ≤ V2.heap.size := by have := hb.size; omega
  replace HB := Lib.hid (HB.out.trans (hb.mono HB.out.size))
  clear hb
  have ba : Below V2.heap.size V2 (V2.alloc (.cells #[.bool false, .string ci, .string tf, .string ci, .int .i64 V, .int .i64 Wd, .string F, .string T, .int .i64 j] 25)) := (Below.refl _ _).alloc (Nat.le_refl _) _
  replace C0 := C0.keep ba (by omega)
  replace C1 := C1.keep ba (by omega)
  have C2 : Cells9 (V2.alloc (.cells #[.bool false, .string ci, .string tf, .string ci, .int .i64 V, .int .i64 Wd, .string F, .string T, .int .i64 j] 25)) V2.heap.size (.bool false) (.string ci) (.string tf) (.string ci) (.int .i64 V) (.int .i64 Wd) (.string F) (.string T) (.int .i64 j) := (nine_box V2 (.bool false) (.string ci) (.string tf) (.string ci) (.int .i64 V) (.int .i64 Wd) (.string F) (.string T) (.int .i64 j) 25).2.1
  have z2 : V2.heap.size + 1 ≤ (V2.alloc (.cells #[.bool false, .string ci, .string tf, .string ci, .int .i64 V, .int .i64 Wd, .string F, .string T, .int .i64 j] 25)).heap.size := by simp
  replace z0 : w.heap.size + 1 ≤ (V2.alloc (.cells #[.bool false, .string ci, .string tf, .string ci, .int .i64 V, .int .i64 Wd, .string F, .string T, .int .i64 j] 25)).heap.size := by have := ba.size; omega
  replace z1 : (w.heap.size + 1) + 1 ≤ (V2.alloc (.cells #[.bool false, .string ci, .string tf, .string ci, .int .i64 V, .int .i64 Wd, .string F, .string T, .int .i64 j] 25)).heap.size := by have := ba.size; omega
  replace HB := Lib.hid (HB.out.trans (ba.mono HB.out.size))
  clear ba
  have K0 := Lib.hid C0
  have K1 := Lib.hid C1
  have K2 := Lib.hid C2
  obtain ⟨o0_0, o0_1, o0_2⟩ := C0
  obtain ⟨o1_0, o1_1, o1_2⟩ := C1
  obtain ⟨o2_0, o2_1, o2_2, o2_3, o2_4, o2_5, o2_6, o2_7, o2_8⟩ := C2
  go_wp2_with fail
  clear o0_0 o0_1 o0_2
  have C0 := K0.out
  clear K0
  clear o1_0 o1_1 o1_2
  have C1 := K1.out
  clear K1
  clear o2_0 o2_1 o2_2 o2_3 o2_4 o2_5 o2_6 o2_7 o2_8
  have C2 := K2.out
  clear K2
  obtain ⟨V2x, hV2x⟩ : ∃ V2x, V2x = (V2.alloc (.cells #[.bool false, .string ci, .string tf, .string ci, .int .i64 V, .int .i64 Wd, .string F, .string T, .int .i64 j] 25)) := ⟨_, rfl⟩
  rw [← hV2x]
  rw [← hV2x] at HB C0 z0 C1 z1 C2 z2 
  clear hV2x
  (with_reducible refine (D2.out _).mono ?_)
  rintro e V3 ⟨rfl, hb⟩
  replace C0 := C0.keep hb (by omega)
  replace C1 := C1.keep hb (by omega)
  replace C2 := C2.keep hb (by omega)
  replace z0 : w.heap.size + 1 ≤ V3.heap.size := by have := hb.size; omega
  replace z1 : (w.heap.size + 1) + 1 ≤ V3.heap.size := by have := hb.size; omega
  replace z2 : V2.heap.size + 1 ≤ V3.heap.size := by have := hb.size; omega
  replace HB := Lib.hid (HB.out.trans (hb.mono HB.out.size))
  clear hb
  have ba : Below V3.heap.size V3 (V3.alloc (.cells #[.bool false, .string di, .string uf, .string di, .int .i64 Y, .int .i64 Yd, .string G, .string U, .int .i64 k] 25)) := (Below.refl _ _).alloc (Nat.le_refl _) _
  replace C0 := C0.keep ba (by omega)
  replace C1 := C1.keep ba (by omega)
  replace C2 := C2.keep ba (by omega)
  have C3 : Cells9 (V3.alloc (.cells #[.bool false, .string di, .string uf, .string di, .int .i64 Y, .int .i64 Yd, .string G, .string U, .int .i64 k] 25)) V3.heap.size (.bool false) (.string di) (.string uf) (.string di) (.int .i64 Y) (.int .i64 Yd) (.string G) (.string U) (.int .i64 k) := (nine_box V3 (.bool false) (.string di) (.string uf) (.string di) (.int .i64 Y) (.int .i64 Yd) (.string G) (.string U) (.int .i64 k) 25).2.1
  have z3 : V3.heap.size + 1 ≤ (V3.alloc (.cells #[.bool false, .string di, .string uf, .string di, .int .i64 Y, .int .i64 Yd, .string G, .string U, .int .i64 k] 25)).heap.size := by simp
  replace z0 : w.heap.size + 1 ≤ (V3.alloc (.cells #[.bool false, .string di, .string uf, .string di, .int .i64 Y, .int .i64 Yd, .string G, .string U, .int .i64 k] 25)).heap.size := by have := ba.size; omega
  replace z1 : (w.heap.size + 1) + 1 ≤ (V3.alloc (.cells #[.bool false, .string di, .string uf, .string di, .int .i64 Y, .int .i64 Yd, .string G, .string U, .int .i64 k] 25)).heap.size := by have := ba.size; omega
  replace z2 : V2.heap.size + 1 ≤ (V3.alloc (.cells #[.bool false, .string di, .string uf, .string di, .int .i64 Y, .int .i64 Yd, .string G, .string U, .int .i64 k] 25)).heap.size := by have := ba.size; omega
  replace HB := Lib.hid (HB.out.trans (ba.mono HB.out.size))
  clear ba
  have K0 := Lib.hid C0
  have K1 := Lib.hid C1
  have K2 := Lib.hid C2
  have K3 := Lib.hid C3
  obtain ⟨o0_0, o0_1, o0_2⟩ := C0
  obtain ⟨o1_0, o1_1, o1_2⟩ := C1
  obtain ⟨o2_0, o2_1, o2_2, o2_3, o2_4, o2_5, o2_6, o2_7, o2_8⟩ := C2
  obtain ⟨o3_0, o3_1, o3_2, o3_3, o3_4, o3_5, o3_6, o3_7, o3_8⟩ := C3
  go_wp2_with fail
  clear o0_0 o0_1 o0_2
  have C0 := K0.out
  clear K0
  clear o1_0 o1_1 o1_2
  have C1 := K1.out
  clear K1
  clear o2_0 o2_1 o2_2 o2_3 o2_4 o2_5 o2_6 o2_7 o2_8
  have C2 := K2.out
  clear K2
  clear o3_0 o3_1 o3_2 o3_3 o3_4 o3_5 o3_6 o3_7 o3_8
  have C3 := K3.out
  clear K3
  obtain ⟨V3x, hV3x⟩ : ∃ V3x, V3x = (V3.alloc (.cells #[.bool false, .string di, .string uf, .string di, .int .i64 Y, .int .i64 Yd, .string G, .string U, .int .i64 k] 25)) := ⟨_, rfl⟩
  rw [← hV3x]
  rw [← hV3x] at HB C0 z0 C1 z1 C2 z2 C3 z3 
  clear hV3x
  (with_reducible refine (D3.out _).mono ?_)
  rintro e V4 ⟨rfl, hb⟩
  replace C0 := C0.keep hb (by omega)
  replace C1 := C1.keep hb (by omega)
  replace C2 := C2.keep hb (by omega)
  replace C3 := C3.keep hb (by omega)
  replace z0 : w.heap.size + 1 ≤ V4.heap.size := by have := hb.size; omega
  replace z1 : (w.heap.size + 1) + 1 ≤ V4.heap.size := by have := hb.size; omega
  replace z2 : V2.heap.size + 1 ≤ V4.heap.size := by have := hb.size; omega
  replace z3 : V3.heap.size + 1 ≤ V4.heap.size := by have := hb.size; omega
  replace HB := Lib.hid (HB.out.trans (hb.mono HB.out.size))
  clear hb
  have y0_4 := Lib.hid z0
  have y1_4 := Lib.hid z1
  have y2_4 := Lib.hid z2
  have y3_4 := Lib.hid z3
  have ba : Below V4.heap.size V4 (V4.alloc (.cells #[.bool cn, .string ci, .string cf] 23)) := (Below.refl _ _).alloc (Nat.le_refl _) _
  replace C0 := C0.keep ba (by omega)
  replace C1 := C1.keep ba (by omega)
  replace C2 := C2.keep ba (by omega)
  replace C3 := C3.keep ba (by omega)
  have F4 := Lib.hid (one_box V4 (.bool cn) (.string ci) (.string cf) 23).2.2
  have C4 : Cells3 (V4.alloc (.cells #[.bool cn, .string ci, .string cf] 23)) V4.heap.size (.bool cn) (.string ci) (.string cf) := (one_box V4 (.bool cn) (.string ci) (.string cf) 23).2.1
  have z4 : V4.heap.size + 1 ≤ (V4.alloc (.cells #[.bool cn, .string ci, .string cf] 23)).heap.size := by simp
  replace z0 : w.heap.size + 1 ≤ (V4.alloc (.cells #[.bool cn, .string ci, .string cf] 23)).heap.size := by have := ba.size; omega
  replace z1 : (w.heap.size + 1) + 1 ≤ (V4.alloc (.cells #[.bool cn, .string ci, .string cf] 23)).heap.size := by have := ba.size; omega
  replace z2 : V2.heap.size + 1 ≤ (V4.alloc (.cells #[.bool cn, .string ci, .string cf] 23)).heap.size := by have := ba.size; omega
  replace z3 : V3.heap.size + 1 ≤ (V4.alloc (.cells #[.bool cn, .string ci, .string cf] 23)).heap.size := by have := ba.size; omega
  replace HB := Lib.hid (HB.out.trans (ba.mono HB.out.size))
  clear ba
  have K0 := Lib.hid C0
  have K1 := Lib.hid C1
  have K2 := Lib.hid C2
  have K3 := Lib.hid C3
  have K4 := Lib.hid C4
  obtain ⟨o0_0, o0_1, o0_2⟩ := C0
  obtain ⟨o1_0, o1_1, o1_2⟩ := C1
  obtain ⟨o2_0, o2_1, o2_2, o2_3, o2_4, o2_5, o2_6, o2_7, o2_8⟩ := C2
  obtain ⟨o3_0, o3_1, o3_2, o3_3, o3_4, o3_5, o3_6, o3_7, o3_8⟩ := C3
  obtain ⟨o4_0, o4_1, o4_2⟩ := C4
  go_wp2_with fail
  clear o0_0 o0_1 o0_2
  have C0 := K0.out
  clear K0
  clear o1_0 o1_1 o1_2
  have C1 := K1.out
  clear K1
  clear o2_0 o2_1 o2_2 o2_3 o2_4 o2_5 o2_6 o2_7 o2_8
  have C2 := K2.out
  clear K2
  clear o3_0 o3_1 o3_2 o3_3 o3_4 o3_5 o3_6 o3_7 o3_8
  have C3 := K3.out
  clear K3
  clear o4_0 o4_1 o4_2
  have C4 := K4.out
  clear K4
  obtain ⟨V4x, hV4x⟩ : ∃ V4x, V4x = (V4.alloc (.cells #[.bool cn, .string ci, .string cf] 23)) := ⟨_, rfl⟩
  rw [← hV4x]
  rw [← hV4x] at HB C0 z0 C1 z1 C2 z2 C3 z3 C4 z4 F4
  clear hV4x
  (with_reducible refine (D4.out _).mono ?_)
  rintro e V5 ⟨rfl, hb⟩
  replace C0 := C0.keep hb (by omega)
  replace C1 := C1.keep hb (by omega)
  replace C2 := C2.keep hb (by omega)
  replace C3 := C3.keep hb (by omega)
  replace C4 := C4.keep hb (by omega)
  replace F4 := Lib.hid (frozen_keep F4.out hb (by omega))
  replace z0 : w.heap.size + 1 ≤ V5.heap.size := by have := hb.size; omega
  replace z1 : (w.heap.size + 1) + 1 ≤ V5.heap.size := by have := hb.size; omega
  replace z2 : V2.heap.size + 1 ≤ V5.heap.size := by have := hb.size; omega
  replace z3 : V3.heap.size + 1 ≤ V5.heap.size := by have := hb.size; omega
  replace z4 : V4.heap.size + 1 ≤ V5.heap.size := by have := hb.size; omega
  replace HB := Lib.hid (HB.out.trans (hb.mono HB.out.size))
  clear hb
  have y0_5 := Lib.hid z0
  have y1_5 := Lib.hid z1
  have y2_5 := Lib.hid z2
  have y3_5 := Lib.hid z3
  have y4_5 := Lib.hid z4
  have ba : Below V5.heap.size V5 (V5.alloc (.cells #[.bool dn, .string di, .string df] 23)) := (Below.refl _ _).alloc (Nat.le_refl _) _
  replace C0 := C0.keep ba (by omega)
  replace C1 := C1.keep ba (by omega)
  replace C2 := C2.keep ba (by omega)
  replace C3 := C3.keep ba (by omega)
  replace C4 := C4.keep ba (by omega)
  replace F4 := Lib.hid (frozen_keep F4.out ba (by omega))
  have C5 : Cells3 (V5.alloc (.cells #[.bool dn, .string di, .string df] 23)) V5.heap.size (.bool dn) (.string di) (.string df) := (one_box V5 (.bool dn) (.string di) (.string df) 23).2.1
  have z5 : V5.heap.size + 1 ≤ (V5.alloc (.cells #[.bool dn, .string di, .string df] 23)).heap.size := by simp
  replace z0 : w.heap.size + 1 ≤ (V5.alloc (.cells #[.bool dn, .string di, .string df] 23)).heap.size := by have := ba.size; omega
  replace z1 : (w.heap.size + 1) + 1 ≤ (V5.alloc (.cells #[.bool dn, .string di, .string df] 23)).heap.size := by have := ba.size; omega
  replace z2 : V2.heap.size + 1 ≤ (V5.alloc (.cells #[.bool dn, .string di, .string df] 23)).heap.size := by have := ba.size; omega
  replace z3 : V3.heap.size + 1 ≤ (V5.alloc (.cells #[.bool dn, .string di, .string df] 23)).heap.size := by have := ba.size; omega
  replace z4 : V4.heap.size + 1 ≤ (V5.alloc (.cells #[.bool dn, .string di, .string df] 23)).heap.size := by have := ba.size; omega
  replace HB := Lib.hid (HB.out.trans (ba.mono HB.out.size))
  clear ba
  have K0 := Lib.hid C0
  have K1 := Lib.hid C1
  have K2 := Lib.hid C2
  have K3 := Lib.hid C3
  have K4 := Lib.hid C4
  have K5 := Lib.hid C5
  obtain ⟨o0_0, o0_1, o0_2⟩ := C0
  obtain ⟨o1_0, o1_1, o1_2⟩ := C1
  obtain ⟨o2_0, o2_1, o2_2, o2_3, o2_4, o2_5, o2_6, o2_7, o2_8⟩ := C2
  obtain ⟨o3_0, o3_1, o3_2, o3_3, o3_4, o3_5, o3_6, o3_7, o3_8⟩ := C3
  obtain ⟨o4_0, o4_1, o4_2⟩ := C4
  obtain ⟨o5_0, o5_1, o5_2⟩ := C5
  have f4 := F4.out
  have y45 := y4_5.out
  have s5 : ((V5.alloc (.cells #[.bool dn, .string di, .string df] 23)).setCell ⟨V4.heap.size, 0, none⟩ (.bool false)).cell? ⟨V5.heap.size, 0, none⟩ = some (.bool dn) := (fars3 ⟨o5_0, o5_1, o5_2⟩ (by show V4.heap.size ≠ V5.heap.size; omega) _).1
  clear y45
  go_wp2_with fail
  clear s5
  obtain ⟨W6, hW6⟩ : ∃ W6, W6 = ((V5.alloc (.cells #[.bool dn, .string di, .string df] 23)).setCell ⟨V4.heap.size, 0, none⟩ (.bool false)).setCell ⟨V5.heap.size, 0, none⟩ (.bool false) := ⟨_, rfl⟩
  rw [← hW6]
  clear o0_0 o0_1 o0_2
  have C0 := K0.out
  clear K0
  clear o1_0 o1_1 o1_2
  have C1 := K1.out
  clear K1
  clear o2_0 o2_1 o2_2 o2_3 o2_4 o2_5 o2_6 o2_7 o2_8
  have C2 := K2.out
  clear K2
  clear o3_0 o3_1 o3_2 o3_3 o3_4 o3_5 o3_6 o3_7 o3_8
  have C3 := K3.out
  clear K3
  clear o4_0 o4_1 o4_2
  have C4 := K4.out
  clear K4
  clear o5_0 o5_1 o5_2
  have C5 := K5.out
  clear K5
  have y24 := y2_4.out
  have y34 := y3_4.out
  have y25 := y2_5.out
  have y35 := y3_5.out
  have y45 := y4_5.out
  have y04 := y0_4.out
  have y05 := y0_5.out
  have N2 : Cells9 W6 V2.heap.size (.bool false) (.string ci) (.string tf) (.string ci) (.int .i64 V) (.int .i64 Wd) (.string F) (.string T) (.int .i64 j) := by rw [hW6]; exact far9 (far9 C2 (by show V4.heap.size ≠ V2.heap.size; omega) _) (by show V5.heap.size ≠ V2.heap.size; omega) _
  have N3 : Cells9 W6 V3.heap.size (.bool false) (.string di) (.string uf) (.string di) (.int .i64 Y) (.int .i64 Yd) (.string G) (.string U) (.int .i64 k) := by rw [hW6]; exact far9 (far9 C3 (by show V4.heap.size ≠ V3.heap.size; omega) _) (by show V5.heap.size ≠ V3.heap.size; omega) _
  have N4 : Cells3 W6 V4.heap.size (.bool false) (.string ci) (.string cf) := by rw [hW6]; exact fars3 (set_neg C4) (by show V5.heap.size ≠ V4.heap.size; omega) _
  have N5 : Cells3 W6 V5.heap.size (.bool false) (.string di) (.string df) := by rw [hW6]; exact set_neg (fars3 C5 (by show V4.heap.size ≠ V5.heap.size; omega) _)
  have HB6 : Hid (Below w.heap.size w W6) := by rw [hW6]; exact (HB.out.setCell (p := ⟨V4.heap.size, 0, none⟩) (by show w.heap.size ≤ V4.heap.size; omega) _).setCell (p := ⟨V5.heap.size, 0, none⟩) (by show w.heap.size ≤ V5.heap.size; omega) _
  clear y24 y34 y25 y35 y45 y04 y05 hW6 C0 C1 C2 C3 C4 C5 HB F4 f4 z0 z1 z2 z3 z4 z5
  obtain ⟨o0, o1, o2, o3, o4, o5, o6, o7, o8⟩ := N2
  obtain ⟨p0, p1, p2, p3, p4, p5, p6, p7, p8⟩ := N3
  obtain ⟨c0, c1, c2⟩ := N4
  obtain ⟨d0, d1, d2⟩ := N5
  go_quiet (fail)
  all_goals (go_wp2; go_ret; exact ⟨rfl, drewN_below HB6.out _⟩)

set_option maxHeartbeats 4000000 in
set_option maxRecDepth 100000 in
theorem lost_n2 (an bn : Bool) (ai af bi bf : ByteArray) (j : Int) (ci cf tf F T df uf G U : ByteArray) (V Wd Y Yd : Int) (cn dn : Bool) (k : Int)
    (H1 : ∀ wx : World, Calls Try.prog 13 #[.agg #[.bool an, .string ai, .string af], .int .i64 j] wx fun e w' => e = .returned (.tuple #[.agg #[.bool false, .string ci, .string tf, .string ci, .int .i64 V, .int .i64 Wd, .string F, .string T, .int .i64 j], .int .i64 0]) ∧ Below wx.heap.size wx w')
    (H2 : ∀ wx : World, Calls Try.prog 13 #[.agg #[.bool bn, .string bi, .string bf], .int .i64 k] wx fun e w' => e = .returned (.tuple #[.agg #[.bool false, .string ci, .string uf, .string ci, .int .i64 Y, .int .i64 Yd, .string G, .string U, .int .i64 k], .int .i64 0]) ∧ Below wx.heap.size wx w')
    (H3 : ∀ wx : World, Calls Try.prog 18 #[.agg #[.bool an, .string ai, .string af], .int .i64 j] wx fun e w' => e = .returned (.tuple #[.agg #[.bool cn, .string ci, .string cf], .int .i64 0]) ∧ Below wx.heap.size wx w')
    (H4 : ∀ wx : World, Calls Try.prog 18 #[.agg #[.bool bn, .string bi, .string bf], .int .i64 k] wx fun e w' => e = .returned (.tuple #[.agg #[.bool dn, .string ci, .string df], .int .i64 0]) ∧ Below wx.heap.size wx w') (w : World) (q0 : (cf.toList == df.toList) = false) (q1 : (V == Y) = false)
    : Calls Try.prog 9 #[.agg #[.bool an, .string ai, .string af], .agg #[.bool bn, .string bi, .string bf], .int .i64 j, .int .i64 k] w fun e w' => e = .returned (.bool true) ∧ Below w.heap.size w w' := by
  have DW := Lib.hid oawake_any
  have D1 := Lib.hid H1
  have D2 := Lib.hid H2
  have D3 := Lib.hid H3
  have D4 := Lib.hid H4
  clear H1 H2 H3 H4
  go_enter Try.func9, Try.ntmps9
  go_wp2_with fail
  obtain ⟨W0, hW0⟩ : ∃ W0, W0 = ((w.alloc (.cells #[.bool an, .string ai, .string af] 23)).alloc (.cells #[.bool bn, .string bi, .string bf] 23)) := ⟨_, rfl⟩
  have hB0 : Below w.heap.size w w := Below.refl _ _
  have ha0 : Below w.heap.size w (w.alloc (.cells #[.bool an, .string ai, .string af] 23)) := (Below.refl _ _).alloc (Nat.le_refl _) _
  have hB1 := hB0.trans (ha0.mono hB0.size)
  have hs0 : (w.alloc (.cells #[.bool an, .string ai, .string af] 23)).heap.size = w.heap.size + 1 := by simp
  have C0 := (one_box w (.bool an) (.string ai) (.string af) 23).2.1
  have ha1 : Below (w.alloc (.cells #[.bool an, .string ai, .string af] 23)).heap.size (w.alloc (.cells #[.bool an, .string ai, .string af] 23)) ((w.alloc (.cells #[.bool an, .string ai, .string af] 23)).alloc (.cells #[.bool bn, .string bi, .string bf] 23)) := (Below.refl _ _).alloc (Nat.le_refl _) _
  have hB2 := hB1.trans (ha1.mono hB1.size)
  have hs1 : ((w.alloc (.cells #[.bool an, .string ai, .string af] 23)).alloc (.cells #[.bool bn, .string bi, .string bf] 23)).heap.size = w.heap.size + 2 := by rw [show ((w.alloc (.cells #[.bool an, .string ai, .string af] 23)).alloc (.cells #[.bool bn, .string bi, .string bf] 23)).heap.size = (w.alloc (.cells #[.bool an, .string ai, .string af] 23)).heap.size + 1 by simp, hs0]
  replace C0 := C0.keep ha1 (by rw [hs0]; omega)
  have C1 := (one_box (w.alloc (.cells #[.bool an, .string ai, .string af] 23)) (.bool bn) (.string bi) (.string bf) 23).2.1
  rw [hs0] at C1
  rw [← hW0] at hB2 hs1 C0 C1 ⊢
  have z0 : w.heap.size + 1 ≤ W0.heap.size := by omega
  have z1 : (w.heap.size + 1) + 1 ≤ W0.heap.size := by omega
  have HB := Lib.hid hB2
  clear hW0 hB0 ha0 hB1 ha1 hB2 hs0 hs1
  (with_reducible refine (DW.out _).mono ?_)
  rintro e V1 ⟨rfl, hb⟩
  replace C0 := C0.keep hb (by omega)
  replace C1 := C1.keep hb (by omega)
  replace z0 : w.heap.size + 1 ≤ V1.heap.size := by have := hb.size; omega
  replace z1 : (w.heap.size + 1) + 1 ≤ V1.heap.size := by have := hb.size; omega
  replace HB := Lib.hid (HB.out.trans (hb.mono HB.out.size))
  clear hb
  have K0 := Lib.hid C0
  have K1 := Lib.hid C1
  obtain ⟨o0_0, o0_1, o0_2⟩ := C0
  obtain ⟨o1_0, o1_1, o1_2⟩ := C1
  go_wp2_with fail
  clear o0_0 o0_1 o0_2
  have C0 := K0.out
  clear K0
  clear o1_0 o1_1 o1_2
  have C1 := K1.out
  clear K1
  (with_reducible refine (D1.out _).mono ?_)
  rintro e V2 ⟨rfl, hb⟩
  replace C0 := C0.keep hb (by omega)
  replace C1 := C1.keep hb (by omega)
  replace z0 : w.heap.size + 1 ≤ V2.heap.size := by have := hb.size; omega
  replace z1 : (w.heap.size + 1) + 1 ≤ V2.heap.size := by have := hb.size; omega
  replace HB := Lib.hid (HB.out.trans (hb.mono HB.out.size))
  clear hb
  have ba : Below V2.heap.size V2 (V2.alloc (.cells #[.bool false, .string ci, .string tf, .string ci, .int .i64 V, .int .i64 Wd, .string F, .string T, .int .i64 j] 25)) := (Below.refl _ _).alloc (Nat.le_refl _) _
  replace C0 := C0.keep ba (by omega)
  replace C1 := C1.keep ba (by omega)
  have C2 : Cells9 (V2.alloc (.cells #[.bool false, .string ci, .string tf, .string ci, .int .i64 V, .int .i64 Wd, .string F, .string T, .int .i64 j] 25)) V2.heap.size (.bool false) (.string ci) (.string tf) (.string ci) (.int .i64 V) (.int .i64 Wd) (.string F) (.string T) (.int .i64 j) := (nine_box V2 (.bool false) (.string ci) (.string tf) (.string ci) (.int .i64 V) (.int .i64 Wd) (.string F) (.string T) (.int .i64 j) 25).2.1
  have z2 : V2.heap.size + 1 ≤ (V2.alloc (.cells #[.bool false, .string ci, .string tf, .string ci, .int .i64 V, .int .i64 Wd, .string F, .string T, .int .i64 j] 25)).heap.size := by simp
  replace z0 : w.heap.size + 1 ≤ (V2.alloc (.cells #[.bool false, .string ci, .string tf, .string ci, .int .i64 V, .int .i64 Wd, .string F, .string T, .int .i64 j] 25)).heap.size := by have := ba.size; omega
  replace z1 : (w.heap.size + 1) + 1 ≤ (V2.alloc (.cells #[.bool false, .string ci, .string tf, .string ci, .int .i64 V, .int .i64 Wd, .string F, .string T, .int .i64 j] 25)).heap.size := by have := ba.size; omega
  replace HB := Lib.hid (HB.out.trans (ba.mono HB.out.size))
  clear ba
  have K0 := Lib.hid C0
  have K1 := Lib.hid C1
  have K2 := Lib.hid C2
  obtain ⟨o0_0, o0_1, o0_2⟩ := C0
  obtain ⟨o1_0, o1_1, o1_2⟩ := C1
  obtain ⟨o2_0, o2_1, o2_2, o2_3, o2_4, o2_5, o2_6, o2_7, o2_8⟩ := C2
  go_wp2_with fail
  clear o0_0 o0_1 o0_2
  have C0 := K0.out
  clear K0
  clear o1_0 o1_1 o1_2
  have C1 := K1.out
  clear K1
  clear o2_0 o2_1 o2_2 o2_3 o2_4 o2_5 o2_6 o2_7 o2_8
  have C2 := K2.out
  clear K2
  obtain ⟨V2x, hV2x⟩ : ∃ V2x, V2x = (V2.alloc (.cells #[.bool false, .string ci, .string tf, .string ci, .int .i64 V, .int .i64 Wd, .string F, .string T, .int .i64 j] 25)) := ⟨_, rfl⟩
  rw [← hV2x]
  rw [← hV2x] at HB C0 z0 C1 z1 C2 z2 
  clear hV2x
  (with_reducible refine (D2.out _).mono ?_)
  rintro e V3 ⟨rfl, hb⟩
  replace C0 := C0.keep hb (by omega)
  replace C1 := C1.keep hb (by omega)
  replace C2 := C2.keep hb (by omega)
  replace z0 : w.heap.size + 1 ≤ V3.heap.size := by have := hb.size; omega
  replace z1 : (w.heap.size + 1) + 1 ≤ V3.heap.size := by have := hb.size; omega
  replace z2 : V2.heap.size + 1 ≤ V3.heap.size := by have := hb.size; omega
  replace HB := Lib.hid (HB.out.trans (hb.mono HB.out.size))
  clear hb
  have ba : Below V3.heap.size V3 (V3.alloc (.cells #[.bool false, .string ci, .string uf, .string ci, .int .i64 Y, .int .i64 Yd, .string G, .string U, .int .i64 k] 25)) := (Below.refl _ _).alloc (Nat.le_refl _) _
  replace C0 := C0.keep ba (by omega)
  replace C1 := C1.keep ba (by omega)
  replace C2 := C2.keep ba (by omega)
  have C3 : Cells9 (V3.alloc (.cells #[.bool false, .string ci, .string uf, .string ci, .int .i64 Y, .int .i64 Yd, .string G, .string U, .int .i64 k] 25)) V3.heap.size (.bool false) (.string ci) (.string uf) (.string ci) (.int .i64 Y) (.int .i64 Yd) (.string G) (.string U) (.int .i64 k) := (nine_box V3 (.bool false) (.string ci) (.string uf) (.string ci) (.int .i64 Y) (.int .i64 Yd) (.string G) (.string U) (.int .i64 k) 25).2.1
  have z3 : V3.heap.size + 1 ≤ (V3.alloc (.cells #[.bool false, .string ci, .string uf, .string ci, .int .i64 Y, .int .i64 Yd, .string G, .string U, .int .i64 k] 25)).heap.size := by simp
  replace z0 : w.heap.size + 1 ≤ (V3.alloc (.cells #[.bool false, .string ci, .string uf, .string ci, .int .i64 Y, .int .i64 Yd, .string G, .string U, .int .i64 k] 25)).heap.size := by have := ba.size; omega
  replace z1 : (w.heap.size + 1) + 1 ≤ (V3.alloc (.cells #[.bool false, .string ci, .string uf, .string ci, .int .i64 Y, .int .i64 Yd, .string G, .string U, .int .i64 k] 25)).heap.size := by have := ba.size; omega
  replace z2 : V2.heap.size + 1 ≤ (V3.alloc (.cells #[.bool false, .string ci, .string uf, .string ci, .int .i64 Y, .int .i64 Yd, .string G, .string U, .int .i64 k] 25)).heap.size := by have := ba.size; omega
  replace HB := Lib.hid (HB.out.trans (ba.mono HB.out.size))
  clear ba
  have K0 := Lib.hid C0
  have K1 := Lib.hid C1
  have K2 := Lib.hid C2
  have K3 := Lib.hid C3
  obtain ⟨o0_0, o0_1, o0_2⟩ := C0
  obtain ⟨o1_0, o1_1, o1_2⟩ := C1
  obtain ⟨o2_0, o2_1, o2_2, o2_3, o2_4, o2_5, o2_6, o2_7, o2_8⟩ := C2
  obtain ⟨o3_0, o3_1, o3_2, o3_3, o3_4, o3_5, o3_6, o3_7, o3_8⟩ := C3
  go_wp2_with fail
  clear o0_0 o0_1 o0_2
  have C0 := K0.out
  clear K0
  clear o1_0 o1_1 o1_2
  have C1 := K1.out
  clear K1
  clear o2_0 o2_1 o2_2 o2_3 o2_4 o2_5 o2_6 o2_7 o2_8
  have C2 := K2.out
  clear K2
  clear o3_0 o3_1 o3_2 o3_3 o3_4 o3_5 o3_6 o3_7 o3_8
  have C3 := K3.out
  clear K3
  obtain ⟨V3x, hV3x⟩ : ∃ V3x, V3x = (V3.alloc (.cells #[.bool false, .string ci, .string uf, .string ci, .int .i64 Y, .int .i64 Yd, .string G, .string U, .int .i64 k] 25)) := ⟨_, rfl⟩
  rw [← hV3x]
  rw [← hV3x] at HB C0 z0 C1 z1 C2 z2 C3 z3 
  clear hV3x
  (with_reducible refine (D3.out _).mono ?_)
  rintro e V4 ⟨rfl, hb⟩
  replace C0 := C0.keep hb (by omega)
  replace C1 := C1.keep hb (by omega)
  replace C2 := C2.keep hb (by omega)
  replace C3 := C3.keep hb (by omega)
  replace z0 : w.heap.size + 1 ≤ V4.heap.size := by have := hb.size; omega
  replace z1 : (w.heap.size + 1) + 1 ≤ V4.heap.size := by have := hb.size; omega
  replace z2 : V2.heap.size + 1 ≤ V4.heap.size := by have := hb.size; omega
  replace z3 : V3.heap.size + 1 ≤ V4.heap.size := by have := hb.size; omega
  replace HB := Lib.hid (HB.out.trans (hb.mono HB.out.size))
  clear hb
  have y0_4 := Lib.hid z0
  have y1_4 := Lib.hid z1
  have y2_4 := Lib.hid z2
  have y3_4 := Lib.hid z3
  have ba : Below V4.heap.size V4 (V4.alloc (.cells #[.bool cn, .string ci, .string cf] 23)) := (Below.refl _ _).alloc (Nat.le_refl _) _
  replace C0 := C0.keep ba (by omega)
  replace C1 := C1.keep ba (by omega)
  replace C2 := C2.keep ba (by omega)
  replace C3 := C3.keep ba (by omega)
  have F4 := Lib.hid (one_box V4 (.bool cn) (.string ci) (.string cf) 23).2.2
  have C4 : Cells3 (V4.alloc (.cells #[.bool cn, .string ci, .string cf] 23)) V4.heap.size (.bool cn) (.string ci) (.string cf) := (one_box V4 (.bool cn) (.string ci) (.string cf) 23).2.1
  have z4 : V4.heap.size + 1 ≤ (V4.alloc (.cells #[.bool cn, .string ci, .string cf] 23)).heap.size := by simp
  replace z0 : w.heap.size + 1 ≤ (V4.alloc (.cells #[.bool cn, .string ci, .string cf] 23)).heap.size := by have := ba.size; omega
  replace z1 : (w.heap.size + 1) + 1 ≤ (V4.alloc (.cells #[.bool cn, .string ci, .string cf] 23)).heap.size := by have := ba.size; omega
  replace z2 : V2.heap.size + 1 ≤ (V4.alloc (.cells #[.bool cn, .string ci, .string cf] 23)).heap.size := by have := ba.size; omega
  replace z3 : V3.heap.size + 1 ≤ (V4.alloc (.cells #[.bool cn, .string ci, .string cf] 23)).heap.size := by have := ba.size; omega
  replace HB := Lib.hid (HB.out.trans (ba.mono HB.out.size))
  clear ba
  have K0 := Lib.hid C0
  have K1 := Lib.hid C1
  have K2 := Lib.hid C2
  have K3 := Lib.hid C3
  have K4 := Lib.hid C4
  obtain ⟨o0_0, o0_1, o0_2⟩ := C0
  obtain ⟨o1_0, o1_1, o1_2⟩ := C1
  obtain ⟨o2_0, o2_1, o2_2, o2_3, o2_4, o2_5, o2_6, o2_7, o2_8⟩ := C2
  obtain ⟨o3_0, o3_1, o3_2, o3_3, o3_4, o3_5, o3_6, o3_7, o3_8⟩ := C3
  obtain ⟨o4_0, o4_1, o4_2⟩ := C4
  go_wp2_with fail
  clear o0_0 o0_1 o0_2
  have C0 := K0.out
  clear K0
  clear o1_0 o1_1 o1_2
  have C1 := K1.out
  clear K1
  clear o2_0 o2_1 o2_2 o2_3 o2_4 o2_5 o2_6 o2_7 o2_8
  have C2 := K2.out
  clear K2
  clear o3_0 o3_1 o3_2 o3_3 o3_4 o3_5 o3_6 o3_7 o3_8
  have C3 := K3.out
  clear K3
  clear o4_0 o4_1 o4_2
  have C4 := K4.out
  clear K4
  obtain ⟨V4x, hV4x⟩ : ∃ V4x, V4x = (V4.alloc (.cells #[.bool cn, .string ci, .string cf] 23)) := ⟨_, rfl⟩
  rw [← hV4x]
  rw [← hV4x] at HB C0 z0 C1 z1 C2 z2 C3 z3 C4 z4 F4
  clear hV4x
  (with_reducible refine (D4.out _).mono ?_)
  rintro e V5 ⟨rfl, hb⟩
  replace C0 := C0.keep hb (by omega)
  replace C1 := C1.keep hb (by omega)
  replace C2 := C2.keep hb (by omega)
  replace C3 := C3.keep hb (by omega)
  replace C4 := C4.keep hb (by omega)
  replace F4 := Lib.hid (frozen_keep F4.out hb (by omega))
  replace z0 : w.heap.size + 1 ≤ V5.heap.size := by have := hb.size; omega
  replace z1 : (w.heap.size + 1) + 1 ≤ V5.heap.size := by have := hb.size; omega
  replace z2 : V2.heap.size + 1 ≤ V5.heap.size := by have := hb.size; omega
  replace z3 : V3.heap.size + 1 ≤ V5.heap.size := by have := hb.size; omega
  replace z4 : V4.heap.size + 1 ≤ V5.heap.size := by have := hb.size; omega
  replace HB := Lib.hid (HB.out.trans (hb.mono HB.out.size))
  clear hb
  have y0_5 := Lib.hid z0
  have y1_5 := Lib.hid z1
  have y2_5 := Lib.hid z2
  have y3_5 := Lib.hid z3
  have y4_5 := Lib.hid z4
  have ba : Below V5.heap.size V5 (V5.alloc (.cells #[.bool dn, .string ci, .string df] 23)) := (Below.refl _ _).alloc (Nat.le_refl _) _
  replace C0 := C0.keep ba (by omega)
  replace C1 := C1.keep ba (by omega)
  replace C2 := C2.keep ba (by omega)
  replace C3 := C3.keep ba (by omega)
  replace C4 := C4.keep ba (by omega)
  replace F4 := Lib.hid (frozen_keep F4.out ba (by omega))
  have C5 : Cells3 (V5.alloc (.cells #[.bool dn, .string ci, .string df] 23)) V5.heap.size (.bool dn) (.string ci) (.string df) := (one_box V5 (.bool dn) (.string ci) (.string df) 23).2.1
  have z5 : V5.heap.size + 1 ≤ (V5.alloc (.cells #[.bool dn, .string ci, .string df] 23)).heap.size := by simp
  replace z0 : w.heap.size + 1 ≤ (V5.alloc (.cells #[.bool dn, .string ci, .string df] 23)).heap.size := by have := ba.size; omega
  replace z1 : (w.heap.size + 1) + 1 ≤ (V5.alloc (.cells #[.bool dn, .string ci, .string df] 23)).heap.size := by have := ba.size; omega
  replace z2 : V2.heap.size + 1 ≤ (V5.alloc (.cells #[.bool dn, .string ci, .string df] 23)).heap.size := by have := ba.size; omega
  replace z3 : V3.heap.size + 1 ≤ (V5.alloc (.cells #[.bool dn, .string ci, .string df] 23)).heap.size := by have := ba.size; omega
  replace z4 : V4.heap.size + 1 ≤ (V5.alloc (.cells #[.bool dn, .string ci, .string df] 23)).heap.size := by have := ba.size; omega
  replace HB := Lib.hid (HB.out.trans (ba.mono HB.out.size))
  clear ba
  have K0 := Lib.hid C0
  have K1 := Lib.hid C1
  have K2 := Lib.hid C2
  have K3 := Lib.hid C3
  have K4 := Lib.hid C4
  have K5 := Lib.hid C5
  obtain ⟨o0_0, o0_1, o0_2⟩ := C0
  obtain ⟨o1_0, o1_1, o1_2⟩ := C1
  obtain ⟨o2_0, o2_1, o2_2, o2_3, o2_4, o2_5, o2_6, o2_7, o2_8⟩ := C2
  obtain ⟨o3_0, o3_1, o3_2, o3_3, o3_4, o3_5, o3_6, o3_7, o3_8⟩ := C3
  obtain ⟨o4_0, o4_1, o4_2⟩ := C4
  obtain ⟨o5_0, o5_1, o5_2⟩ := C5
  have f4 := F4.out
  have y45 := y4_5.out
  have s5 : ((V5.alloc (.cells #[.bool dn, .string ci, .string df] 23)).setCell ⟨V4.heap.size, 0, none⟩ (.bool false)).cell? ⟨V5.heap.size, 0, none⟩ = some (.bool dn) := (fars3 ⟨o5_0, o5_1, o5_2⟩ (by show V4.heap.size ≠ V5.heap.size; omega) _).1
  clear y45
  go_wp2_with fail
  clear s5
  obtain ⟨W6, hW6⟩ : ∃ W6, W6 = ((V5.alloc (.cells #[.bool dn, .string ci, .string df] 23)).setCell ⟨V4.heap.size, 0, none⟩ (.bool false)).setCell ⟨V5.heap.size, 0, none⟩ (.bool false) := ⟨_, rfl⟩
  rw [← hW6]
  clear o0_0 o0_1 o0_2
  have C0 := K0.out
  clear K0
  clear o1_0 o1_1 o1_2
  have C1 := K1.out
  clear K1
  clear o2_0 o2_1 o2_2 o2_3 o2_4 o2_5 o2_6 o2_7 o2_8
  have C2 := K2.out
  clear K2
  clear o3_0 o3_1 o3_2 o3_3 o3_4 o3_5 o3_6 o3_7 o3_8
  have C3 := K3.out
  clear K3
  clear o4_0 o4_1 o4_2
  have C4 := K4.out
  clear K4
  clear o5_0 o5_1 o5_2
  have C5 := K5.out
  clear K5
  have y24 := y2_4.out
  have y34 := y3_4.out
  have y25 := y2_5.out
  have y35 := y3_5.out
  have y45 := y4_5.out
  have y04 := y0_4.out
  have y05 := y0_5.out
  have N2 : Cells9 W6 V2.heap.size (.bool false) (.string ci) (.string tf) (.string ci) (.int .i64 V) (.int .i64 Wd) (.string F) (.string T) (.int .i64 j) := by rw [hW6]; exact far9 (far9 C2 (by show V4.heap.size ≠ V2.heap.size; omega) _) (by show V5.heap.size ≠ V2.heap.size; omega) _
  have N3 : Cells9 W6 V3.heap.size (.bool false) (.string ci) (.string uf) (.string ci) (.int .i64 Y) (.int .i64 Yd) (.string G) (.string U) (.int .i64 k) := by rw [hW6]; exact far9 (far9 C3 (by show V4.heap.size ≠ V3.heap.size; omega) _) (by show V5.heap.size ≠ V3.heap.size; omega) _
  have N4 : Cells3 W6 V4.heap.size (.bool false) (.string ci) (.string cf) := by rw [hW6]; exact fars3 (set_neg C4) (by show V5.heap.size ≠ V4.heap.size; omega) _
  have N5 : Cells3 W6 V5.heap.size (.bool false) (.string ci) (.string df) := by rw [hW6]; exact set_neg (fars3 C5 (by show V4.heap.size ≠ V5.heap.size; omega) _)
  have HB6 : Hid (Below w.heap.size w W6) := by rw [hW6]; exact (HB.out.setCell (p := ⟨V4.heap.size, 0, none⟩) (by show w.heap.size ≤ V4.heap.size; omega) _).setCell (p := ⟨V5.heap.size, 0, none⟩) (by show w.heap.size ≤ V5.heap.size; omega) _
  clear y24 y34 y25 y35 y45 y04 y05 hW6 C0 C1 C2 C3 C4 C5 HB F4 f4 z0 z1 z2 z3 z4 z5
  obtain ⟨o0, o1, o2, o3, o4, o5, o6, o7, o8⟩ := N2
  obtain ⟨p0, p1, p2, p3, p4, p5, p6, p7, p8⟩ := N3
  obtain ⟨c0, c1, c2⟩ := N4
  obtain ⟨d0, d1, d2⟩ := N5
  go_quiet (fail)
  all_goals (go_wp2; go_ret; exact ⟨rfl, drewN_below HB6.out _⟩)

set_option maxHeartbeats 4000000 in
set_option maxRecDepth 100000 in
theorem lost_n3 (an bn : Bool) (ai af bi bf : ByteArray) (j : Int) (ci cf tf F T df uf G U : ByteArray) (V Wd Y Yd : Int) (cn dn : Bool) (k : Int)
    (H1 : ∀ wx : World, Calls Try.prog 13 #[.agg #[.bool an, .string ai, .string af], .int .i64 j] wx fun e w' => e = .returned (.tuple #[.agg #[.bool false, .string ci, .string tf, .string ci, .int .i64 V, .int .i64 Wd, .string F, .string T, .int .i64 j], .int .i64 0]) ∧ Below wx.heap.size wx w')
    (H2 : ∀ wx : World, Calls Try.prog 13 #[.agg #[.bool bn, .string bi, .string bf], .int .i64 k] wx fun e w' => e = .returned (.tuple #[.agg #[.bool false, .string ci, .string uf, .string ci, .int .i64 Y, .int .i64 Yd, .string G, .string U, .int .i64 k], .int .i64 0]) ∧ Below wx.heap.size wx w')
    (H3 : ∀ wx : World, Calls Try.prog 18 #[.agg #[.bool an, .string ai, .string af], .int .i64 j] wx fun e w' => e = .returned (.tuple #[.agg #[.bool cn, .string ci, .string cf], .int .i64 0]) ∧ Below wx.heap.size wx w')
    (H4 : ∀ wx : World, Calls Try.prog 18 #[.agg #[.bool bn, .string bi, .string bf], .int .i64 k] wx fun e w' => e = .returned (.tuple #[.agg #[.bool dn, .string ci, .string df], .int .i64 0]) ∧ Below wx.heap.size wx w') (w : World) (q0 : (cf.toList == df.toList) = false) (q1 : (F.toList == G.toList) = false)
    : Calls Try.prog 9 #[.agg #[.bool an, .string ai, .string af], .agg #[.bool bn, .string bi, .string bf], .int .i64 j, .int .i64 k] w fun e w' => e = .returned (.bool true) ∧ Below w.heap.size w w' := by
  have DW := Lib.hid oawake_any
  have D1 := Lib.hid H1
  have D2 := Lib.hid H2
  have D3 := Lib.hid H3
  have D4 := Lib.hid H4
  clear H1 H2 H3 H4
  go_enter Try.func9, Try.ntmps9
  go_wp2_with fail
  obtain ⟨W0, hW0⟩ : ∃ W0, W0 = ((w.alloc (.cells #[.bool an, .string ai, .string af] 23)).alloc (.cells #[.bool bn, .string bi, .string bf] 23)) := ⟨_, rfl⟩
  have hB0 : Below w.heap.size w w := Below.refl _ _
  have ha0 : Below w.heap.size w (w.alloc (.cells #[.bool an, .string ai, .string af] 23)) := (Below.refl _ _).alloc (Nat.le_refl _) _
  have hB1 := hB0.trans (ha0.mono hB0.size)
  have hs0 : (w.alloc (.cells #[.bool an, .string ai, .string af] 23)).heap.size = w.heap.size + 1 := by simp
  have C0 := (one_box w (.bool an) (.string ai) (.string af) 23).2.1
  have ha1 : Below (w.alloc (.cells #[.bool an, .string ai, .string af] 23)).heap.size (w.alloc (.cells #[.bool an, .string ai, .string af] 23)) ((w.alloc (.cells #[.bool an, .string ai, .string af] 23)).alloc (.cells #[.bool bn, .string bi, .string bf] 23)) := (Below.refl _ _).alloc (Nat.le_refl _) _
  have hB2 := hB1.trans (ha1.mono hB1.size)
  have hs1 : ((w.alloc (.cells #[.bool an, .string ai, .string af] 23)).alloc (.cells #[.bool bn, .string bi, .string bf] 23)).heap.size = w.heap.size + 2 := by rw [show ((w.alloc (.cells #[.bool an, .string ai, .string af] 23)).alloc (.cells #[.bool bn, .string bi, .string bf] 23)).heap.size = (w.alloc (.cells #[.bool an, .string ai, .string af] 23)).heap.size + 1 by simp, hs0]
  replace C0 := C0.keep ha1 (by rw [hs0]; omega)
  have C1 := (one_box (w.alloc (.cells #[.bool an, .string ai, .string af] 23)) (.bool bn) (.string bi) (.string bf) 23).2.1
  rw [hs0] at C1
  rw [← hW0] at hB2 hs1 C0 C1 ⊢
  have z0 : w.heap.size + 1 ≤ W0.heap.size := by omega
  have z1 : (w.heap.size + 1) + 1 ≤ W0.heap.size := by omega
  have HB := Lib.hid hB2
  clear hW0 hB0 ha0 hB1 ha1 hB2 hs0 hs1
  (with_reducible refine (DW.out _).mono ?_)
  rintro e V1 ⟨rfl, hb⟩
  replace C0 := C0.keep hb (by omega)
  replace C1 := C1.keep hb (by omega)
  replace z0 : w.heap.size + 1 ≤ V1.heap.size := by have := hb.size; omega
  replace z1 : (w.heap.size + 1) + 1 ≤ V1.heap.size := by have := hb.size; omega
  replace HB := Lib.hid (HB.out.trans (hb.mono HB.out.size))
  clear hb
  have K0 := Lib.hid C0
  have K1 := Lib.hid C1
  obtain ⟨o0_0, o0_1, o0_2⟩ := C0
  obtain ⟨o1_0, o1_1, o1_2⟩ := C1
  go_wp2_with fail
  clear o0_0 o0_1 o0_2
  have C0 := K0.out
  clear K0
  clear o1_0 o1_1 o1_2
  have C1 := K1.out
  clear K1
  (with_reducible refine (D1.out _).mono ?_)
  rintro e V2 ⟨rfl, hb⟩
  replace C0 := C0.keep hb (by omega)
  replace C1 := C1.keep hb (by omega)
  replace z0 : w.heap.size + 1 ≤ V2.heap.size := by have := hb.size; omega
  replace z1 : (w.heap.size + 1) + 1 ≤ V2.heap.size := by have := hb.size; omega
  replace HB := Lib.hid (HB.out.trans (hb.mono HB.out.size))
  clear hb
  have ba : Below V2.heap.size V2 (V2.alloc (.cells #[.bool false, .string ci, .string tf, .string ci, .int .i64 V, .int .i64 Wd, .string F, .string T, .int .i64 j] 25)) := (Below.refl _ _).alloc (Nat.le_refl _) _
  replace C0 := C0.keep ba (by omega)
  replace C1 := C1.keep ba (by omega)
  have C2 : Cells9 (V2.alloc (.cells #[.bool false, .string ci, .string tf, .string ci, .int .i64 V, .int .i64 Wd, .string F, .string T, .int .i64 j] 25)) V2.heap.size (.bool false) (.string ci) (.string tf) (.string ci) (.int .i64 V) (.int .i64 Wd) (.string F) (.string T) (.int .i64 j) := (nine_box V2 (.bool false) (.string ci) (.string tf) (.string ci) (.int .i64 V) (.int .i64 Wd) (.string F) (.string T) (.int .i64 j) 25).2.1
  have z2 : V2.heap.size + 1 ≤ (V2.alloc (.cells #[.bool false, .string ci, .string tf, .string ci, .int .i64 V, .int .i64 Wd, .string F, .string T, .int .i64 j] 25)).heap.size := by simp
  replace z0 : w.heap.size + 1 ≤ (V2.alloc (.cells #[.bool false, .string ci, .string tf, .string ci, .int .i64 V, .int .i64 Wd, .string F, .string T, .int .i64 j] 25)).heap.size := by have := ba.size; omega
  replace z1 : (w.heap.size + 1) + 1 ≤ (V2.alloc (.cells #[.bool false, .string ci, .string tf, .string ci, .int .i64 V, .int .i64 Wd, .string F, .string T, .int .i64 j] 25)).heap.size := by have := ba.size; omega
  replace HB := Lib.hid (HB.out.trans (ba.mono HB.out.size))
  clear ba
  have K0 := Lib.hid C0
  have K1 := Lib.hid C1
  have K2 := Lib.hid C2
  obtain ⟨o0_0, o0_1, o0_2⟩ := C0
  obtain ⟨o1_0, o1_1, o1_2⟩ := C1
  obtain ⟨o2_0, o2_1, o2_2, o2_3, o2_4, o2_5, o2_6, o2_7, o2_8⟩ := C2
  go_wp2_with fail
  clear o0_0 o0_1 o0_2
  have C0 := K0.out
  clear K0
  clear o1_0 o1_1 o1_2
  have C1 := K1.out
  clear K1
  clear o2_0 o2_1 o2_2 o2_3 o2_4 o2_5 o2_6 o2_7 o2_8
  have C2 := K2.out
  clear K2
  obtain ⟨V2x, hV2x⟩ : ∃ V2x, V2x = (V2.alloc (.cells #[.bool false, .string ci, .string tf, .string ci, .int .i64 V, .int .i64 Wd, .string F, .string T, .int .i64 j] 25)) := ⟨_, rfl⟩
  rw [← hV2x]
  rw [← hV2x] at HB C0 z0 C1 z1 C2 z2 
  clear hV2x
  (with_reducible refine (D2.out _).mono ?_)
  rintro e V3 ⟨rfl, hb⟩
  replace C0 := C0.keep hb (by omega)
  replace C1 := C1.keep hb (by omega)
  replace C2 := C2.keep hb (by omega)
  replace z0 : w.heap.size + 1 ≤ V3.heap.size := by have := hb.size; omega
  replace z1 : (w.heap.size + 1) + 1 ≤ V3.heap.size := by have := hb.size; omega
  replace z2 : V2.heap.size + 1 ≤ V3.heap.size := by have := hb.size; omega
  replace HB := Lib.hid (HB.out.trans (hb.mono HB.out.size))
  clear hb
  have ba : Below V3.heap.size V3 (V3.alloc (.cells #[.bool false, .string ci, .string uf, .string ci, .int .i64 Y, .int .i64 Yd, .string G, .string U, .int .i64 k] 25)) := (Below.refl _ _).alloc (Nat.le_refl _) _
  replace C0 := C0.keep ba (by omega)
  replace C1 := C1.keep ba (by omega)
  replace C2 := C2.keep ba (by omega)
  have C3 : Cells9 (V3.alloc (.cells #[.bool false, .string ci, .string uf, .string ci, .int .i64 Y, .int .i64 Yd, .string G, .string U, .int .i64 k] 25)) V3.heap.size (.bool false) (.string ci) (.string uf) (.string ci) (.int .i64 Y) (.int .i64 Yd) (.string G) (.string U) (.int .i64 k) := (nine_box V3 (.bool false) (.string ci) (.string uf) (.string ci) (.int .i64 Y) (.int .i64 Yd) (.string G) (.string U) (.int .i64 k) 25).2.1
  have z3 : V3.heap.size + 1 ≤ (V3.alloc (.cells #[.bool false, .string ci, .string uf, .string ci, .int .i64 Y, .int .i64 Yd, .string G, .string U, .int .i64 k] 25)).heap.size := by simp
  replace z0 : w.heap.size + 1 ≤ (V3.alloc (.cells #[.bool false, .string ci, .string uf, .string ci, .int .i64 Y, .int .i64 Yd, .string G, .string U, .int .i64 k] 25)).heap.size := by have := ba.size; omega
  replace z1 : (w.heap.size + 1) + 1 ≤ (V3.alloc (.cells #[.bool false, .string ci, .string uf, .string ci, .int .i64 Y, .int .i64 Yd, .string G, .string U, .int .i64 k] 25)).heap.size := by have := ba.size; omega
  replace z2 : V2.heap.size + 1 ≤ (V3.alloc (.cells #[.bool false, .string ci, .string uf, .string ci, .int .i64 Y, .int .i64 Yd, .string G, .string U, .int .i64 k] 25)).heap.size := by have := ba.size; omega
  replace HB := Lib.hid (HB.out.trans (ba.mono HB.out.size))
  clear ba
  have K0 := Lib.hid C0
  have K1 := Lib.hid C1
  have K2 := Lib.hid C2
  have K3 := Lib.hid C3
  obtain ⟨o0_0, o0_1, o0_2⟩ := C0
  obtain ⟨o1_0, o1_1, o1_2⟩ := C1
  obtain ⟨o2_0, o2_1, o2_2, o2_3, o2_4, o2_5, o2_6, o2_7, o2_8⟩ := C2
  obtain ⟨o3_0, o3_1, o3_2, o3_3, o3_4, o3_5, o3_6, o3_7, o3_8⟩ := C3
  go_wp2_with fail
  clear o0_0 o0_1 o0_2
  have C0 := K0.out
  clear K0
  clear o1_0 o1_1 o1_2
  have C1 := K1.out
  clear K1
  clear o2_0 o2_1 o2_2 o2_3 o2_4 o2_5 o2_6 o2_7 o2_8
  have C2 := K2.out
  clear K2
  clear o3_0 o3_1 o3_2 o3_3 o3_4 o3_5 o3_6 o3_7 o3_8
  have C3 := K3.out
  clear K3
  obtain ⟨V3x, hV3x⟩ : ∃ V3x, V3x = (V3.alloc (.cells #[.bool false, .string ci, .string uf, .string ci, .int .i64 Y, .int .i64 Yd, .string G, .string U, .int .i64 k] 25)) := ⟨_, rfl⟩
  rw [← hV3x]
  rw [← hV3x] at HB C0 z0 C1 z1 C2 z2 C3 z3 
  clear hV3x
  (with_reducible refine (D3.out _).mono ?_)
  rintro e V4 ⟨rfl, hb⟩
  replace C0 := C0.keep hb (by omega)
  replace C1 := C1.keep hb (by omega)
  replace C2 := C2.keep hb (by omega)
  replace C3 := C3.keep hb (by omega)
  replace z0 : w.heap.size + 1 ≤ V4.heap.size := by have := hb.size; omega
  replace z1 : (w.heap.size + 1) + 1 ≤ V4.heap.size := by have := hb.size; omega
  replace z2 : V2.heap.size + 1 ≤ V4.heap.size := by have := hb.size; omega
  replace z3 : V3.heap.size + 1 ≤ V4.heap.size := by have := hb.size; omega
  replace HB := Lib.hid (HB.out.trans (hb.mono HB.out.size))
  clear hb
  have y0_4 := Lib.hid z0
  have y1_4 := Lib.hid z1
  have y2_4 := Lib.hid z2
  have y3_4 := Lib.hid z3
  have ba : Below V4.heap.size V4 (V4.alloc (.cells #[.bool cn, .string ci, .string cf] 23)) := (Below.refl _ _).alloc (Nat.le_refl _) _
  replace C0 := C0.keep ba (by omega)
  replace C1 := C1.keep ba (by omega)
  replace C2 := C2.keep ba (by omega)
  replace C3 := C3.keep ba (by omega)
  have F4 := Lib.hid (one_box V4 (.bool cn) (.string ci) (.string cf) 23).2.2
  have C4 : Cells3 (V4.alloc (.cells #[.bool cn, .string ci, .string cf] 23)) V4.heap.size (.bool cn) (.string ci) (.string cf) := (one_box V4 (.bool cn) (.string ci) (.string cf) 23).2.1
  have z4 : V4.heap.size + 1 ≤ (V4.alloc (.cells #[.bool cn, .string ci, .string cf] 23)).heap.size := by simp
  replace z0 : w.heap.size + 1 ≤ (V4.alloc (.cells #[.bool cn, .string ci, .string cf] 23)).heap.size := by have := ba.size; omega
  replace z1 : (w.heap.size + 1) + 1 ≤ (V4.alloc (.cells #[.bool cn, .string ci, .string cf] 23)).heap.size := by have := ba.size; omega
  replace z2 : V2.heap.size + 1 ≤ (V4.alloc (.cells #[.bool cn, .string ci, .string cf] 23)).heap.size := by have := ba.size; omega
  replace z3 : V3.heap.size + 1 ≤ (V4.alloc (.cells #[.bool cn, .string ci, .string cf] 23)).heap.size := by have := ba.size; omega
  replace HB := Lib.hid (HB.out.trans (ba.mono HB.out.size))
  clear ba
  have K0 := Lib.hid C0
  have K1 := Lib.hid C1
  have K2 := Lib.hid C2
  have K3 := Lib.hid C3
  have K4 := Lib.hid C4
  obtain ⟨o0_0, o0_1, o0_2⟩ := C0
  obtain ⟨o1_0, o1_1, o1_2⟩ := C1
  obtain ⟨o2_0, o2_1, o2_2, o2_3, o2_4, o2_5, o2_6, o2_7, o2_8⟩ := C2
  obtain ⟨o3_0, o3_1, o3_2, o3_3, o3_4, o3_5, o3_6, o3_7, o3_8⟩ := C3
  obtain ⟨o4_0, o4_1, o4_2⟩ := C4
  go_wp2_with fail
  clear o0_0 o0_1 o0_2
  have C0 := K0.out
  clear K0
  clear o1_0 o1_1 o1_2
  have C1 := K1.out
  clear K1
  clear o2_0 o2_1 o2_2 o2_3 o2_4 o2_5 o2_6 o2_7 o2_8
  have C2 := K2.out
  clear K2
  clear o3_0 o3_1 o3_2 o3_3 o3_4 o3_5 o3_6 o3_7 o3_8
  have C3 := K3.out
  clear K3
  clear o4_0 o4_1 o4_2
  have C4 := K4.out
  clear K4
  obtain ⟨V4x, hV4x⟩ : ∃ V4x, V4x = (V4.alloc (.cells #[.bool cn, .string ci, .string cf] 23)) := ⟨_, rfl⟩
  rw [← hV4x]
  rw [← hV4x] at HB C0 z0 C1 z1 C2 z2 C3 z3 C4 z4 F4
  clear hV4x
  (with_reducible refine (D4.out _).mono ?_)
  rintro e V5 ⟨rfl, hb⟩
  replace C0 := C0.keep hb (by omega)
  replace C1 := C1.keep hb (by omega)
  replace C2 := C2.keep hb (by omega)
  replace C3 := C3.keep hb (by omega)
  replace C4 := C4.keep hb (by omega)
  replace F4 := Lib.hid (frozen_keep F4.out hb (by omega))
  replace z0 : w.heap.size + 1 ≤ V5.heap.size := by have := hb.size; omega
  replace z1 : (w.heap.size + 1) + 1 ≤ V5.heap.size := by have := hb.size; omega
  replace z2 : V2.heap.size + 1 ≤ V5.heap.size := by have := hb.size; omega
  replace z3 : V3.heap.size + 1 ≤ V5.heap.size := by have := hb.size; omega
  replace z4 : V4.heap.size + 1 ≤ V5.heap.size := by have := hb.size; omega
  replace HB := Lib.hid (HB.out.trans (hb.mono HB.out.size))
  clear hb
  have y0_5 := Lib.hid z0
  have y1_5 := Lib.hid z1
  have y2_5 := Lib.hid z2
  have y3_5 := Lib.hid z3
  have y4_5 := Lib.hid z4
  have ba : Below V5.heap.size V5 (V5.alloc (.cells #[.bool dn, .string ci, .string df] 23)) := (Below.refl _ _).alloc (Nat.le_refl _) _
  replace C0 := C0.keep ba (by omega)
  replace C1 := C1.keep ba (by omega)
  replace C2 := C2.keep ba (by omega)
  replace C3 := C3.keep ba (by omega)
  replace C4 := C4.keep ba (by omega)
  replace F4 := Lib.hid (frozen_keep F4.out ba (by omega))
  have C5 : Cells3 (V5.alloc (.cells #[.bool dn, .string ci, .string df] 23)) V5.heap.size (.bool dn) (.string ci) (.string df) := (one_box V5 (.bool dn) (.string ci) (.string df) 23).2.1
  have z5 : V5.heap.size + 1 ≤ (V5.alloc (.cells #[.bool dn, .string ci, .string df] 23)).heap.size := by simp
  replace z0 : w.heap.size + 1 ≤ (V5.alloc (.cells #[.bool dn, .string ci, .string df] 23)).heap.size := by have := ba.size; omega
  replace z1 : (w.heap.size + 1) + 1 ≤ (V5.alloc (.cells #[.bool dn, .string ci, .string df] 23)).heap.size := by have := ba.size; omega
  replace z2 : V2.heap.size + 1 ≤ (V5.alloc (.cells #[.bool dn, .string ci, .string df] 23)).heap.size := by have := ba.size; omega
  replace z3 : V3.heap.size + 1 ≤ (V5.alloc (.cells #[.bool dn, .string ci, .string df] 23)).heap.size := by have := ba.size; omega
  replace z4 : V4.heap.size + 1 ≤ (V5.alloc (.cells #[.bool dn, .string ci, .string df] 23)).heap.size := by have := ba.size; omega
  replace HB := Lib.hid (HB.out.trans (ba.mono HB.out.size))
  clear ba
  have K0 := Lib.hid C0
  have K1 := Lib.hid C1
  have K2 := Lib.hid C2
  have K3 := Lib.hid C3
  have K4 := Lib.hid C4
  have K5 := Lib.hid C5
  obtain ⟨o0_0, o0_1, o0_2⟩ := C0
  obtain ⟨o1_0, o1_1, o1_2⟩ := C1
  obtain ⟨o2_0, o2_1, o2_2, o2_3, o2_4, o2_5, o2_6, o2_7, o2_8⟩ := C2
  obtain ⟨o3_0, o3_1, o3_2, o3_3, o3_4, o3_5, o3_6, o3_7, o3_8⟩ := C3
  obtain ⟨o4_0, o4_1, o4_2⟩ := C4
  obtain ⟨o5_0, o5_1, o5_2⟩ := C5
  have f4 := F4.out
  have y45 := y4_5.out
  have s5 : ((V5.alloc (.cells #[.bool dn, .string ci, .string df] 23)).setCell ⟨V4.heap.size, 0, none⟩ (.bool false)).cell? ⟨V5.heap.size, 0, none⟩ = some (.bool dn) := (fars3 ⟨o5_0, o5_1, o5_2⟩ (by show V4.heap.size ≠ V5.heap.size; omega) _).1
  clear y45
  go_wp2_with fail
  clear s5
  obtain ⟨W6, hW6⟩ : ∃ W6, W6 = ((V5.alloc (.cells #[.bool dn, .string ci, .string df] 23)).setCell ⟨V4.heap.size, 0, none⟩ (.bool false)).setCell ⟨V5.heap.size, 0, none⟩ (.bool false) := ⟨_, rfl⟩
  rw [← hW6]
  clear o0_0 o0_1 o0_2
  have C0 := K0.out
  clear K0
  clear o1_0 o1_1 o1_2
  have C1 := K1.out
  clear K1
  clear o2_0 o2_1 o2_2 o2_3 o2_4 o2_5 o2_6 o2_7 o2_8
  have C2 := K2.out
  clear K2
  clear o3_0 o3_1 o3_2 o3_3 o3_4 o3_5 o3_6 o3_7 o3_8
  have C3 := K3.out
  clear K3
  clear o4_0 o4_1 o4_2
  have C4 := K4.out
  clear K4
  clear o5_0 o5_1 o5_2
  have C5 := K5.out
  clear K5
  have y24 := y2_4.out
  have y34 := y3_4.out
  have y25 := y2_5.out
  have y35 := y3_5.out
  have y45 := y4_5.out
  have y04 := y0_4.out
  have y05 := y0_5.out
  have N2 : Cells9 W6 V2.heap.size (.bool false) (.string ci) (.string tf) (.string ci) (.int .i64 V) (.int .i64 Wd) (.string F) (.string T) (.int .i64 j) := by rw [hW6]; exact far9 (far9 C2 (by show V4.heap.size ≠ V2.heap.size; omega) _) (by show V5.heap.size ≠ V2.heap.size; omega) _
  have N3 : Cells9 W6 V3.heap.size (.bool false) (.string ci) (.string uf) (.string ci) (.int .i64 Y) (.int .i64 Yd) (.string G) (.string U) (.int .i64 k) := by rw [hW6]; exact far9 (far9 C3 (by show V4.heap.size ≠ V3.heap.size; omega) _) (by show V5.heap.size ≠ V3.heap.size; omega) _
  have N4 : Cells3 W6 V4.heap.size (.bool false) (.string ci) (.string cf) := by rw [hW6]; exact fars3 (set_neg C4) (by show V5.heap.size ≠ V4.heap.size; omega) _
  have N5 : Cells3 W6 V5.heap.size (.bool false) (.string ci) (.string df) := by rw [hW6]; exact set_neg (fars3 C5 (by show V4.heap.size ≠ V5.heap.size; omega) _)
  have HB6 : Hid (Below w.heap.size w W6) := by rw [hW6]; exact (HB.out.setCell (p := ⟨V4.heap.size, 0, none⟩) (by show w.heap.size ≤ V4.heap.size; omega) _).setCell (p := ⟨V5.heap.size, 0, none⟩) (by show w.heap.size ≤ V5.heap.size; omega) _
  clear y24 y34 y25 y35 y45 y04 y05 hW6 C0 C1 C2 C3 C4 C5 HB F4 f4 z0 z1 z2 z3 z4 z5
  obtain ⟨o0, o1, o2, o3, o4, o5, o6, o7, o8⟩ := N2
  obtain ⟨p0, p1, p2, p3, p4, p5, p6, p7, p8⟩ := N3
  obtain ⟨c0, c1, c2⟩ := N4
  obtain ⟨d0, d1, d2⟩ := N5
  go_quiet (fail)
  all_goals (go_wp2; go_ret; exact ⟨rfl, drewN_below HB6.out _⟩)

end Go.Proofs.Ytcdmanhhddcmcaa
