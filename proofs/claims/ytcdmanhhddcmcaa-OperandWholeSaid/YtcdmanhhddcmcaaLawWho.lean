/- OperandWhole: n by 1 is 0 just where nothing but noughts is behind the point. -/
import Derived.Test.YtcdmanhhddcmcaaOpW
import Derived.Test.YtcdmanhhddcmcaaOpS
import Derived.Test.YtcdmanhhddcmcaaDDiv
import Derived.Deep.QuietTactic
import Derived.BigQuiet
namespace Go.Proofs.Ytcdmanhhddcmcaa
open Go.RowKit
attribute [local go_sem ↓] Go.wp_at_zero Go.wp_at_succ
theorem nine_drew {W : World} {b : Nat} {x0 x1 x2 x3 x4 x5 x6 x7 x8 : Value} (h : Cells9 W b x0 x1 x2 x3 x4 x5 x6 x7 x8) : Cells9 W.drew b x0 x1 x2 x3 x4 x5 x6 x7 x8 := h
theorem three_drew {W : World} {b : Nat} {x0 x1 x2 : Value} (h : Cells3 W b x0 x1 x2) : Cells3 W.drew b x0 x1 x2 := h
theorem drewN_below {B : Nat} {w W : World} (h : Below B w W) (n : Nat) : Below B w (W.drewN n) := h.trans ⟨rfl, rfl, rfl, Nat.le_refl _, fun _ _ => rfl⟩

set_option maxHeartbeats 4000000 in
set_option maxRecDepth 100000 in
theorem who_err (dn : Bool) (di df : ByteArray) 
    (H1 : ∀ wx : World, Calls Try.prog 13 #[.agg #[.bool dn, .string di, .string df], .int .i64 0] wx fun e w' => e = .returned (.tuple #[.agg #[.bool false, .string ⟨#[]⟩, .string ⟨#[]⟩, .string ⟨#[]⟩, .int .i64 0, .int .i64 0, .string ⟨#[]⟩, .string ⟨#[]⟩, .int .i64 0], .int .i64 20]) ∧ Below wx.heap.size wx w')
    (H2 : ∀ wx : World, Calls Try.prog 26 #[.agg #[.bool dn, .string di, .string df]] wx fun e w' => e = .returned (.int .i64 20) ∧ Below wx.heap.size wx w') (w : World)
    : Calls Try.prog 8 #[.agg #[.bool dn, .string di, .string df]] w fun e w' => e = .returned (.bool true) ∧ Below w.heap.size w w' := by
  have DW := Lib.hid oawake_any
  have D1 := Lib.hid H1
  have D2 := Lib.hid H2
  clear H1 H2
  go_enter Try.func8, Try.ntmps8
  go_wp2_with fail
  obtain ⟨W0, hW0⟩ : ∃ W0, W0 = (w.alloc (.cells #[.bool dn, .string di, .string df] 23)) := ⟨_, rfl⟩
  have hB0 : Below w.heap.size w w := Below.refl _ _
  have ha0 : Below w.heap.size w (w.alloc (.cells #[.bool dn, .string di, .string df] 23)) := (Below.refl _ _).alloc (Nat.le_refl _) _
  have hB1 := hB0.trans (ha0.mono hB0.size)
  have hs0 : (w.alloc (.cells #[.bool dn, .string di, .string df] 23)).heap.size = w.heap.size + 1 := by simp
  have C0 := (one_box w (.bool dn) (.string di) (.string df) 23).2.1
  rw [← hW0] at hB1 hs0 C0 ⊢
  have z0 : w.heap.size + 1 ≤ W0.heap.size := by omega
  have HB := Lib.hid hB1
  clear hW0 hB0 ha0 hB1 hs0
  (with_reducible refine (DW.out _).mono ?_)
  rintro e V1 ⟨rfl, hb⟩
  replace C0 := C0.keep hb (by omega)
  replace z0 : w.heap.size + 1 ≤ V1.heap.size := by have := hb.size; omega
  replace HB := Lib.hid (HB.out.trans (hb.mono HB.out.size))
  clear hb
  have K0 := Lib.hid C0
  obtain ⟨o0_0, o0_1, o0_2⟩ := C0
  go_wp2_with fail
  clear o0_0 o0_1 o0_2
  have C0 := K0.out
  clear K0
  (with_reducible refine (D1.out _).mono ?_)
  rintro e V2 ⟨rfl, hb⟩
  replace C0 := C0.keep hb (by omega)
  replace z0 : w.heap.size + 1 ≤ V2.heap.size := by have := hb.size; omega
  replace HB := Lib.hid (HB.out.trans (hb.mono HB.out.size))
  clear hb
  have ba : Below V2.heap.size V2 (V2.alloc (.cells #[.bool false, .string ⟨#[]⟩, .string ⟨#[]⟩, .string ⟨#[]⟩, .int .i64 0, .int .i64 0, .string ⟨#[]⟩, .string ⟨#[]⟩, .int .i64 0] 25)) := (Below.refl _ _).alloc (Nat.le_refl _) _
  replace C0 := C0.keep ba (by omega)
  have C1 : Cells9 (V2.alloc (.cells #[.bool false, .string ⟨#[]⟩, .string ⟨#[]⟩, .string ⟨#[]⟩, .int .i64 0, .int .i64 0, .string ⟨#[]⟩, .string ⟨#[]⟩, .int .i64 0] 25)) V2.heap.size (.bool false) (.string ⟨#[]⟩) (.string ⟨#[]⟩) (.string ⟨#[]⟩) (.int .i64 0) (.int .i64 0) (.string ⟨#[]⟩) (.string ⟨#[]⟩) (.int .i64 0) := (nine_box V2 (.bool false) (.string ⟨#[]⟩) (.string ⟨#[]⟩) (.string ⟨#[]⟩) (.int .i64 0) (.int .i64 0) (.string ⟨#[]⟩) (.string ⟨#[]⟩) (.int .i64 0) 25).2.1
  have z1 : V2.heap.size + 1 ≤ (V2.alloc (.cells #[.bool false, .string ⟨#[]⟩, .string ⟨#[]⟩, .string ⟨#[]⟩, .int .i64 0, .int .i64 0, .string ⟨#[]⟩, .string ⟨#[]⟩, .int .i64 0] 25)).heap.size := by simp
  replace z0 : w.heap.size + 1 ≤ (V2.alloc (.cells #[.bool false, .string ⟨#[]⟩, .string ⟨#[]⟩, .string ⟨#[]⟩, .int .i64 0, .int .i64 0, .string ⟨#[]⟩, .string ⟨#[]⟩, .int .i64 0] 25)).heap.size := by have := ba.size; omega
  replace HB := Lib.hid (HB.out.trans (ba.mono HB.out.size))
  clear ba
  have K0 := Lib.hid C0
  have K1 := Lib.hid C1
  obtain ⟨o0_0, o0_1, o0_2⟩ := C0
  obtain ⟨o1_0, o1_1, o1_2, o1_3, o1_4, o1_5, o1_6, o1_7, o1_8⟩ := C1
  go_wp2_with fail
  clear o0_0 o0_1 o0_2
  have C0 := K0.out
  clear K0
  clear o1_0 o1_1 o1_2 o1_3 o1_4 o1_5 o1_6 o1_7 o1_8
  have C1 := K1.out
  clear K1
  obtain ⟨V2x, hV2x⟩ : ∃ V2x, V2x = (V2.alloc (.cells #[.bool false, .string ⟨#[]⟩, .string ⟨#[]⟩, .string ⟨#[]⟩, .int .i64 0, .int .i64 0, .string ⟨#[]⟩, .string ⟨#[]⟩, .int .i64 0] 25)) := ⟨_, rfl⟩
  rw [← hV2x]
  rw [← hV2x] at HB C0 z0 C1 z1 
  clear hV2x
  (with_reducible refine (D2.out _).mono ?_)
  rintro e V3 ⟨rfl, hb⟩
  replace C0 := C0.keep hb (by omega)
  replace C1 := C1.keep hb (by omega)
  replace z0 : w.heap.size + 1 ≤ V3.heap.size := by have := hb.size; omega
  replace z1 : V2.heap.size + 1 ≤ V3.heap.size := by have := hb.size; omega
  replace HB := Lib.hid (HB.out.trans (hb.mono HB.out.size))
  clear hb
  have K0 := Lib.hid C0
  have K1 := Lib.hid C1
  obtain ⟨o0_0, o0_1, o0_2⟩ := C0
  obtain ⟨o1_0, o1_1, o1_2, o1_3, o1_4, o1_5, o1_6, o1_7, o1_8⟩ := C1
  go_wp2
  go_ret
  exact ⟨rfl, HB.out⟩

set_option maxHeartbeats 4000000 in
set_option maxRecDepth 100000 in
theorem who_yes (dn : Bool) (di df : ByteArray) (xn : Bool) (xi xf xI : ByteArray) (xV : Int) (xF xT : ByteArray) (xE : Int)
    (H1 : ∀ wx : World, Calls Try.prog 13 #[.agg #[.bool dn, .string di, .string df], .int .i64 0] wx fun e w' => e = .returned (.tuple #[.agg #[.bool xn, .string xi, .string xf, .string xI, .int .i64 xV, .int .i64 0, .string xF, .string xT, .int .i64 xE], .int .i64 0]) ∧ Below wx.heap.size wx w')
    (H2 : ∀ (g : Nat) (wx : World), Spn wx g [(⟨#[48]⟩, ⟨#[48]⟩)] → g < wx.heap.size → Calls Try.prog 23 #[.agg #[.bool xn, .string xi, .string xf, .string xI, .int .i64 xV, .int .i64 0, .string xF, .string xT, .int .i64 xE], .agg #[.string ⟨#[110]⟩, .string ⟨#[49]⟩, .bool false, .bool false, .slice (some ⟨g, 0, none⟩) 1 1]] wx fun e w' => e = .returned (.tuple #[.bool true, .int .i64 0]) ∧ Below wx.heap.size wx w') (w : World)
    : Calls Try.prog 8 #[.agg #[.bool dn, .string di, .string df]] w fun e w' => e = .returned (.bool true) ∧ Below w.heap.size w w' := by
  have DW := Lib.hid oawake_any
  have D1 := Lib.hid H1
  have D2 := Lib.hid H2
  clear H1 H2
  go_enter Try.func8, Try.ntmps8
  go_wp2_with fail
  obtain ⟨W0, hW0⟩ : ∃ W0, W0 = (w.alloc (.cells #[.bool dn, .string di, .string df] 23)) := ⟨_, rfl⟩
  have hB0 : Below w.heap.size w w := Below.refl _ _
  have ha0 : Below w.heap.size w (w.alloc (.cells #[.bool dn, .string di, .string df] 23)) := (Below.refl _ _).alloc (Nat.le_refl _) _
  have hB1 := hB0.trans (ha0.mono hB0.size)
  have hs0 : (w.alloc (.cells #[.bool dn, .string di, .string df] 23)).heap.size = w.heap.size + 1 := by simp
  have C0 := (one_box w (.bool dn) (.string di) (.string df) 23).2.1
  rw [← hW0] at hB1 hs0 C0 ⊢
  have z0 : w.heap.size + 1 ≤ W0.heap.size := by omega
  have HB := Lib.hid hB1
  clear hW0 hB0 ha0 hB1 hs0
  (with_reducible refine (DW.out _).mono ?_)
  rintro e V1 ⟨rfl, hb⟩
  replace C0 := C0.keep hb (by omega)
  replace z0 : w.heap.size + 1 ≤ V1.heap.size := by have := hb.size; omega
  replace HB := Lib.hid (HB.out.trans (hb.mono HB.out.size))
  clear hb
  have K0 := Lib.hid C0
  obtain ⟨o0_0, o0_1, o0_2⟩ := C0
  go_wp2_with fail
  clear o0_0 o0_1 o0_2
  have C0 := K0.out
  clear K0
  (with_reducible refine (D1.out _).mono ?_)
  rintro e V2 ⟨rfl, hb⟩
  replace C0 := C0.keep hb (by omega)
  replace z0 : w.heap.size + 1 ≤ V2.heap.size := by have := hb.size; omega
  replace HB := Lib.hid (HB.out.trans (hb.mono HB.out.size))
  clear hb
  have ba : Below V2.heap.size V2 (V2.alloc (.cells #[.bool xn, .string xi, .string xf, .string xI, .int .i64 xV, .int .i64 0, .string xF, .string xT, .int .i64 xE] 25)) := (Below.refl _ _).alloc (Nat.le_refl _) _
  replace C0 := C0.keep ba (by omega)
  have C1 : Cells9 (V2.alloc (.cells #[.bool xn, .string xi, .string xf, .string xI, .int .i64 xV, .int .i64 0, .string xF, .string xT, .int .i64 xE] 25)) V2.heap.size (.bool xn) (.string xi) (.string xf) (.string xI) (.int .i64 xV) (.int .i64 0) (.string xF) (.string xT) (.int .i64 xE) := (nine_box V2 (.bool xn) (.string xi) (.string xf) (.string xI) (.int .i64 xV) (.int .i64 0) (.string xF) (.string xT) (.int .i64 xE) 25).2.1
  have z1 : V2.heap.size + 1 ≤ (V2.alloc (.cells #[.bool xn, .string xi, .string xf, .string xI, .int .i64 xV, .int .i64 0, .string xF, .string xT, .int .i64 xE] 25)).heap.size := by simp
  replace z0 : w.heap.size + 1 ≤ (V2.alloc (.cells #[.bool xn, .string xi, .string xf, .string xI, .int .i64 xV, .int .i64 0, .string xF, .string xT, .int .i64 xE] 25)).heap.size := by have := ba.size; omega
  replace HB := Lib.hid (HB.out.trans (ba.mono HB.out.size))
  clear ba
  have K0 := Lib.hid C0
  have K1 := Lib.hid C1
  obtain ⟨o0_0, o0_1, o0_2⟩ := C0
  obtain ⟨o1_0, o1_1, o1_2, o1_3, o1_4, o1_5, o1_6, o1_7, o1_8⟩ := C1
  go_wp2_with fail
  clear o0_0 o0_1 o0_2
  have C0 := K0.out
  clear K0
  clear o1_0 o1_1 o1_2 o1_3 o1_4 o1_5 o1_6 o1_7 o1_8
  have C1 := K1.out
  clear K1
  have hs : (V2.alloc (.cells #[.bool xn, .string xi, .string xf, .string xI, .int .i64 xV, .int .i64 0, .string xF, .string xT, .int .i64 xE] 25)).heap.size = V2.heap.size + 1 := by simp
  obtain ⟨U, hU⟩ : ∃ U, U = (V2.alloc (.cells #[.bool xn, .string xi, .string xf, .string xI, .int .i64 xV, .int .i64 0, .string xF, .string xT, .int .i64 xE] 25)).alloc (.cells #[.string ⟨#[48]⟩, .string ⟨#[48]⟩] 46) := ⟨_, rfl⟩
  rw [← hU]
  have ba : Below (V2.alloc (.cells #[.bool xn, .string xi, .string xf, .string xI, .int .i64 xV, .int .i64 0, .string xF, .string xT, .int .i64 xE] 25)).heap.size (V2.alloc (.cells #[.bool xn, .string xi, .string xf, .string xI, .int .i64 xV, .int .i64 0, .string xF, .string xT, .int .i64 xE] 25)) U := by rw [hU]; exact (Below.refl _ _).alloc (Nat.le_refl _) _
  have hUs : V2.heap.size + 2 ≤ U.heap.size := by rw [hU]; simp
  have hSp : Spn U (V2.heap.size + 1) [(⟨#[48]⟩, ⟨#[48]⟩)] := by
    obtain ⟨u0, u1⟩ := two_box (V2.alloc (.cells #[.bool xn, .string xi, .string xf, .string xI, .int .i64 xV, .int .i64 0, .string xF, .string xT, .int .i64 xE] 25)) (.string ⟨#[48]⟩) (.string ⟨#[48]⟩) 46
    rw [← hU, hs] at u0 u1
    intro k hk
    obtain rfl : k = 0 := by simp at hk; omega
    exact ⟨u0, u1⟩
  replace C1 := C1.keep ba (by omega)
  have HBU := Lib.hid (HB.out.trans (ba.mono HB.out.size))
  clear hU ba C0 z0 HB hs
  (with_reducible refine (D2.out _ _ ?_ ?_).mono ?_)
  · exact hSp
  · omega
  rintro e V3 ⟨rfl, hb⟩
  replace C1 := C1.keep hb (by omega)
  have HB3 := Lib.hid (HBU.out.trans (hb.mono HBU.out.size))
  clear hb hSp
  obtain ⟨o0, o1, o2, o3, o4, o5, o6, o7, o8⟩ := C1
  go_wp2
  go_ret
  exact ⟨rfl, HB3.out⟩

set_option maxHeartbeats 4000000 in
set_option maxRecDepth 100000 in
theorem who_no (dn : Bool) (di df : ByteArray) (xn : Bool) (xi xf xI : ByteArray) (xV : Int) (Wd : Nat) (xF xT : ByteArray) (xE : Int) (hW : Wd ≠ 0)
    (H1 : ∀ wx : World, Calls Try.prog 13 #[.agg #[.bool dn, .string di, .string df], .int .i64 0] wx fun e w' => e = .returned (.tuple #[.agg #[.bool xn, .string xi, .string xf, .string xI, .int .i64 xV, .int .i64 (Wd : Int), .string xF, .string xT, .int .i64 xE], .int .i64 0]) ∧ Below wx.heap.size wx w')
    (H2 : ∀ (g : Nat) (wx : World), Spn wx g [(⟨#[48]⟩, ⟨#[48]⟩)] → g < wx.heap.size → Calls Try.prog 23 #[.agg #[.bool xn, .string xi, .string xf, .string xI, .int .i64 xV, .int .i64 (Wd : Int), .string xF, .string xT, .int .i64 xE], .agg #[.string ⟨#[110]⟩, .string ⟨#[49]⟩, .bool false, .bool false, .slice (some ⟨g, 0, none⟩) 1 1]] wx fun e w' => e = .returned (.tuple #[.bool false, .int .i64 0]) ∧ Below wx.heap.size wx w') (w : World)
    : Calls Try.prog 8 #[.agg #[.bool dn, .string di, .string df]] w fun e w' => e = .returned (.bool true) ∧ Below w.heap.size w w' := by
  have DW := Lib.hid oawake_any
  have D1 := Lib.hid H1
  have D2 := Lib.hid H2
  clear H1 H2
  have q0 : ((Wd : Int) == 0) = false := beq_eq_false_iff_ne.2 (by omega)
  go_enter Try.func8, Try.ntmps8
  go_wp2_with fail
  obtain ⟨W0, hW0⟩ : ∃ W0, W0 = (w.alloc (.cells #[.bool dn, .string di, .string df] 23)) := ⟨_, rfl⟩
  have hB0 : Below w.heap.size w w := Below.refl _ _
  have ha0 : Below w.heap.size w (w.alloc (.cells #[.bool dn, .string di, .string df] 23)) := (Below.refl _ _).alloc (Nat.le_refl _) _
  have hB1 := hB0.trans (ha0.mono hB0.size)
  have hs0 : (w.alloc (.cells #[.bool dn, .string di, .string df] 23)).heap.size = w.heap.size + 1 := by simp
  have C0 := (one_box w (.bool dn) (.string di) (.string df) 23).2.1
  rw [← hW0] at hB1 hs0 C0 ⊢
  have z0 : w.heap.size + 1 ≤ W0.heap.size := by omega
  have HB := Lib.hid hB1
  clear hW0 hB0 ha0 hB1 hs0
  (with_reducible refine (DW.out _).mono ?_)
  rintro e V1 ⟨rfl, hb⟩
  replace C0 := C0.keep hb (by omega)
  replace z0 : w.heap.size + 1 ≤ V1.heap.size := by have := hb.size; omega
  replace HB := Lib.hid (HB.out.trans (hb.mono HB.out.size))
  clear hb
  have K0 := Lib.hid C0
  obtain ⟨o0_0, o0_1, o0_2⟩ := C0
  go_wp2_with fail
  clear o0_0 o0_1 o0_2
  have C0 := K0.out
  clear K0
  (with_reducible refine (D1.out _).mono ?_)
  rintro e V2 ⟨rfl, hb⟩
  replace C0 := C0.keep hb (by omega)
  replace z0 : w.heap.size + 1 ≤ V2.heap.size := by have := hb.size; omega
  replace HB := Lib.hid (HB.out.trans (hb.mono HB.out.size))
  clear hb
  have ba : Below V2.heap.size V2 (V2.alloc (.cells #[.bool xn, .string xi, .string xf, .string xI, .int .i64 xV, .int .i64 (Wd : Int), .string xF, .string xT, .int .i64 xE] 25)) := (Below.refl _ _).alloc (Nat.le_refl _) _
  replace C0 := C0.keep ba (by omega)
  have C1 : Cells9 (V2.alloc (.cells #[.bool xn, .string xi, .string xf, .string xI, .int .i64 xV, .int .i64 (Wd : Int), .string xF, .string xT, .int .i64 xE] 25)) V2.heap.size (.bool xn) (.string xi) (.string xf) (.string xI) (.int .i64 xV) (.int .i64 (Wd : Int)) (.string xF) (.string xT) (.int .i64 xE) := (nine_box V2 (.bool xn) (.string xi) (.string xf) (.string xI) (.int .i64 xV) (.int .i64 (Wd : Int)) (.string xF) (.string xT) (.int .i64 xE) 25).2.1
  have z1 : V2.heap.size + 1 ≤ (V2.alloc (.cells #[.bool xn, .string xi, .string xf, .string xI, .int .i64 xV, .int .i64 (Wd : Int), .string xF, .string xT, .int .i64 xE] 25)).heap.size := by simp
  replace z0 : w.heap.size + 1 ≤ (V2.alloc (.cells #[.bool xn, .string xi, .string xf, .string xI, .int .i64 xV, .int .i64 (Wd : Int), .string xF, .string xT, .int .i64 xE] 25)).heap.size := by have := ba.size; omega
  replace HB := Lib.hid (HB.out.trans (ba.mono HB.out.size))
  clear ba
  have K0 := Lib.hid C0
  have K1 := Lib.hid C1
  obtain ⟨o0_0, o0_1, o0_2⟩ := C0
  obtain ⟨o1_0, o1_1, o1_2, o1_3, o1_4, o1_5, o1_6, o1_7, o1_8⟩ := C1
  go_wp2_with fail
  clear o0_0 o0_1 o0_2
  have C0 := K0.out
  clear K0
  clear o1_0 o1_1 o1_2 o1_3 o1_4 o1_5 o1_6 o1_7 o1_8
  have C1 := K1.out
  clear K1
  have hs : (V2.alloc (.cells #[.bool xn, .string xi, .string xf, .string xI, .int .i64 xV, .int .i64 (Wd : Int), .string xF, .string xT, .int .i64 xE] 25)).heap.size = V2.heap.size + 1 := by simp
  obtain ⟨U, hU⟩ : ∃ U, U = (V2.alloc (.cells #[.bool xn, .string xi, .string xf, .string xI, .int .i64 xV, .int .i64 (Wd : Int), .string xF, .string xT, .int .i64 xE] 25)).alloc (.cells #[.string ⟨#[48]⟩, .string ⟨#[48]⟩] 46) := ⟨_, rfl⟩
  rw [← hU]
  have ba : Below (V2.alloc (.cells #[.bool xn, .string xi, .string xf, .string xI, .int .i64 xV, .int .i64 (Wd : Int), .string xF, .string xT, .int .i64 xE] 25)).heap.size (V2.alloc (.cells #[.bool xn, .string xi, .string xf, .string xI, .int .i64 xV, .int .i64 (Wd : Int), .string xF, .string xT, .int .i64 xE] 25)) U := by rw [hU]; exact (Below.refl _ _).alloc (Nat.le_refl _) _
  have hUs : V2.heap.size + 2 ≤ U.heap.size := by rw [hU]; simp
  have hSp : Spn U (V2.heap.size + 1) [(⟨#[48]⟩, ⟨#[48]⟩)] := by
    obtain ⟨u0, u1⟩ := two_box (V2.alloc (.cells #[.bool xn, .string xi, .string xf, .string xI, .int .i64 xV, .int .i64 (Wd : Int), .string xF, .string xT, .int .i64 xE] 25)) (.string ⟨#[48]⟩) (.string ⟨#[48]⟩) 46
    rw [← hU, hs] at u0 u1
    intro k hk
    obtain rfl : k = 0 := by simp at hk; omega
    exact ⟨u0, u1⟩
  replace C1 := C1.keep ba (by omega)
  have HBU := Lib.hid (HB.out.trans (ba.mono HB.out.size))
  clear hU ba C0 z0 HB hs
  (with_reducible refine (D2.out _ _ ?_ ?_).mono ?_)
  · exact hSp
  · omega
  rintro e V3 ⟨rfl, hb⟩
  replace C1 := C1.keep hb (by omega)
  have HB3 := Lib.hid (HBU.out.trans (hb.mono HBU.out.size))
  clear hb hSp
  obtain ⟨o0, o1, o2, o3, o4, o5, o6, o7, o8⟩ := C1
  go_wp2
  go_ret
  exact ⟨rfl, HB3.out⟩

end Go.Proofs.Ytcdmanhhddcmcaa
