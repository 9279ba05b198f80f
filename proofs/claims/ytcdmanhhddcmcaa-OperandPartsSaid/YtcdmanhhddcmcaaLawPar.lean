/- OperandParts: the operands put together again are the number. -/
import Derived.Test.YtcdmanhhddcmcaaOpH
import Derived.Deep.DeepCutAuto
import Derived.Deep.QuietTactic
import Derived.BigQuiet
import Derived.Deep.RegionHeld3
namespace Go.Proofs.Ytcdmanhhddcmcaa
open Go.RowKit
attribute [local go_sem ↓] Go.wp_at_zero Go.wp_at_succ
theorem nine_drew {W : World} {b : Nat} {x0 x1 x2 x3 x4 x5 x6 x7 x8 : Value} (h : Cells9 W b x0 x1 x2 x3 x4 x5 x6 x7 x8) : Cells9 W.drew b x0 x1 x2 x3 x4 x5 x6 x7 x8 := h
theorem three_drew {W : World} {b : Nat} {x0 x1 x2 : Value} (h : Cells3 W b x0 x1 x2) : Cells3 W.drew b x0 x1 x2 := h
theorem drewN_below {B : Nat} {w W : World} (h : Below B w W) (n : Nat) : Below B w (W.drewN n) := h.trans ⟨rfl, rfl, rfl, Nat.le_refl _, fun _ _ => rfl⟩
theorem set_neg {W : World} {b : Nat} {x0 x1 x2 y : Value} (h : Cells3 W b x0 x1 x2) : Cells3 (W.setCell ⟨b, 0, none⟩ y) b y x1 x2 :=
  ⟨cell_set_same _ _ _ _ h.1, cell_set_far _ _ _ _ _ _ (by decide) h.2.1, cell_set_far _ _ _ _ _ _ (by decide) h.2.2⟩

set_option maxHeartbeats 4000000 in
set_option maxRecDepth 100000 in
theorem par_err (dn : Bool) (di df : ByteArray) (n : Int) (c : Int) (hc : (c == 0) = false)
    (H1 : ∀ wx : World, Calls Try.prog 13 #[.agg #[.bool dn, .string di, .string df], .int .i64 n] wx fun e w' => e = .returned (.tuple #[.agg #[.bool false, .string ⟨#[]⟩, .string ⟨#[]⟩, .string ⟨#[]⟩, .int .i64 0, .int .i64 0, .string ⟨#[]⟩, .string ⟨#[]⟩, .int .i64 0], .int .i64 c]) ∧ Below wx.heap.size wx w') (w : World)
    : Calls Try.prog 5 #[.agg #[.bool dn, .string di, .string df], .int .i64 n] w fun e w' => e = .returned (.bool true) ∧ Below w.heap.size w w' := by
  have DW := Lib.hid oawake_any
  have D1 := Lib.hid H1
  clear H1
  go_enter Try.func5, Try.ntmps5
  go_wp2_with fail
  obtain ⟨W0, hW0⟩ : ∃ W0, W0 = (w.alloc (.cells #[.bool dn, .string di, .string df] 23)) := ⟨_, rfl⟩
  have hB0 : Below w.heap.size w w := Below.refl _ _
  have ha0 : Below w.heap.size w (w.alloc (.cells #[.bool dn, .string di, .string df] 23)) := (Below.refl _ _).alloc (Nat.le_refl _) _
  have hB1 := hB0.trans (ha0.mono hB0.size)
  have hs0 : (w.alloc (.cells #[.bool dn, .string di, .string df] 23)).heap.size = w.heap.size + 1 := by simp
  have C0 := (one_box w (.bool dn) (.string di) (.string df) 23).2.1
  rw [← hW0] at hB1 hs0 C0 ⊢
  have z0 : w.heap.size + 1 ≤ W0.heap.size := by omega
  have HB := Lib.hid hB1
  clear hW0 hB0 ha0 hB1 hs0
  (with_reducible refine (DW.out _).mono ?_)
  rintro e V1 ⟨rfl, hb⟩
  replace C0 := C0.keep hb (by omega)
  replace z0 : w.heap.size + 1 ≤ V1.heap.size := by have := hb.size; omega
  replace HB := Lib.hid (HB.out.trans (hb.mono HB.out.size))
  clear hb
  have K0 := Lib.hid C0
  obtain ⟨o0_0, o0_1, o0_2⟩ := C0
  go_wp2_with fail
  clear o0_0 o0_1 o0_2
  have C0 := K0.out
  clear K0
  (with_reducible refine (D1.out _).mono ?_)
  rintro e V2 ⟨rfl, hb⟩
  replace C0 := C0.keep hb (by omega)
  replace z0 : w.heap.size + 1 ≤ V2.heap.size := by have := hb.size; omega
  replace HB := Lib.hid (HB.out.trans (hb.mono HB.out.size))
  clear hb
  have ba : Below V2.heap.size V2 (V2.alloc (.cells #[.bool false, .string ⟨#[]⟩, .string ⟨#[]⟩, .string ⟨#[]⟩, .int .i64 0, .int .i64 0, .string ⟨#[]⟩, .string ⟨#[]⟩, .int .i64 0] 25)) := (Below.refl _ _).alloc (Nat.le_refl _) _
  replace C0 := C0.keep ba (by omega)
  have C1 : Cells9 (V2.alloc (.cells #[.bool false, .string ⟨#[]⟩, .string ⟨#[]⟩, .string ⟨#[]⟩, .int .i64 0, .int .i64 0, .string ⟨#[]⟩, .string ⟨#[]⟩, .int .i64 0] 25)) V2.heap.size (.bool false) (.string ⟨#[]⟩) (.string ⟨#[]⟩) (.string ⟨#[]⟩) (.int .i64 0) (.int .i64 0) (.string ⟨#[]⟩) (.string ⟨#[]⟩) (.int .i64 0) := (nine_box V2 (.bool false) (.string ⟨#[]⟩) (.string ⟨#[]⟩) (.string ⟨#[]⟩) (.int .i64 0) (.int .i64 0) (.string ⟨#[]⟩) (.string ⟨#[]⟩) (.int .i64 0) 25).2.1
  have z1 : V2.heap.size + 1 ≤ (V2.alloc (.cells #[.bool false, .string ⟨#[]⟩, .string ⟨#[]⟩, .string ⟨#[]⟩, .int .i64 0, .int .i64 0, .string ⟨#[]⟩, .string ⟨#[]⟩, .int .i64 0] 25)).heap.size := by simp
  replace z0 : w.heap.size + 1 ≤ (V2.alloc (.cells #[.bool false, .string ⟨#[]⟩, .string ⟨#[]⟩, .string ⟨#[]⟩, .int .i64 0, .int .i64 0, .string ⟨#[]⟩, .string ⟨#[]⟩, .int .i64 0] 25)).heap.size := by have := ba.size; omega
  replace HB := Lib.hid (HB.out.trans (ba.mono HB.out.size))
  clear ba
  have K0 := Lib.hid C0
  have K1 := Lib.hid C1
  obtain ⟨o0_0, o0_1, o0_2⟩ := C0
  obtain ⟨o1_0, o1_1, o1_2, o1_3, o1_4, o1_5, o1_6, o1_7, o1_8⟩ := C1
  go_wp2
  go_ret
  exact ⟨rfl, HB.out⟩

set_option maxHeartbeats 4000000 in
set_option maxRecDepth 100000 in
theorem par_same (dn : Bool) (di df : ByteArray) (n : Int) (xn : Bool) (i xf F : ByteArray) (V : Nat) (hV : V ≤ 40)
    (H1 : ∀ wx : World, Calls Try.prog 13 #[.agg #[.bool dn, .string di, .string df], .int .i64 n] wx fun e w' => e = .returned (.tuple #[.agg #[.bool false, .string i, .string xf, .string i, .int .i64 (V : Int), .int .i64 (V : Int), .string F, .string F, .int .i64 n], .int .i64 0]) ∧ Below wx.heap.size wx w')
    (H2 : ∀ wx : World, Calls Try.prog 18 #[.agg #[.bool dn, .string di, .string df], .int .i64 n] wx fun e w' => e = .returned (.tuple #[.agg #[.bool xn, .string i, .string xf], .int .i64 0]) ∧ Below wx.heap.size wx w')
    (H3 : ∀ wx : World, Calls Try.prog 20 #[.string F, .int .i64 (V : Int)] wx fun e w' => e = .returned (.string xf) ∧ wx = w')
    (H4 : ∀ wx : World, Calls Try.prog 20 #[.string F, .int .i64 (V : Int)] wx fun e w' => e = .returned (.string xf) ∧ wx = w')
    (H5 : ∀ wx : World, Calls Try.prog 21 #[.agg #[.bool false, .string i, .string xf], .int .i64 (V : Int)] wx fun e w' => e = .returned (.tuple #[.agg #[.bool false, .string i, .string xf], .int .i64 0]) ∧ Below wx.heap.size wx w') (w : World)
    : Calls Try.prog 5 #[.agg #[.bool dn, .string di, .string df], .int .i64 n] w fun e w' => e = .returned (.bool true) ∧ Below w.heap.size w w' := by
  have DW := Lib.hid oawake_any
  have D1 := Lib.hid H1
  have D2 := Lib.hid H2
  have D3 := Lib.hid H3
  have D4 := Lib.hid H4
  have D5 := Lib.hid H5
  clear H1 H2 H3 H4 H5
  have q0 : decide ((V : Int) < (V : Int)) = false := decide_eq_false (by omega)
  have q1 : decide ((V : Int) < 0) = false := decide_eq_false (by omega)
  have q2 : decide ((40 : Int) < (V : Int)) = false := decide_eq_false (by omega)
  have q3 : ((V : Int) == (V : Int)) = true := beq_self_eq_true _
  have q4 : (F.toList != F.toList) = false := by simp
  go_enter Try.func5, Try.ntmps5
  go_wp2_with fail
  obtain ⟨W0, hW0⟩ : ∃ W0, W0 = (w.alloc (.cells #[.bool dn, .string di, .string df] 23)) := ⟨_, rfl⟩
  have hB0 : Below w.heap.size w w := Below.refl _ _
  have ha0 : Below w.heap.size w (w.alloc (.cells #[.bool dn, .string di, .string df] 23)) := (Below.refl _ _).alloc (Nat.le_refl _) _
  have hB1 := hB0.trans (ha0.mono hB0.size)
  have hs0 : (w.alloc (.cells #[.bool dn, .string di, .string df] 23)).heap.size = w.heap.size + 1 := by simp
  have C0 := (one_box w (.bool dn) (.string di) (.string df) 23).2.1
  rw [← hW0] at hB1 hs0 C0 ⊢
  have z0 : w.heap.size + 1 ≤ W0.heap.size := by omega
  have HB := Lib.hid hB1
  clear hW0 hB0 ha0 hB1 hs0
  (with_reducible refine (DW.out _).mono ?_)
  rintro e V1 ⟨rfl, hb⟩
  replace C0 := C0.keep hb (by omega)
  replace z0 : w.heap.size + 1 ≤ V1.heap.size := by have := hb.size; omega
  replace HB := Lib.hid (HB.out.trans (hb.mono HB.out.size))
  clear hb
  have K0 := Lib.hid C0
  obtain ⟨o0_0, o0_1, o0_2⟩ := C0
  go_wp2_with fail
  clear o0_0 o0_1 o0_2
  have C0 := K0.out
  clear K0
  (with_reducible refine (D1.out _).mono ?_)
  rintro e V2 ⟨rfl, hb⟩
  replace C0 := C0.keep hb (by omega)
  replace z0 : w.heap.size + 1 ≤ V2.heap.size := by have := hb.size; omega
  replace HB := Lib.hid (HB.out.trans (hb.mono HB.out.size))
  clear hb
  have ba : Below V2.heap.size V2 (V2.alloc (.cells #[.bool false, .string i, .string xf, .string i, .int .i64 (V : Int), .int .i64 (V : Int), .string F, .string F, .int .i64 n] 25)) := (Below.refl _ _).alloc (Nat.le_refl _) _
  replace C0 := C0.keep ba (by omega)
  have C1 : Cells9 (V2.alloc (.cells #[.bool false, .string i, .string xf, .string i, .int .i64 (V : Int), .int .i64 (V : Int), .string F, .string F, .int .i64 n] 25)) V2.heap.size (.bool false) (.string i) (.string xf) (.string i) (.int .i64 (V : Int)) (.int .i64 (V : Int)) (.string F) (.string F) (.int .i64 n) := (nine_box V2 (.bool false) (.string i) (.string xf) (.string i) (.int .i64 (V : Int)) (.int .i64 (V : Int)) (.string F) (.string F) (.int .i64 n) 25).2.1
  have z1 : V2.heap.size + 1 ≤ (V2.alloc (.cells #[.bool false, .string i, .string xf, .string i, .int .i64 (V : Int), .int .i64 (V : Int), .string F, .string F, .int .i64 n] 25)).heap.size := by simp
  replace z0 : w.heap.size + 1 ≤ (V2.alloc (.cells #[.bool false, .string i, .string xf, .string i, .int .i64 (V : Int), .int .i64 (V : Int), .string F, .string F, .int .i64 n] 25)).heap.size := by have := ba.size; omega
  replace HB := Lib.hid (HB.out.trans (ba.mono HB.out.size))
  clear ba
  have K0 := Lib.hid C0
  have K1 := Lib.hid C1
  obtain ⟨o0_0, o0_1, o0_2⟩ := C0
  obtain ⟨o1_0, o1_1, o1_2, o1_3, o1_4, o1_5, o1_6, o1_7, o1_8⟩ := C1
  go_wp2_with fail
  clear o0_0 o0_1 o0_2
  have C0 := K0.out
  clear K0
  clear o1_0 o1_1 o1_2 o1_3 o1_4 o1_5 o1_6 o1_7 o1_8
  have C1 := K1.out
  clear K1
  obtain ⟨V2x, hV2x⟩ : ∃ V2x, V2x = (V2.alloc (.cells #[.bool false, .string i, .string xf, .string i, .int .i64 (V : Int), .int .i64 (V : Int), .string F, .string F, .int .i64 n] 25)) := ⟨_, rfl⟩
  rw [← hV2x]
  rw [← hV2x] at HB C0 z0 C1 z1 
  clear hV2x
  (with_reducible refine (D2.out _).mono ?_)
  rintro e V3 ⟨rfl, hb⟩
  replace C0 := C0.keep hb (by omega)
  replace C1 := C1.keep hb (by omega)
  replace z0 : w.heap.size + 1 ≤ V3.heap.size := by have := hb.size; omega
  replace z1 : V2.heap.size + 1 ≤ V3.heap.size := by have := hb.size; omega
  replace HB := Lib.hid (HB.out.trans (hb.mono HB.out.size))
  clear hb
  have K0 := Lib.hid C0
  have K1 := Lib.hid C1
  obtain ⟨o0_0, o0_1, o0_2⟩ := C0
  obtain ⟨o1_0, o1_1, o1_2, o1_3, o1_4, o1_5, o1_6, o1_7, o1_8⟩ := C1
  go_wp2_with fail
  clear o0_0 o0_1 o0_2
  have C0 := K0.out
  clear K0
  clear o1_0 o1_1 o1_2 o1_3 o1_4 o1_5 o1_6 o1_7 o1_8
  have C1 := K1.out
  clear K1
  obtain ⟨V3y, hV3y⟩ : ∃ V3y, V3y = (V3.alloc (.cells #[.bool false, .string i, .string xf] 23)) := ⟨_, rfl⟩
  rw [← hV3y]
  have ba : Below V3.heap.size V3 V3y := by rw [hV3y]; exact (Below.refl _ _).alloc (Nat.le_refl _) _
  have y0_2 := Lib.hid z0
  replace C0 := C0.keep ba (by omega)
  have y1_2 := Lib.hid z1
  replace C1 := C1.keep ba (by omega)
  have C2 : Cells3 V3y V3.heap.size (.bool false) (.string i) (.string xf) := by rw [hV3y]; exact (one_box V3 (.bool false) (.string i) (.string xf) 23).2.1
  have z2 : V3.heap.size + 1 ≤ V3y.heap.size := by rw [hV3y]; simp
  replace z0 : w.heap.size + 1 ≤ V3y.heap.size := by have := ba.size; omega
  replace z1 : V2.heap.size + 1 ≤ V3y.heap.size := by have := ba.size; omega
  replace HB := Lib.hid (HB.out.trans (ba.mono HB.out.size))
  clear ba hV3y
  have K0 := Lib.hid C0
  have K1 := Lib.hid C1
  have K2 := Lib.hid C2
  obtain ⟨o0_0, o0_1, o0_2⟩ := C0
  obtain ⟨o1_0, o1_1, o1_2, o1_3, o1_4, o1_5, o1_6, o1_7, o1_8⟩ := C1
  obtain ⟨o2_0, o2_1, o2_2⟩ := C2
  go_region_held3 (fun w' => w'.cell? ⟨V2.heap.size, 0, none⟩ = some (.bool false) ∧ w'.cell? ⟨V2.heap.size, 1, none⟩ = some (.string i) ∧ w'.cell? ⟨V2.heap.size, 2, none⟩ = some (.string xf) ∧ w'.cell? ⟨V2.heap.size, 3, none⟩ = some (.string i) ∧ w'.cell? ⟨V2.heap.size, 4, none⟩ = some (.int .i64 (V : Int)) ∧ w'.cell? ⟨V2.heap.size, 5, none⟩ = some (.int .i64 (V : Int)) ∧ w'.cell? ⟨V2.heap.size, 6, none⟩ = some (.string F) ∧ w'.cell? ⟨V2.heap.size, 7, none⟩ = some (.string F) ∧ w'.cell? ⟨V2.heap.size, 8, none⟩ = some (.int .i64 n) ∧ w'.cell? ⟨V3.heap.size, 0, none⟩ = some (.bool false) ∧ w'.cell? ⟨V3.heap.size, 1, none⟩ = some (.string i) ∧ w'.cell? ⟨V3.heap.size, 2, none⟩ = some (.string xf))
    (first | (with_reducible exact ⟨o1_0, o1_1, o1_2, o1_3, o1_4, o1_5, o1_6, o1_7, o1_8, o2_0, o2_1, o2_2⟩) | (with_reducible exact ⟨(drew_cell _ _).trans o1_0, (drew_cell _ _).trans o1_1, (drew_cell _ _).trans o1_2, (drew_cell _ _).trans o1_3, (drew_cell _ _).trans o1_4, (drew_cell _ _).trans o1_5, (drew_cell _ _).trans o1_6, (drew_cell _ _).trans o1_7, (drew_cell _ _).trans o1_8, (drew_cell _ _).trans o2_0, (drew_cell _ _).trans o2_1, (drew_cell _ _).trans o2_2⟩))
    (first
      | (go_at_call 20; (with_reducible refine (D3.out _).mono ?_); rintro e wA ⟨rfl, rfl⟩)
      | (go_at_call 20; (with_reducible refine (D4.out _).mono ?_); rintro e wB ⟨rfl, rfl⟩))
  go_wp2_with fail
  clear o0_0 o0_1 o0_2
  have C0 := K0.out
  clear K0
  clear o1_0 o1_1 o1_2 o1_3 o1_4 o1_5 o1_6 o1_7 o1_8
  have C1 := K1.out
  clear K1
  clear o2_0 o2_1 o2_2
  have C2 := K2.out
  clear K2
  obtain ⟨V3yd, hV3yd⟩ : ∃ V3yd, V3yd = V3y.drew := ⟨_, rfl⟩
  rw [← hV3yd]
  replace C0 : Cells3 V3yd w.heap.size (.bool dn) (.string di) (.string df) := by rw [hV3yd]; exact three_drew C0
  replace z0 : w.heap.size + 1 ≤ V3yd.heap.size := by rw [hV3yd]; exact z0
  replace C1 : Cells9 V3yd V2.heap.size (.bool false) (.string i) (.string xf) (.string i) (.int .i64 (V : Int)) (.int .i64 (V : Int)) (.string F) (.string F) (.int .i64 n) := by rw [hV3yd]; exact nine_drew C1
  replace z1 : V2.heap.size + 1 ≤ V3yd.heap.size := by rw [hV3yd]; exact z1
  replace C2 : Cells3 V3yd V3.heap.size (.bool false) (.string i) (.string xf) := by rw [hV3yd]; exact three_drew C2
  replace z2 : V3.heap.size + 1 ≤ V3yd.heap.size := by rw [hV3yd]; exact z2
  replace HB : Hid (Below w.heap.size w V3yd) := by rw [hV3yd]; exact drew1 HB.out
  clear hV3yd
  (with_reducible refine (D5.out _).mono ?_)
  rintro e V4 ⟨rfl, hb⟩
  replace C0 := C0.keep hb (by omega)
  replace C1 := C1.keep hb (by omega)
  replace C2 := C2.keep hb (by omega)
  replace z0 : w.heap.size + 1 ≤ V4.heap.size := by have := hb.size; omega
  replace z1 : V2.heap.size + 1 ≤ V4.heap.size := by have := hb.size; omega
  replace z2 : V3.heap.size + 1 ≤ V4.heap.size := by have := hb.size; omega
  replace HB := Lib.hid (HB.out.trans (hb.mono HB.out.size))
  clear hb
  have ba : Below V4.heap.size V4 (V4.alloc (.cells #[.bool false, .string i, .string xf] 23)) := (Below.refl _ _).alloc (Nat.le_refl _) _
  replace C0 := C0.keep ba (by omega)
  replace C1 := C1.keep ba (by omega)
  replace C2 := C2.keep ba (by omega)
  have C3 : Cells3 (V4.alloc (.cells #[.bool false, .string i, .string xf] 23)) V4.heap.size (.bool false) (.string i) (.string xf) := (one_box V4 (.bool false) (.string i) (.string xf) 23).2.1
  have z3 : V4.heap.size + 1 ≤ (V4.alloc (.cells #[.bool false, .string i, .string xf] 23)).heap.size := by simp
  replace z0 : w.heap.size + 1 ≤ (V4.alloc (.cells #[.bool false, .string i, .string xf] 23)).heap.size := by have := ba.size; omega
  replace z1 : V2.heap.size + 1 ≤ (V4.alloc (.cells #[.bool false, .string i, .string xf] 23)).heap.size := by have := ba.size; omega
  replace z2 : V3.heap.size + 1 ≤ (V4.alloc (.cells #[.bool false, .string i, .string xf] 23)).heap.size := by have := ba.size; omega
  replace HB := Lib.hid (HB.out.trans (ba.mono HB.out.size))
  clear ba
  have K0 := Lib.hid C0
  have K1 := Lib.hid C1
  have K2 := Lib.hid C2
  have K3 := Lib.hid C3
  obtain ⟨o0_0, o0_1, o0_2⟩ := C0
  obtain ⟨o1_0, o1_1, o1_2, o1_3, o1_4, o1_5, o1_6, o1_7, o1_8⟩ := C1
  obtain ⟨o2_0, o2_1, o2_2⟩ := C2
  obtain ⟨o3_0, o3_1, o3_2⟩ := C3
  go_wp2
  go_ret
  exact ⟨rfl, HB.out⟩

set_option maxHeartbeats 4000000 in
set_option maxRecDepth 100000 in
theorem par_diff (dn : Bool) (di df : ByteArray) (n : Int) (xn : Bool) (i xf F : ByteArray) (V : Nat) (hV : V ≤ 40) (T tf : ByteArray) (Wd : Nat) (hW : Wd < V)
    (H1 : ∀ wx : World, Calls Try.prog 13 #[.agg #[.bool dn, .string di, .string df], .int .i64 n] wx fun e w' => e = .returned (.tuple #[.agg #[.bool false, .string i, .string tf, .string i, .int .i64 (V : Int), .int .i64 (Wd : Int), .string F, .string T, .int .i64 n], .int .i64 0]) ∧ Below wx.heap.size wx w')
    (H2 : ∀ wx : World, Calls Try.prog 18 #[.agg #[.bool dn, .string di, .string df], .int .i64 n] wx fun e w' => e = .returned (.tuple #[.agg #[.bool xn, .string i, .string xf], .int .i64 0]) ∧ Below wx.heap.size wx w')
    (H3 : ∀ wx : World, Calls Try.prog 20 #[.string F, .int .i64 (V : Int)] wx fun e w' => e = .returned (.string xf) ∧ wx = w')
    (H4 : ∀ wx : World, Calls Try.prog 20 #[.string T, .int .i64 (Wd : Int)] wx fun e w' => e = .returned (.string tf) ∧ wx = w')
    (H5 : ∀ wx : World, Calls Try.prog 21 #[.agg #[.bool false, .string i, .string tf], .int .i64 (V : Int)] wx fun e w' => e = .returned (.tuple #[.agg #[.bool false, .string i, .string xf], .int .i64 0]) ∧ Below wx.heap.size wx w') (w : World)
    : Calls Try.prog 5 #[.agg #[.bool dn, .string di, .string df], .int .i64 n] w fun e w' => e = .returned (.bool true) ∧ Below w.heap.size w w' := by
  have DW := Lib.hid oawake_any
  have D1 := Lib.hid H1
  have D2 := Lib.hid H2
  have D3 := Lib.hid H3
  have D4 := Lib.hid H4
  have D5 := Lib.hid H5
  clear H1 H2 H3 H4 H5
  have q0 : decide ((V : Int) < (Wd : Int)) = false := decide_eq_false (by omega)
  have q1 : decide ((Wd : Int) < 0) = false := decide_eq_false (by omega)
  have q2 : decide ((40 : Int) < (V : Int)) = false := decide_eq_false (by omega)
  have q3 : ((V : Int) == (Wd : Int)) = false := beq_eq_false_iff_ne.2 (by omega)
  go_enter Try.func5, Try.ntmps5
  go_wp2_with fail
  obtain ⟨W0, hW0⟩ : ∃ W0, W0 = (w.alloc (.cells #[.bool dn, .string di, .string df] 23)) := ⟨_, rfl⟩
  have hB0 : Below w.heap.size w w := Below.refl _ _
  have ha0 : Below w.heap.size w (w.alloc (.cells #[.bool dn, .string di, .string df] 23)) := (Below.refl _ _).alloc (Nat.le_refl _) _
  have hB1 := hB0.trans (ha0.mono hB0.size)
  have hs0 : (w.alloc (.cells #[.bool dn, .string di, .string df] 23)).heap.size = w.heap.size + 1 := by simp
  have C0 := (one_box w (.bool dn) (.string di) (.string df) 23).2.1
  rw [← hW0] at hB1 hs0 C0 ⊢
  have z0 : w.heap.size + 1 ≤ W0.heap.size := by omega
  have HB := Lib.hid hB1
  clear hW0 hB0 ha0 hB1 hs0
  (with_reducible refine (DW.out _).mono ?_)
  rintro e V1 ⟨rfl, hb⟩
  replace C0 := C0.keep hb (by omega)
  replace z0 : w.heap.size + 1 ≤ V1.heap.size := by have := hb.size; omega
  replace HB := Lib.hid (HB.out.trans (hb.mono HB.out.size))
  clear hb
  have K0 := Lib.hid C0
  obtain ⟨o0_0, o0_1, o0_2⟩ := C0
  go_wp2_with fail
  clear o0_0 o0_1 o0_2
  have C0 := K0.out
  clear K0
  (with_reducible refine (D1.out _).mono ?_)
  rintro e V2 ⟨rfl, hb⟩
  replace C0 := C0.keep hb (by omega)
  replace z0 : w.heap.size + 1 ≤ V2.heap.size := by have := hb.size; omega
  replace HB := Lib.hid (HB.out.trans (hb.mono HB.out.size))
  clear hb
  have ba : Below V2.heap.size V2 (V2.alloc (.cells #[.bool false, .string i, .string tf, .string i, .int .i64 (V : Int), .int .i64 (Wd : Int), .string F, .string T, .int .i64 n] 25)) := (Below.refl _ _).alloc (Nat.le_refl _) _
  replace C0 := C0.keep ba (by omega)
  have C1 : Cells9 (V2.alloc (.cells #[.bool false, .string i, .string tf, .string i, .int .i64 (V : Int), .int .i64 (Wd : Int), .string F, .string T, .int .i64 n] 25)) V2.heap.size (.bool false) (.string i) (.string tf) (.string i) (.int .i64 (V : Int)) (.int .i64 (Wd : Int)) (.string F) (.string T) (.int .i64 n) := (nine_box V2 (.bool false) (.string i) (.string tf) (.string i) (.int .i64 (V : Int)) (.int .i64 (Wd : Int)) (.string F) (.string T) (.int .i64 n) 25).2.1
  have z1 : V2.heap.size + 1 ≤ (V2.alloc (.cells #[.bool false, .string i, .string tf, .string i, .int .i64 (V : Int), .int .i64 (Wd : Int), .string F, .string T, .int .i64 n] 25)).heap.size := by simp
  replace z0 : w.heap.size + 1 ≤ (V2.alloc (.cells #[.bool false, .string i, .string tf, .string i, .int .i64 (V : Int), .int .i64 (Wd : Int), .string F, .string T, .int .i64 n] 25)).heap.size := by have := ba.size; omega
  replace HB := Lib.hid (HB.out.trans (ba.mono HB.out.size))
  clear ba
  have K0 := Lib.hid C0
  have K1 := Lib.hid C1
  obtain ⟨o0_0, o0_1, o0_2⟩ := C0
  obtain ⟨o1_0, o1_1, o1_2, o1_3, o1_4, o1_5, o1_6, o1_7, o1_8⟩ := C1
  go_wp2_with fail
  clear o0_0 o0_1 o0_2
  have C0 := K0.out
  clear K0
  clear o1_0 o1_1 o1_2 o1_3 o1_4 o1_5 o1_6 o1_7 o1_8
  have C1 := K1.out
  clear K1
  obtain ⟨V2x, hV2x⟩ : ∃ V2x, V2x = (V2.alloc (.cells #[.bool false, .string i, .string tf, .string i, .int .i64 (V : Int), .int .i64 (Wd : Int), .string F, .string T, .int .i64 n] 25)) := ⟨_, rfl⟩
  rw [← hV2x]
  rw [← hV2x] at HB C0 z0 C1 z1 
  clear hV2x
  (with_reducible refine (D2.out _).mono ?_)
  rintro e V3 ⟨rfl, hb⟩
  replace C0 := C0.keep hb (by omega)
  replace C1 := C1.keep hb (by omega)
  replace z0 : w.heap.size + 1 ≤ V3.heap.size := by have := hb.size; omega
  replace z1 : V2.heap.size + 1 ≤ V3.heap.size := by have := hb.size; omega
  replace HB := Lib.hid (HB.out.trans (hb.mono HB.out.size))
  clear hb
  have K0 := Lib.hid C0
  have K1 := Lib.hid C1
  obtain ⟨o0_0, o0_1, o0_2⟩ := C0
  obtain ⟨o1_0, o1_1, o1_2, o1_3, o1_4, o1_5, o1_6, o1_7, o1_8⟩ := C1
  go_wp2_with fail
  clear o0_0 o0_1 o0_2
  have C0 := K0.out
  clear K0
  clear o1_0 o1_1 o1_2 o1_3 o1_4 o1_5 o1_6 o1_7 o1_8
  have C1 := K1.out
  clear K1
  obtain ⟨V3y, hV3y⟩ : ∃ V3y, V3y = (V3.alloc (.cells #[.bool false, .string i, .string xf] 23)) := ⟨_, rfl⟩
  rw [← hV3y]
  have ba : Below V3.heap.size V3 V3y := by rw [hV3y]; exact (Below.refl _ _).alloc (Nat.le_refl _) _
  have y0_2 := Lib.hid z0
  replace C0 := C0.keep ba (by omega)
  have y1_2 := Lib.hid z1
  replace C1 := C1.keep ba (by omega)
  have C2 : Cells3 V3y V3.heap.size (.bool false) (.string i) (.string xf) := by rw [hV3y]; exact (one_box V3 (.bool false) (.string i) (.string xf) 23).2.1
  have z2 : V3.heap.size + 1 ≤ V3y.heap.size := by rw [hV3y]; simp
  replace z0 : w.heap.size + 1 ≤ V3y.heap.size := by have := ba.size; omega
  replace z1 : V2.heap.size + 1 ≤ V3y.heap.size := by have := ba.size; omega
  replace HB := Lib.hid (HB.out.trans (ba.mono HB.out.size))
  clear ba hV3y
  have K0 := Lib.hid C0
  have K1 := Lib.hid C1
  have K2 := Lib.hid C2
  obtain ⟨o0_0, o0_1, o0_2⟩ := C0
  obtain ⟨o1_0, o1_1, o1_2, o1_3, o1_4, o1_5, o1_6, o1_7, o1_8⟩ := C1
  obtain ⟨o2_0, o2_1, o2_2⟩ := C2
  go_region_held3 (fun w' => w'.cell? ⟨V2.heap.size, 0, none⟩ = some (.bool false) ∧ w'.cell? ⟨V2.heap.size, 1, none⟩ = some (.string i) ∧ w'.cell? ⟨V2.heap.size, 2, none⟩ = some (.string tf) ∧ w'.cell? ⟨V2.heap.size, 3, none⟩ = some (.string i) ∧ w'.cell? ⟨V2.heap.size, 4, none⟩ = some (.int .i64 (V : Int)) ∧ w'.cell? ⟨V2.heap.size, 5, none⟩ = some (.int .i64 (Wd : Int)) ∧ w'.cell? ⟨V2.heap.size, 6, none⟩ = some (.string F) ∧ w'.cell? ⟨V2.heap.size, 7, none⟩ = some (.string T) ∧ w'.cell? ⟨V2.heap.size, 8, none⟩ = some (.int .i64 n) ∧ w'.cell? ⟨V3.heap.size, 0, none⟩ = some (.bool false) ∧ w'.cell? ⟨V3.heap.size, 1, none⟩ = some (.string i) ∧ w'.cell? ⟨V3.heap.size, 2, none⟩ = some (.string xf))
    (first | (with_reducible exact ⟨o1_0, o1_1, o1_2, o1_3, o1_4, o1_5, o1_6, o1_7, o1_8, o2_0, o2_1, o2_2⟩) | (with_reducible exact ⟨(drew_cell _ _).trans o1_0, (drew_cell _ _).trans o1_1, (drew_cell _ _).trans o1_2, (drew_cell _ _).trans o1_3, (drew_cell _ _).trans o1_4, (drew_cell _ _).trans o1_5, (drew_cell _ _).trans o1_6, (drew_cell _ _).trans o1_7, (drew_cell _ _).trans o1_8, (drew_cell _ _).trans o2_0, (drew_cell _ _).trans o2_1, (drew_cell _ _).trans o2_2⟩))
    (first
      | (go_at_call 20; (with_reducible refine (D3.out _).mono ?_); rintro e wA ⟨rfl, rfl⟩)
      | (go_at_call 20; (with_reducible refine (D4.out _).mono ?_); rintro e wB ⟨rfl, rfl⟩))
  go_wp2_with fail
  clear o0_0 o0_1 o0_2
  have C0 := K0.out
  clear K0
  clear o1_0 o1_1 o1_2 o1_3 o1_4 o1_5 o1_6 o1_7 o1_8
  have C1 := K1.out
  clear K1
  clear o2_0 o2_1 o2_2
  have C2 := K2.out
  clear K2
  obtain ⟨V3yd, hV3yd⟩ : ∃ V3yd, V3yd = V3y.drew := ⟨_, rfl⟩
  rw [← hV3yd]
  replace C0 : Cells3 V3yd w.heap.size (.bool dn) (.string di) (.string df) := by rw [hV3yd]; exact three_drew C0
  replace z0 : w.heap.size + 1 ≤ V3yd.heap.size := by rw [hV3yd]; exact z0
  replace C1 : Cells9 V3yd V2.heap.size (.bool false) (.string i) (.string tf) (.string i) (.int .i64 (V : Int)) (.int .i64 (Wd : Int)) (.string F) (.string T) (.int .i64 n) := by rw [hV3yd]; exact nine_drew C1
  replace z1 : V2.heap.size + 1 ≤ V3yd.heap.size := by rw [hV3yd]; exact z1
  replace C2 : Cells3 V3yd V3.heap.size (.bool false) (.string i) (.string xf) := by rw [hV3yd]; exact three_drew C2
  replace z2 : V3.heap.size + 1 ≤ V3yd.heap.size := by rw [hV3yd]; exact z2
  replace HB : Hid (Below w.heap.size w V3yd) := by rw [hV3yd]; exact drew1 HB.out
  clear hV3yd
  (with_reducible refine (D5.out _).mono ?_)
  rintro e V4 ⟨rfl, hb⟩
  replace C0 := C0.keep hb (by omega)
  replace C1 := C1.keep hb (by omega)
  replace C2 := C2.keep hb (by omega)
  replace z0 : w.heap.size + 1 ≤ V4.heap.size := by have := hb.size; omega
  replace z1 : V2.heap.size + 1 ≤ V4.heap.size := by have := hb.size; omega
  replace z2 : V3.heap.size + 1 ≤ V4.heap.size := by have := hb.size; omega
  replace HB := Lib.hid (HB.out.trans (hb.mono HB.out.size))
  clear hb
  have ba : Below V4.heap.size V4 (V4.alloc (.cells #[.bool false, .string i, .string xf] 23)) := (Below.refl _ _).alloc (Nat.le_refl _) _
  replace C0 := C0.keep ba (by omega)
  replace C1 := C1.keep ba (by omega)
  replace C2 := C2.keep ba (by omega)
  have C3 : Cells3 (V4.alloc (.cells #[.bool false, .string i, .string xf] 23)) V4.heap.size (.bool false) (.string i) (.string xf) := (one_box V4 (.bool false) (.string i) (.string xf) 23).2.1
  have z3 : V4.heap.size + 1 ≤ (V4.alloc (.cells #[.bool false, .string i, .string xf] 23)).heap.size := by simp
  replace z0 : w.heap.size + 1 ≤ (V4.alloc (.cells #[.bool false, .string i, .string xf] 23)).heap.size := by have := ba.size; omega
  replace z1 : V2.heap.size + 1 ≤ (V4.alloc (.cells #[.bool false, .string i, .string xf] 23)).heap.size := by have := ba.size; omega
  replace z2 : V3.heap.size + 1 ≤ (V4.alloc (.cells #[.bool false, .string i, .string xf] 23)).heap.size := by have := ba.size; omega
  replace HB := Lib.hid (HB.out.trans (ba.mono HB.out.size))
  clear ba
  have K0 := Lib.hid C0
  have K1 := Lib.hid C1
  have K2 := Lib.hid C2
  have K3 := Lib.hid C3
  obtain ⟨o0_0, o0_1, o0_2⟩ := C0
  obtain ⟨o1_0, o1_1, o1_2, o1_3, o1_4, o1_5, o1_6, o1_7, o1_8⟩ := C1
  obtain ⟨o2_0, o2_1, o2_2⟩ := C2
  obtain ⟨o3_0, o3_1, o3_2⟩ := C3
  go_wp2
  go_ret
  exact ⟨rfl, HB.out⟩

end Go.Proofs.Ytcdmanhhddcmcaa
