/- OperandNoughts: noughts behind the point change V and F alone. -/
import Derived.Test.YtcdmanhhddcmcaaOpG
import Derived.Deep.DeepCutAuto
import Derived.Deep.QuietTactic
import Derived.BigQuiet
namespace Go.Proofs.Ytcdmanhhddcmcaa
open Go.RowKit
attribute [local go_sem ↓] Go.wp_at_zero Go.wp_at_succ
theorem cell_far {W : World} {b c : Nat} (i j : Nat) (v : Value) (h : b ≠ c) : (W.setCell ⟨c, i, none⟩ v).cell? ⟨b, j, none⟩ = W.cell? ⟨b, j, none⟩ := World.cell?_setCell_other _ _ _ _ (fun e => h (congrArg Addr.block e).symm)
theorem set9_4 {W : World} {b : Nat} {x0 x1 x2 x3 x4 x5 x6 x7 x8 y : Value} (h : Cells9 W b x0 x1 x2 x3 x4 x5 x6 x7 x8) : Cells9 (W.setCell ⟨b, 4, none⟩ y) b x0 x1 x2 x3 y x5 x6 x7 x8 :=
  ⟨cell_set_far _ _ _ _ _ _ (by decide) h.1, cell_set_far _ _ _ _ _ _ (by decide) h.2.1, cell_set_far _ _ _ _ _ _ (by decide) h.2.2.1, cell_set_far _ _ _ _ _ _ (by decide) h.2.2.2.1, cell_set_same _ _ _ _ h.2.2.2.2.1, cell_set_far _ _ _ _ _ _ (by decide) h.2.2.2.2.2.1, cell_set_far _ _ _ _ _ _ (by decide) h.2.2.2.2.2.2.1, cell_set_far _ _ _ _ _ _ (by decide) h.2.2.2.2.2.2.2.1, cell_set_far _ _ _ _ _ _ (by decide) h.2.2.2.2.2.2.2.2⟩
theorem set9_6 {W : World} {b : Nat} {x0 x1 x2 x3 x4 x5 x6 x7 x8 y : Value} (h : Cells9 W b x0 x1 x2 x3 x4 x5 x6 x7 x8) : Cells9 (W.setCell ⟨b, 6, none⟩ y) b x0 x1 x2 x3 x4 x5 y x7 x8 :=
  ⟨cell_set_far _ _ _ _ _ _ (by decide) h.1, cell_set_far _ _ _ _ _ _ (by decide) h.2.1, cell_set_far _ _ _ _ _ _ (by decide) h.2.2.1, cell_set_far _ _ _ _ _ _ (by decide) h.2.2.2.1, cell_set_far _ _ _ _ _ _ (by decide) h.2.2.2.2.1, cell_set_far _ _ _ _ _ _ (by decide) h.2.2.2.2.2.1, cell_set_same _ _ _ _ h.2.2.2.2.2.2.1, cell_set_far _ _ _ _ _ _ (by decide) h.2.2.2.2.2.2.2.1, cell_set_far _ _ _ _ _ _ (by decide) h.2.2.2.2.2.2.2.2⟩
theorem nine_drew {W : World} {b : Nat} {x0 x1 x2 x3 x4 x5 x6 x7 x8 : Value} (h : Cells9 W b x0 x1 x2 x3 x4 x5 x6 x7 x8) : Cells9 W.drew b x0 x1 x2 x3 x4 x5 x6 x7 x8 := h
theorem drewN_below {B : Nat} {w W : World} (h : Below B w W) (n : Nat) : Below B w (W.drewN n) := h.trans ⟨rfl, rfl, rfl, Nat.le_refl _, fun _ _ => rfl⟩

set_option maxHeartbeats 4000000 in
set_option maxRecDepth 100000 in
theorem nou_err (dn : Bool) (di df : ByteArray) (n : Int) (c : Int) (hc : (c == 0) = false)
    (H1 : ∀ wx : World, Calls Try.prog 21 #[.agg #[.bool dn, .string di, .string df], .int .i64 n] wx fun e w' => e = .returned (.tuple #[.agg #[.bool false, .string ⟨#[]⟩, .string ⟨#[]⟩], .int .i64 c]) ∧ Below wx.heap.size wx w') (w : World)
    : Calls Try.prog 6 #[.agg #[.bool dn, .string di, .string df], .int .i64 n] w fun e w' => e = .returned (.bool true) ∧ Below w.heap.size w w' := by
  have DW := Lib.hid oawake_any
  have D1 := Lib.hid H1
  clear H1
  go_enter Try.func6, Try.ntmps6
  go_wp2_with fail
  obtain ⟨W0, hW0⟩ : ∃ W0, W0 = (w.alloc (.cells #[.bool dn, .string di, .string df] 23)) := ⟨_, rfl⟩
  have hB0 : Below w.heap.size w w := Below.refl _ _
  have ha0 : Below w.heap.size w (w.alloc (.cells #[.bool dn, .string di, .string df] 23)) := (Below.refl _ _).alloc (Nat.le_refl _) _
  have hB1 := hB0.trans (ha0.mono hB0.size)
  have hs0 : (w.alloc (.cells #[.bool dn, .string di, .string df] 23)).heap.size = w.heap.size + 1 := by simp
  have C0 := (one_box w (.bool dn) (.string di) (.string df) 23).2.1
  rw [← hW0] at hB1 hs0 C0 ⊢
  have z0 : w.heap.size + 1 ≤ W0.heap.size := by omega
  have HB := Lib.hid hB1
  clear hW0 hB0 ha0 hB1 hs0
  (with_reducible refine (DW.out _).mono ?_)
  rintro e V1 ⟨rfl, hb⟩
  replace C0 := C0.keep hb (by omega)
  replace z0 : w.heap.size + 1 ≤ V1.heap.size := by have := hb.size; omega
  replace HB := Lib.hid (HB.out.trans (hb.mono HB.out.size))
  clear hb
  have K0 := Lib.hid C0
  obtain ⟨o0_0, o0_1, o0_2⟩ := C0
  go_wp2_with fail
  clear o0_0 o0_1 o0_2
  have C0 := K0.out
  clear K0
  (with_reducible refine (D1.out _).mono ?_)
  rintro e V2 ⟨rfl, hb⟩
  replace C0 := C0.keep hb (by omega)
  replace z0 : w.heap.size + 1 ≤ V2.heap.size := by have := hb.size; omega
  replace HB := Lib.hid (HB.out.trans (hb.mono HB.out.size))
  clear hb
  have ba : Below V2.heap.size V2 (V2.alloc (.cells #[.bool false, .string ⟨#[]⟩, .string ⟨#[]⟩] 23)) := (Below.refl _ _).alloc (Nat.le_refl _) _
  replace C0 := C0.keep ba (by omega)
  have C1 : Cells3 (V2.alloc (.cells #[.bool false, .string ⟨#[]⟩, .string ⟨#[]⟩] 23)) V2.heap.size (.bool false) (.string ⟨#[]⟩) (.string ⟨#[]⟩) := (one_box V2 (.bool false) (.string ⟨#[]⟩) (.string ⟨#[]⟩) 23).2.1
  have z1 : V2.heap.size + 1 ≤ (V2.alloc (.cells #[.bool false, .string ⟨#[]⟩, .string ⟨#[]⟩] 23)).heap.size := by simp
  replace z0 : w.heap.size + 1 ≤ (V2.alloc (.cells #[.bool false, .string ⟨#[]⟩, .string ⟨#[]⟩] 23)).heap.size := by have := ba.size; omega
  replace HB := Lib.hid (HB.out.trans (ba.mono HB.out.size))
  clear ba
  have K0 := Lib.hid C0
  have K1 := Lib.hid C1
  obtain ⟨o0_0, o0_1, o0_2⟩ := C0
  obtain ⟨o1_0, o1_1, o1_2⟩ := C1
  go_wp2
  go_ret
  exact ⟨rfl, HB.out⟩

set_option maxHeartbeats 4000000 in
set_option maxRecDepth 100000 in
theorem nou_ok (dn : Bool) (di df : ByteArray) (n : Int) (pn : Bool) (pi pf i tf F T G : ByteArray) (V Wd : Int) (L : Nat) (hL : pf.size = L)
    (H1 : ∀ wx : World, Calls Try.prog 21 #[.agg #[.bool dn, .string di, .string df], .int .i64 n] wx fun e w' => e = .returned (.tuple #[.agg #[.bool pn, .string pi, .string pf], .int .i64 0]) ∧ Below wx.heap.size wx w')
    (H2 : ∀ wx : World, Calls Try.prog 13 #[.agg #[.bool dn, .string di, .string df], .int .i64 0] wx fun e w' => e = .returned (.tuple #[.agg #[.bool false, .string i, .string tf, .string i, .int .i64 V, .int .i64 Wd, .string F, .string T, .int .i64 0], .int .i64 0]) ∧ Below wx.heap.size wx w')
    (H3 : ∀ wx : World, Calls Try.prog 13 #[.agg #[.bool pn, .string pi, .string pf], .int .i64 0] wx fun e w' => e = .returned (.tuple #[.agg #[.bool false, .string i, .string tf, .string i, .int .i64 L, .int .i64 Wd, .string G, .string T, .int .i64 0], .int .i64 0]) ∧ Below wx.heap.size wx w') (w : World)
    : Calls Try.prog 6 #[.agg #[.bool dn, .string di, .string df], .int .i64 n] w fun e w' => e = .returned (.bool true) ∧ Below w.heap.size w w' := by
  have DW := Lib.hid oawake_any
  have D1 := Lib.hid H1
  have D2 := Lib.hid H2
  have D3 := Lib.hid H3
  clear H1 H2 H3
  go_enter Try.func6, Try.ntmps6
  go_wp2_with fail
  obtain ⟨W0, hW0⟩ : ∃ W0, W0 = (w.alloc (.cells #[.bool dn, .string di, .string df] 23)) := ⟨_, rfl⟩
  have hB0 : Below w.heap.size w w := Below.refl _ _
  have ha0 : Below w.heap.size w (w.alloc (.cells #[.bool dn, .string di, .string df] 23)) := (Below.refl _ _).alloc (Nat.le_refl _) _
  have hB1 := hB0.trans (ha0.mono hB0.size)
  have hs0 : (w.alloc (.cells #[.bool dn, .string di, .string df] 23)).heap.size = w.heap.size + 1 := by simp
  have C0 := (one_box w (.bool dn) (.string di) (.string df) 23).2.1
  rw [← hW0] at hB1 hs0 C0 ⊢
  have z0 : w.heap.size + 1 ≤ W0.heap.size := by omega
  have HB := Lib.hid hB1
  clear hW0 hB0 ha0 hB1 hs0
  (with_reducible refine (DW.out _).mono ?_)
  rintro e V1 ⟨rfl, hb⟩
  replace C0 := C0.keep hb (by omega)
  replace z0 : w.heap.size + 1 ≤ V1.heap.size := by have := hb.size; omega
  replace HB := Lib.hid (HB.out.trans (hb.mono HB.out.size))
  clear hb
  have K0 := Lib.hid C0
  obtain ⟨o0_0, o0_1, o0_2⟩ := C0
  go_wp2_with fail
  clear o0_0 o0_1 o0_2
  have C0 := K0.out
  clear K0
  (with_reducible refine (D1.out _).mono ?_)
  rintro e V2 ⟨rfl, hb⟩
  replace C0 := C0.keep hb (by omega)
  replace z0 : w.heap.size + 1 ≤ V2.heap.size := by have := hb.size; omega
  replace HB := Lib.hid (HB.out.trans (hb.mono HB.out.size))
  clear hb
  have ba : Below V2.heap.size V2 (V2.alloc (.cells #[.bool pn, .string pi, .string pf] 23)) := (Below.refl _ _).alloc (Nat.le_refl _) _
  replace C0 := C0.keep ba (by omega)
  have C1 : Cells3 (V2.alloc (.cells #[.bool pn, .string pi, .string pf] 23)) V2.heap.size (.bool pn) (.string pi) (.string pf) := (one_box V2 (.bool pn) (.string pi) (.string pf) 23).2.1
  have z1 : V2.heap.size + 1 ≤ (V2.alloc (.cells #[.bool pn, .string pi, .string pf] 23)).heap.size := by simp
  replace z0 : w.heap.size + 1 ≤ (V2.alloc (.cells #[.bool pn, .string pi, .string pf] 23)).heap.size := by have := ba.size; omega
  replace HB := Lib.hid (HB.out.trans (ba.mono HB.out.size))
  clear ba
  have K0 := Lib.hid C0
  have K1 := Lib.hid C1
  obtain ⟨o0_0, o0_1, o0_2⟩ := C0
  obtain ⟨o1_0, o1_1, o1_2⟩ := C1
  go_wp2_with fail
  clear o0_0 o0_1 o0_2
  have C0 := K0.out
  clear K0
  clear o1_0 o1_1 o1_2
  have C1 := K1.out
  clear K1
  obtain ⟨V2x, hV2x⟩ : ∃ V2x, V2x = (V2.alloc (.cells #[.bool pn, .string pi, .string pf] 23)) := ⟨_, rfl⟩
  rw [← hV2x]
  rw [← hV2x] at HB C0 z0 C1 z1 
  clear hV2x
  (with_reducible refine (D2.out _).mono ?_)
  rintro e V3 ⟨rfl, hb⟩
  replace C0 := C0.keep hb (by omega)
  replace C1 := C1.keep hb (by omega)
  replace z0 : w.heap.size + 1 ≤ V3.heap.size := by have := hb.size; omega
  replace z1 : V2.heap.size + 1 ≤ V3.heap.size := by have := hb.size; omega
  replace HB := Lib.hid (HB.out.trans (hb.mono HB.out.size))
  clear hb
  have ba : Below V3.heap.size V3 (V3.alloc (.cells #[.bool false, .string i, .string tf, .string i, .int .i64 V, .int .i64 Wd, .string F, .string T, .int .i64 0] 25)) := (Below.refl _ _).alloc (Nat.le_refl _) _
  replace C0 := C0.keep ba (by omega)
  replace C1 := C1.keep ba (by omega)
  have C2 : Cells9 (V3.alloc (.cells #[.bool false, .string i, .string tf, .string i, .int .i64 V, .int .i64 Wd, .string F, .string T, .int .i64 0] 25)) V3.heap.size (.bool false) (.string i) (.string tf) (.string i) (.int .i64 V) (.int .i64 Wd) (.string F) (.string T) (.int .i64 0) := (nine_box V3 (.bool false) (.string i) (.string tf) (.string i) (.int .i64 V) (.int .i64 Wd) (.string F) (.string T) (.int .i64 0) 25).2.1
  have z2 : V3.heap.size + 1 ≤ (V3.alloc (.cells #[.bool false, .string i, .string tf, .string i, .int .i64 V, .int .i64 Wd, .string F, .string T, .int .i64 0] 25)).heap.size := by simp
  replace z0 : w.heap.size + 1 ≤ (V3.alloc (.cells #[.bool false, .string i, .string tf, .string i, .int .i64 V, .int .i64 Wd, .string F, .string T, .int .i64 0] 25)).heap.size := by have := ba.size; omega
  replace z1 : V2.heap.size + 1 ≤ (V3.alloc (.cells #[.bool false, .string i, .string tf, .string i, .int .i64 V, .int .i64 Wd, .string F, .string T, .int .i64 0] 25)).heap.size := by have := ba.size; omega
  replace HB := Lib.hid (HB.out.trans (ba.mono HB.out.size))
  clear ba
  have K0 := Lib.hid C0
  have K1 := Lib.hid C1
  have K2 := Lib.hid C2
  obtain ⟨o0_0, o0_1, o0_2⟩ := C0
  obtain ⟨o1_0, o1_1, o1_2⟩ := C1
  obtain ⟨o2_0, o2_1, o2_2, o2_3, o2_4, o2_5, o2_6, o2_7, o2_8⟩ := C2
  go_wp2_with fail
  clear o0_0 o0_1 o0_2
  have C0 := K0.out
  clear K0
  clear o1_0 o1_1 o1_2
  have C1 := K1.out
  clear K1
  clear o2_0 o2_1 o2_2 o2_3 o2_4 o2_5 o2_6 o2_7 o2_8
  have C2 := K2.out
  clear K2
  obtain ⟨V3x, hV3x⟩ : ∃ V3x, V3x = (V3.alloc (.cells #[.bool false, .string i, .string tf, .string i, .int .i64 V, .int .i64 Wd, .string F, .string T, .int .i64 0] 25)) := ⟨_, rfl⟩
  rw [← hV3x]
  rw [← hV3x] at HB C0 z0 C1 z1 C2 z2 
  clear hV3x
  (with_reducible refine (D3.out _).mono ?_)
  rintro e V4 ⟨rfl, hb⟩
  replace C0 := C0.keep hb (by omega)
  replace C1 := C1.keep hb (by omega)
  replace C2 := C2.keep hb (by omega)
  replace z0 : w.heap.size + 1 ≤ V4.heap.size := by have := hb.size; omega
  replace z1 : V2.heap.size + 1 ≤ V4.heap.size := by have := hb.size; omega
  replace z2 : V3.heap.size + 1 ≤ V4.heap.size := by have := hb.size; omega
  replace HB := Lib.hid (HB.out.trans (hb.mono HB.out.size))
  clear hb
  have y0_3 := Lib.hid z0
  have y1_3 := Lib.hid z1
  have y2_3 := Lib.hid z2
  have ba : Below V4.heap.size V4 (V4.alloc (.cells #[.bool false, .string i, .string tf, .string i, .int .i64 L, .int .i64 Wd, .string G, .string T, .int .i64 0] 25)) := (Below.refl _ _).alloc (Nat.le_refl _) _
  replace C0 := C0.keep ba (by omega)
  replace C1 := C1.keep ba (by omega)
  replace C2 := C2.keep ba (by omega)
  have F3 := Lib.hid (nine_box V4 (.bool false) (.string i) (.string tf) (.string i) (.int .i64 L) (.int .i64 Wd) (.string G) (.string T) (.int .i64 0) 25).2.2
  have C3 : Cells9 (V4.alloc (.cells #[.bool false, .string i, .string tf, .string i, .int .i64 L, .int .i64 Wd, .string G, .string T, .int .i64 0] 25)) V4.heap.size (.bool false) (.string i) (.string tf) (.string i) (.int .i64 L) (.int .i64 Wd) (.string G) (.string T) (.int .i64 0) := (nine_box V4 (.bool false) (.string i) (.string tf) (.string i) (.int .i64 L) (.int .i64 Wd) (.string G) (.string T) (.int .i64 0) 25).2.1
  have z3 : V4.heap.size + 1 ≤ (V4.alloc (.cells #[.bool false, .string i, .string tf, .string i, .int .i64 L, .int .i64 Wd, .string G, .string T, .int .i64 0] 25)).heap.size := by simp
  replace z0 : w.heap.size + 1 ≤ (V4.alloc (.cells #[.bool false, .string i, .string tf, .string i, .int .i64 L, .int .i64 Wd, .string G, .string T, .int .i64 0] 25)).heap.size := by have := ba.size; omega
  replace z1 : V2.heap.size + 1 ≤ (V4.alloc (.cells #[.bool false, .string i, .string tf, .string i, .int .i64 L, .int .i64 Wd, .string G, .string T, .int .i64 0] 25)).heap.size := by have := ba.size; omega
  replace z2 : V3.heap.size + 1 ≤ (V4.alloc (.cells #[.bool false, .string i, .string tf, .string i, .int .i64 L, .int .i64 Wd, .string G, .string T, .int .i64 0] 25)).heap.size := by have := ba.size; omega
  replace HB := Lib.hid (HB.out.trans (ba.mono HB.out.size))
  clear ba
  have K0 := Lib.hid C0
  have K1 := Lib.hid C1
  have K2 := Lib.hid C2
  have K3 := Lib.hid C3
  obtain ⟨o0_0, o0_1, o0_2⟩ := C0
  obtain ⟨o1_0, o1_1, o1_2⟩ := C1
  obtain ⟨o2_0, o2_1, o2_2, o2_3, o2_4, o2_5, o2_6, o2_7, o2_8⟩ := C2
  obtain ⟨o3_0, o3_1, o3_2, o3_3, o3_4, o3_5, o3_6, o3_7, o3_8⟩ := C3
  have f3 := F3.out
  go_wp2_with fail
  obtain ⟨W6, hW6⟩ : ∃ W6, W6 = V4.alloc (.cells #[.bool false, .string i, .string tf, .string i, .int .i64 L, .int .i64 Wd, .string G, .string T, .int .i64 0] 25) := ⟨_, rfl⟩
  rw [← hW6]
  clear o0_0 o0_1 o0_2
  have C0 := K0.out
  clear K0
  clear o1_0 o1_1 o1_2
  have C1 := K1.out
  clear K1
  clear o2_0 o2_1 o2_2 o2_3 o2_4 o2_5 o2_6 o2_7 o2_8
  have C2 := K2.out
  clear K2
  clear o3_0 o3_1 o3_2 o3_3 o3_4 o3_5 o3_6 o3_7 o3_8
  have C3 := K3.out
  clear K3
  rw [← hW6] at C0 C1 C2 C3 z0 z1 z2 z3 HB f3
  have y23 := y2_3.out
  have y03 := y0_3.out
  clear hW6 F3 C0 C1 z0 z1 y0_3 y1_3 y2_3
  obtain ⟨o0, o1, o2, o3, o4, o5, o6, o7, o8⟩ := C2
  obtain ⟨p0, p1, p2, p3, p4, p5, p6, p7, p8⟩ := C3
  go_region_held3 (fun w' => w'.cell? ⟨V3.heap.size, 4, none⟩ = some (.int .i64 V) ∧ w'.cell? ⟨V3.heap.size, 6, none⟩ = some (.string F))
    (first | (with_reducible exact ⟨o4, o6⟩) | (with_reducible exact ⟨(drew_cell _ _).trans o4, (drew_cell _ _).trans o6⟩) | (with_reducible exact ⟨(drew_cell _ _).trans ((cell_far _ _ _ (by omega)).trans o4), (drew_cell _ _).trans ((cell_far _ _ _ (by omega)).trans o6)⟩) | (with_reducible exact ⟨(drew_cell _ _).trans ((cell_far _ _ _ (by omega)).trans ((cell_far _ _ _ (by omega)).trans o4)), (drew_cell _ _).trans ((cell_far _ _ _ (by omega)).trans ((cell_far _ _ _ (by omega)).trans o6))⟩))
    (fail)
  obtain ⟨W7, hW7⟩ : ∃ W7, W7 = ((W6.setCell ⟨V4.heap.size, 4, none⟩ (.int .i64 V)).setCell ⟨V4.heap.size, 6, none⟩ (.string F)).drew := ⟨_, rfl⟩
  rw [← hW7]
  have N2 : Cells9 W7 V3.heap.size (.bool false) (.string i) (.string tf) (.string i) (.int .i64 V) (.int .i64 Wd) (.string F) (.string T) (.int .i64 0) := by rw [hW7]; exact nine_drew (far9 (far9 ⟨o0, o1, o2, o3, o4, o5, o6, o7, o8⟩ (by show V4.heap.size ≠ V3.heap.size; omega) _) (by show V4.heap.size ≠ V3.heap.size; omega) _)
  have N3 : Cells9 W7 V4.heap.size (.bool false) (.string i) (.string tf) (.string i) (.int .i64 V) (.int .i64 Wd) (.string F) (.string T) (.int .i64 0) := by rw [hW7]; exact nine_drew (set9_6 (set9_4 ⟨p0, p1, p2, p3, p4, p5, p6, p7, p8⟩))
  have HB7 : Hid (Below w.heap.size w W7) := by rw [hW7]; exact drew1 ((HB.out.setCell (p := ⟨V4.heap.size, 4, none⟩) (by show w.heap.size ≤ V4.heap.size; omega) _).setCell (p := ⟨V4.heap.size, 6, none⟩) (by show w.heap.size ≤ V4.heap.size; omega) _)
  clear hW7 o0 o1 o2 o3 o4 o5 o6 o7 o8 p0 p1 p2 p3 p4 p5 p6 p7 p8 HB f3
  obtain ⟨o0, o1, o2, o3, o4, o5, o6, o7, o8⟩ := N2
  obtain ⟨p0, p1, p2, p3, p4, p5, p6, p7, p8⟩ := N3
  go_wp2
  go_ret
  exact ⟨rfl, HB7.out⟩

end Go.Proofs.Ytcdmanhhddcmcaa
