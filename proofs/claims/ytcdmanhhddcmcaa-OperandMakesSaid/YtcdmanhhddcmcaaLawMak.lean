/- OperandMakes: operands and whether they may be, of both sides. -/
import Derived.Test.YtcdmanhhddcmcaaOpR
namespace Go.Proofs.Ytcdmanhhddcmcaa
open Go.RowKit
attribute [local go_sem ↓] Go.wp_at_zero Go.wp_at_succ

set_option maxHeartbeats 4000000 in
set_option maxRecDepth 100000 in
theorem mak_core (dn : Bool) (di df : ByteArray) (n : Int) (on : Bool) (oi oj oI : ByteArray) (oV oW : Int) (oG oT : ByteArray) (oX : Int) (xn : Bool) (xi xf xI : ByteArray) (xV xW : Int) (xF xT : ByteArray) (xE : Int) (c cc : Int)
    (H1 : ∀ wx : World, Calls Try.prog 13 #[.agg #[.bool dn, .string di, .string df], .int .i64 n] wx fun e w' => e = .returned (.tuple #[.agg #[.bool xn, .string xi, .string xf, .string xI, .int .i64 xV, .int .i64 xW, .string xF, .string xT, .int .i64 xE], .int .i64 c]) ∧ Below wx.heap.size wx w')
    (H2 : ∀ wx : World, Calls Try.prog 14 #[.agg #[.bool dn, .string di, .string df], .int .i64 n] wx fun e w' => e = .returned (.tuple #[.agg #[.bool xn, .string xi, .string xf, .string xI, .int .i64 xV, .int .i64 xW, .string xF, .string xT, .int .i64 xE], .int .i64 c]) ∧ Below wx.heap.size wx w')
    (H3 : ∀ wx : World, Calls Try.prog 15 #[.agg #[.bool on, .string oi, .string oj, .string oI, .int .i64 oV, .int .i64 oW, .string oG, .string oT, .int .i64 oX]] wx fun e w' => e = .returned (.int .i64 cc) ∧ Below wx.heap.size wx w')
    (H4 : ∀ wx : World, Calls Try.prog 16 #[.agg #[.bool on, .string oi, .string oj, .string oI, .int .i64 oV, .int .i64 oW, .string oG, .string oT, .int .i64 oX]] wx fun e w' => e = .returned (.int .i64 cc) ∧ Below wx.heap.size wx w') (w : World)
    : Calls Try.prog 3 #[.agg #[.bool dn, .string di, .string df], .int .i64 n, .agg #[.bool on, .string oi, .string oj, .string oI, .int .i64 oV, .int .i64 oW, .string oG, .string oT, .int .i64 oX]] w fun e w' => e = .returned (.bool true) ∧ Below w.heap.size w w' := by
  have DW := Lib.hid oawake_any
  have D1 := Lib.hid H1
  have D2 := Lib.hid H2
  have D3 := Lib.hid H3
  have D4 := Lib.hid H4
  clear H1 H2 H3 H4
  have q0 : (xn == xn) = true := beq_self_eq_true _
  have q1 : (xi.toList == xi.toList) = true := beq_self_eq_true _
  have q2 : (xf.toList == xf.toList) = true := beq_self_eq_true _
  have q3 : (xI.toList == xI.toList) = true := beq_self_eq_true _
  have q4 : (xV == xV) = true := beq_self_eq_true _
  have q5 : (xW == xW) = true := beq_self_eq_true _
  have q6 : (xF.toList == xF.toList) = true := beq_self_eq_true _
  have q7 : (xT.toList == xT.toList) = true := beq_self_eq_true _
  have q8 : (xE == xE) = true := beq_self_eq_true _
  have q9 : (c == c) = true := beq_self_eq_true _
  have q10 : (cc == cc) = true := beq_self_eq_true _
  go_enter Try.func3, Try.ntmps3
  go_wp2_with fail
  obtain ⟨W0, hW0⟩ : ∃ W0, W0 = ((w.alloc (.cells #[.bool dn, .string di, .string df] 23)).alloc (.cells #[.bool on, .string oi, .string oj, .string oI, .int .i64 oV, .int .i64 oW, .string oG, .string oT, .int .i64 oX] 25)) := ⟨_, rfl⟩
  have hB0 : Below w.heap.size w w := Below.refl _ _
  have ha0 : Below w.heap.size w (w.alloc (.cells #[.bool dn, .string di, .string df] 23)) := (Below.refl _ _).alloc (Nat.le_refl _) _
  have hB1 := hB0.trans (ha0.mono hB0.size)
  have hs0 : (w.alloc (.cells #[.bool dn, .string di, .string df] 23)).heap.size = w.heap.size + 1 := by simp
  have C0 := (one_box w (.bool dn) (.string di) (.string df) 23).2.1
  have ha1 : Below (w.alloc (.cells #[.bool dn, .string di, .string df] 23)).heap.size (w.alloc (.cells #[.bool dn, .string di, .string df] 23)) ((w.alloc (.cells #[.bool dn, .string di, .string df] 23)).alloc (.cells #[.bool on, .string oi, .string oj, .string oI, .int .i64 oV, .int .i64 oW, .string oG, .string oT, .int .i64 oX] 25)) := (Below.refl _ _).alloc (Nat.le_refl _) _
  have hB2 := hB1.trans (ha1.mono hB1.size)
  have hs1 : ((w.alloc (.cells #[.bool dn, .string di, .string df] 23)).alloc (.cells #[.bool on, .string oi, .string oj, .string oI, .int .i64 oV, .int .i64 oW, .string oG, .string oT, .int .i64 oX] 25)).heap.size = w.heap.size + 2 := by rw [show ((w.alloc (.cells #[.bool dn, .string di, .string df] 23)).alloc (.cells #[.bool on, .string oi, .string oj, .string oI, .int .i64 oV, .int .i64 oW, .string oG, .string oT, .int .i64 oX] 25)).heap.size = (w.alloc (.cells #[.bool dn, .string di, .string df] 23)).heap.size + 1 by simp, hs0]
  replace C0 := C0.keep ha1 (by rw [hs0]; omega)
  have C1 := (nine_box (w.alloc (.cells #[.bool dn, .string di, .string df] 23)) (.bool on) (.string oi) (.string oj) (.string oI) (.int .i64 oV) (.int .i64 oW) (.string oG) (.string oT) (.int .i64 oX) 25).2.1
  rw [hs0] at C1
  rw [← hW0] at hB2 hs1 C0 C1 ⊢
  have z0 : w.heap.size + 1 ≤ W0.heap.size := by omega
  have z1 : (w.heap.size + 1) + 1 ≤ W0.heap.size := by omega
  have HB := Lib.hid hB2
  clear hW0 hB0 ha0 hB1 ha1 hB2 hs0 hs1
  (with_reducible refine (D1.out _).mono ?_)
  rintro e V1 ⟨rfl, hb⟩
  replace C0 := C0.keep hb (by omega)
  replace C1 := C1.keep hb (by omega)
  replace z0 : w.heap.size + 1 ≤ V1.heap.size := by have := hb.size; omega
  replace z1 : (w.heap.size + 1) + 1 ≤ V1.heap.size := by have := hb.size; omega
  replace HB := Lib.hid (HB.out.trans (hb.mono HB.out.size))
  clear hb
  have ba : Below V1.heap.size V1 (V1.alloc (.cells #[.bool xn, .string xi, .string xf, .string xI, .int .i64 xV, .int .i64 xW, .string xF, .string xT, .int .i64 xE] 25)) := (Below.refl _ _).alloc (Nat.le_refl _) _
  replace C0 := C0.keep ba (by omega)
  replace C1 := C1.keep ba (by omega)
  have C2 : Cells9 (V1.alloc (.cells #[.bool xn, .string xi, .string xf, .string xI, .int .i64 xV, .int .i64 xW, .string xF, .string xT, .int .i64 xE] 25)) V1.heap.size (.bool xn) (.string xi) (.string xf) (.string xI) (.int .i64 xV) (.int .i64 xW) (.string xF) (.string xT) (.int .i64 xE) := (nine_box V1 (.bool xn) (.string xi) (.string xf) (.string xI) (.int .i64 xV) (.int .i64 xW) (.string xF) (.string xT) (.int .i64 xE) 25).2.1
  have z2 : V1.heap.size + 1 ≤ (V1.alloc (.cells #[.bool xn, .string xi, .string xf, .string xI, .int .i64 xV, .int .i64 xW, .string xF, .string xT, .int .i64 xE] 25)).heap.size := by simp
  replace z0 : w.heap.size + 1 ≤ (V1.alloc (.cells #[.bool xn, .string xi, .string xf, .string xI, .int .i64 xV, .int .i64 xW, .string xF, .string xT, .int .i64 xE] 25)).heap.size := by have := ba.size; omega
  replace z1 : (w.heap.size + 1) + 1 ≤ (V1.alloc (.cells #[.bool xn, .string xi, .string xf, .string xI, .int .i64 xV, .int .i64 xW, .string xF, .string xT, .int .i64 xE] 25)).heap.size := by have := ba.size; omega
  replace HB := Lib.hid (HB.out.trans (ba.mono HB.out.size))
  clear ba
  have K0 := Lib.hid C0
  have K1 := Lib.hid C1
  have K2 := Lib.hid C2
  obtain ⟨o0_0, o0_1, o0_2⟩ := C0
  obtain ⟨o1_0, o1_1, o1_2, o1_3, o1_4, o1_5, o1_6, o1_7, o1_8⟩ := C1
  obtain ⟨o2_0, o2_1, o2_2, o2_3, o2_4, o2_5, o2_6, o2_7, o2_8⟩ := C2
  go_wp2_with fail
  clear o0_0 o0_1 o0_2
  have C0 := K0.out
  clear K0
  clear o1_0 o1_1 o1_2 o1_3 o1_4 o1_5 o1_6 o1_7 o1_8
  have C1 := K1.out
  clear K1
  clear o2_0 o2_1 o2_2 o2_3 o2_4 o2_5 o2_6 o2_7 o2_8
  have C2 := K2.out
  clear K2
  obtain ⟨V1x, hV1x⟩ : ∃ V1x, V1x = (V1.alloc (.cells #[.bool xn, .string xi, .string xf, .string xI, .int .i64 xV, .int .i64 xW, .string xF, .string xT, .int .i64 xE] 25)) := ⟨_, rfl⟩
  rw [← hV1x]
  rw [← hV1x] at HB C0 z0 C1 z1 C2 z2 
  clear hV1x
  (with_reducible refine (D2.out _).mono ?_)
  rintro e V2 ⟨rfl, hb⟩
  replace C0 := C0.keep hb (by omega)
  replace C1 := C1.keep hb (by omega)
  replace C2 := C2.keep hb (by omega)
  replace z0 : w.heap.size + 1 ≤ V2.heap.size := by have := hb.size; omega
  replace z1 : (w.heap.size + 1) + 1 ≤ V2.heap.size := by have := hb.size; omega
  replace z2 : V1.heap.size + 1 ≤ V2.heap.size := by have := hb.size; omega
  replace HB := Lib.hid (HB.out.trans (hb.mono HB.out.size))
  clear hb
  have ba : Below V2.heap.size V2 (V2.alloc (.cells #[.bool xn, .string xi, .string xf, .string xI, .int .i64 xV, .int .i64 xW, .string xF, .string xT, .int .i64 xE] 25)) := (Below.refl _ _).alloc (Nat.le_refl _) _
  replace C0 := C0.keep ba (by omega)
  replace C1 := C1.keep ba (by omega)
  replace C2 := C2.keep ba (by omega)
  have C3 : Cells9 (V2.alloc (.cells #[.bool xn, .string xi, .string xf, .string xI, .int .i64 xV, .int .i64 xW, .string xF, .string xT, .int .i64 xE] 25)) V2.heap.size (.bool xn) (.string xi) (.string xf) (.string xI) (.int .i64 xV) (.int .i64 xW) (.string xF) (.string xT) (.int .i64 xE) := (nine_box V2 (.bool xn) (.string xi) (.string xf) (.string xI) (.int .i64 xV) (.int .i64 xW) (.string xF) (.string xT) (.int .i64 xE) 25).2.1
  have z3 : V2.heap.size + 1 ≤ (V2.alloc (.cells #[.bool xn, .string xi, .string xf, .string xI, .int .i64 xV, .int .i64 xW, .string xF, .string xT, .int .i64 xE] 25)).heap.size := by simp
  replace z0 : w.heap.size + 1 ≤ (V2.alloc (.cells #[.bool xn, .string xi, .string xf, .string xI, .int .i64 xV, .int .i64 xW, .string xF, .string xT, .int .i64 xE] 25)).heap.size := by have := ba.size; omega
  replace z1 : (w.heap.size + 1) + 1 ≤ (V2.alloc (.cells #[.bool xn, .string xi, .string xf, .string xI, .int .i64 xV, .int .i64 xW, .string xF, .string xT, .int .i64 xE] 25)).heap.size := by have := ba.size; omega
  replace z2 : V1.heap.size + 1 ≤ (V2.alloc (.cells #[.bool xn, .string xi, .string xf, .string xI, .int .i64 xV, .int .i64 xW, .string xF, .string xT, .int .i64 xE] 25)).heap.size := by have := ba.size; omega
  replace HB := Lib.hid (HB.out.trans (ba.mono HB.out.size))
  clear ba
  have K0 := Lib.hid C0
  have K1 := Lib.hid C1
  have K2 := Lib.hid C2
  have K3 := Lib.hid C3
  obtain ⟨o0_0, o0_1, o0_2⟩ := C0
  obtain ⟨o1_0, o1_1, o1_2, o1_3, o1_4, o1_5, o1_6, o1_7, o1_8⟩ := C1
  obtain ⟨o2_0, o2_1, o2_2, o2_3, o2_4, o2_5, o2_6, o2_7, o2_8⟩ := C2
  obtain ⟨o3_0, o3_1, o3_2, o3_3, o3_4, o3_5, o3_6, o3_7, o3_8⟩ := C3
  go_wp2_with fail
  obtain ⟨W6, hW6⟩ : ∃ W6, W6 = (V2.alloc (.cells #[.bool xn, .string xi, .string xf, .string xI, .int .i64 xV, .int .i64 xW, .string xF, .string xT, .int .i64 xE] 25)) := ⟨_, rfl⟩
  rw [← hW6]
  clear o0_0 o0_1 o0_2
  have C0 := K0.out
  clear K0
  clear o1_0 o1_1 o1_2 o1_3 o1_4 o1_5 o1_6 o1_7 o1_8
  have C1 := K1.out
  clear K1
  clear o2_0 o2_1 o2_2 o2_3 o2_4 o2_5 o2_6 o2_7 o2_8
  have C2 := K2.out
  clear K2
  clear o3_0 o3_1 o3_2 o3_3 o3_4 o3_5 o3_6 o3_7 o3_8
  have C3 := K3.out
  clear K3
  rw [← hW6] at C0 C1 C2 C3 z0 z1 z2 z3 HB
  clear hW6
  have K0 := Lib.hid C0
  have K1 := Lib.hid C1
  have K2 := Lib.hid C2
  have K3 := Lib.hid C3
  obtain ⟨o0_0, o0_1, o0_2⟩ := C0
  obtain ⟨o1_0, o1_1, o1_2, o1_3, o1_4, o1_5, o1_6, o1_7, o1_8⟩ := C1
  obtain ⟨o2_0, o2_1, o2_2, o2_3, o2_4, o2_5, o2_6, o2_7, o2_8⟩ := C2
  obtain ⟨o3_0, o3_1, o3_2, o3_3, o3_4, o3_5, o3_6, o3_7, o3_8⟩ := C3
  go_region_held3 (fun w' => w'.cell? ⟨(w.heap.size + 1), 0, none⟩ = some (.bool on) ∧ w'.cell? ⟨(w.heap.size + 1), 1, none⟩ = some (.string oi) ∧ w'.cell? ⟨(w.heap.size + 1), 2, none⟩ = some (.string oj) ∧ w'.cell? ⟨(w.heap.size + 1), 3, none⟩ = some (.string oI) ∧ w'.cell? ⟨(w.heap.size + 1), 4, none⟩ = some (.int .i64 oV) ∧ w'.cell? ⟨(w.heap.size + 1), 5, none⟩ = some (.int .i64 oW) ∧ w'.cell? ⟨(w.heap.size + 1), 6, none⟩ = some (.string oG) ∧ w'.cell? ⟨(w.heap.size + 1), 7, none⟩ = some (.string oT) ∧ w'.cell? ⟨(w.heap.size + 1), 8, none⟩ = some (.int .i64 oX) ∧ w'.cell? ⟨V1.heap.size, 0, none⟩ = some (.bool xn) ∧ w'.cell? ⟨V1.heap.size, 1, none⟩ = some (.string xi) ∧ w'.cell? ⟨V1.heap.size, 2, none⟩ = some (.string xf) ∧ w'.cell? ⟨V1.heap.size, 3, none⟩ = some (.string xI) ∧ w'.cell? ⟨V1.heap.size, 4, none⟩ = some (.int .i64 xV) ∧ w'.cell? ⟨V1.heap.size, 5, none⟩ = some (.int .i64 xW) ∧ w'.cell? ⟨V1.heap.size, 6, none⟩ = some (.string xF) ∧ w'.cell? ⟨V1.heap.size, 7, none⟩ = some (.string xT) ∧ w'.cell? ⟨V1.heap.size, 8, none⟩ = some (.int .i64 xE) ∧ w'.cell? ⟨V2.heap.size, 0, none⟩ = some (.bool xn) ∧ w'.cell? ⟨V2.heap.size, 1, none⟩ = some (.string xi) ∧ w'.cell? ⟨V2.heap.size, 2, none⟩ = some (.string xf) ∧ w'.cell? ⟨V2.heap.size, 3, none⟩ = some (.string xI) ∧ w'.cell? ⟨V2.heap.size, 4, none⟩ = some (.int .i64 xV) ∧ w'.cell? ⟨V2.heap.size, 5, none⟩ = some (.int .i64 xW) ∧ w'.cell? ⟨V2.heap.size, 6, none⟩ = some (.string xF) ∧ w'.cell? ⟨V2.heap.size, 7, none⟩ = some (.string xT) ∧ w'.cell? ⟨V2.heap.size, 8, none⟩ = some (.int .i64 xE))
    (first | (with_reducible exact ⟨o1_0, o1_1, o1_2, o1_3, o1_4, o1_5, o1_6, o1_7, o1_8, o2_0, o2_1, o2_2, o2_3, o2_4, o2_5, o2_6, o2_7, o2_8, o3_0, o3_1, o3_2, o3_3, o3_4, o3_5, o3_6, o3_7, o3_8⟩) | (with_reducible exact ⟨(drew_cell _ _).trans o1_0, (drew_cell _ _).trans o1_1, (drew_cell _ _).trans o1_2, (drew_cell _ _).trans o1_3, (drew_cell _ _).trans o1_4, (drew_cell _ _).trans o1_5, (drew_cell _ _).trans o1_6, (drew_cell _ _).trans o1_7, (drew_cell _ _).trans o1_8, (drew_cell _ _).trans o2_0, (drew_cell _ _).trans o2_1, (drew_cell _ _).trans o2_2, (drew_cell _ _).trans o2_3, (drew_cell _ _).trans o2_4, (drew_cell _ _).trans o2_5, (drew_cell _ _).trans o2_6, (drew_cell _ _).trans o2_7, (drew_cell _ _).trans o2_8, (drew_cell _ _).trans o3_0, (drew_cell _ _).trans o3_1, (drew_cell _ _).trans o3_2, (drew_cell _ _).trans o3_3, (drew_cell _ _).trans o3_4, (drew_cell _ _).trans o3_5, (drew_cell _ _).trans o3_6, (drew_cell _ _).trans o3_7, (drew_cell _ _).trans o3_8⟩) | (have t := K1.out.keep hA (by omega); have u := K2.out.keep hA (by omega); have v := K3.out.keep hA (by omega); obtain ⟨t0, t1, t2, t3, t4, t5, t6, t7, t8⟩ := t; obtain ⟨u0, u1, u2, u3, u4, u5, u6, u7, u8⟩ := u; obtain ⟨v0, v1, v2, v3, v4, v5, v6, v7, v8⟩ := v; exact ⟨t0, t1, t2, t3, t4, t5, t6, t7, t8, u0, u1, u2, u3, u4, u5, u6, u7, u8, v0, v1, v2, v3, v4, v5, v6, v7, v8⟩) | (have t := K1.out.keep hB (by omega); have u := K2.out.keep hB (by omega); have v := K3.out.keep hB (by omega); obtain ⟨t0, t1, t2, t3, t4, t5, t6, t7, t8⟩ := t; obtain ⟨u0, u1, u2, u3, u4, u5, u6, u7, u8⟩ := u; obtain ⟨v0, v1, v2, v3, v4, v5, v6, v7, v8⟩ := v; exact ⟨t0, t1, t2, t3, t4, t5, t6, t7, t8, u0, u1, u2, u3, u4, u5, u6, u7, u8, v0, v1, v2, v3, v4, v5, v6, v7, v8⟩) | (have t := K1.out.keep hC (by omega); have u := K2.out.keep hC (by omega); have v := K3.out.keep hC (by omega); obtain ⟨t0, t1, t2, t3, t4, t5, t6, t7, t8⟩ := t; obtain ⟨u0, u1, u2, u3, u4, u5, u6, u7, u8⟩ := u; obtain ⟨v0, v1, v2, v3, v4, v5, v6, v7, v8⟩ := v; exact ⟨t0, t1, t2, t3, t4, t5, t6, t7, t8, u0, u1, u2, u3, u4, u5, u6, u7, u8, v0, v1, v2, v3, v4, v5, v6, v7, v8⟩))
    (first
      | (go_at_call 15; (with_reducible refine (D3.out _).mono ?_); rintro e wA ⟨rfl, hbA⟩; have hA := undrew hbA)
      | (go_at_call 16; (with_reducible refine (D4.out _).mono ?_); rintro e wB ⟨rfl, hbB⟩; have hB := hA.trans (hbB.mono hA.size))
      | (go_at_call 17; (with_reducible refine (DW.out _).mono ?_); rintro e wC ⟨rfl, hbC⟩; have hC := hB.trans (hbC.mono hB.size)))
  all_goals (go_wp2; go_ret; exact ⟨rfl, HB.out.trans (hC.mono HB.out.size)⟩)


theorem of_pair (dn : Bool) (di df : ByteArray) (k : Int) (h1 : di.size ≤ 140737488355328) (h2 : df.size ≤ 140737488355328) :
    ∃ (xn : Bool) (xi xf xI : ByteArray) (xV xW : Int) (xF xT : ByteArray) (xE : Int) (c : Int), (∀ wx : World, Calls Try.prog 13 #[.agg #[.bool dn, .string di, .string df], .int .i64 k] wx fun e w' => e = .returned (.tuple #[.agg #[.bool xn, .string xi, .string xf, .string xI, .int .i64 xV, .int .i64 xW, .string xF, .string xT, .int .i64 xE], .int .i64 c]) ∧ Below wx.heap.size wx w') ∧ (∀ wx : World, Calls Try.prog 14 #[.agg #[.bool dn, .string di, .string df], .int .i64 k] wx fun e w' => e = .returned (.tuple #[.agg #[.bool xn, .string xi, .string xf, .string xI, .int .i64 xV, .int .i64 xW, .string xF, .string xT, .int .i64 xE], .int .i64 c]) ∧ Below wx.heap.size wx w') := by
  cases hb : okB dn di df with
  | false => exact ⟨_, _, _, _, _, _, _, _, _, 20, fun wx => of_bad dn di df k wx h1 h2 hb, fun wx => refOf_err dn di df k 20 20 wx (fun wx => refCheck_bad dn di df wx h1 h2 hb) (by decide) rfl⟩
  | true =>
    obtain ⟨d, hd, rfl, rfl, rfl⟩ := ok_cases hb
    by_cases hk : 0 ≤ k ∧ k ≤ 40
    · cases ho : shD d k with
      | none => exact ⟨_, _, _, _, _, _, _, _, _, 3, fun wx => of_none d k wx hd hk.1 hk.2 ho, fun wx => refOf_none d k wx hd hk.1 hk.2 ho⟩
      | some x =>
        have hxo := sh_ok ho
        exact ⟨_, _, _, _, _, _, _, _, _, 0, of_told hd hxo hk.1 hk.2 ho, fun wx => refOf_ok d x ⟨false, x.i, cutF x⟩ k wx hd hxo hk.1 hk.2 ho (absX_trim x)⟩
    · have hF : firstE 0 (ifE (decide (k < 0) || decide (40 < k)) 1) = 1 := by
        by_cases h0 : k < 0
        · rw [decide_eq_true h0]; rfl
        · rw [decide_eq_true (show 40 < k by omega), Bool.or_true]; rfl
      exact ⟨_, _, _, _, _, _, _, _, _, 1, fun wx => of_arg d k wx hd hk, fun wx => refOf_err d.neg (dStr d.i) (dStr d.f) k 0 1 wx (fun wx => refCheck_ok d wx hd) (by decide) hF⟩
theorem mak_walk (dn : Bool) (di df : ByteArray) (n : Int) (on : Bool) (oi oj oI : ByteArray) (oV oW : Int) (oG oT : ByteArray) (oX : Int) (w : World) (h1 : di.size ≤ 140737488355328) (h2 : df.size ≤ 140737488355328) (_h3 : -9223372036854775808 ≤ n) (_h4 : n ≤ 9223372036854775807) (h5 : oi.size ≤ 140737488355328) (h6 : oj.size ≤ 140737488355328) :
    Calls Try.prog 3 #[.agg #[.bool dn, .string di, .string df], .int .i64 n, .agg #[.bool on, .string oi, .string oj, .string oI, .int .i64 oV, .int .i64 oW, .string oG, .string oT, .int .i64 oX]] w fun e w' => e = .returned (.bool true) ∧ Below w.heap.size w w' := by
  obtain ⟨xn, xi, xf, xI, xV, xW, xF, xT, xE, c, H1, H2⟩ := of_pair dn di df n h1 h2
  obtain ⟨cc, H3, H4⟩ := chk_pair on oi oj oI oV oW oG oT oX h5 h6
  exact mak_core dn di df n on oi oj oI oV oW oG oT oX xn xi xf xI xV xW xF xT xE c cc H1 H2 H3 H4 w
end Go.Proofs.Ytcdmanhhddcmcaa
