/- Operands, merged: OpO, OpP, OpQ, OpR, OrB. -/
import Derived.Test.YtpbljcjghjbjdaaDoorMgA
import Derived.Deep.QuietTactic
import Derived.BigQuiet
import Derived.Deep.RegionHeld3
import Derived.Test.YtpbljcjghjbjdaaDoorMgB
import Derived.Test.YtpbljcjghjbjdaaDoorDRefPad
namespace Go.Proofs.YtpbljcjghjbjdaaDoor
section
open Go.RowKit
attribute [local go_sem ↓] Go.wp_at_zero Go.wp_at_succ

set_option maxHeartbeats 4000000 in
set_option maxRecDepth 100000 in
theorem rcheck_bad (on : Bool) (oi oj oI : ByteArray) (oV oW : Int) (oG oT : ByteArray) (oX : Int) 
    (H1 : ∀ wx : World, Calls Tryd.prog 42 #[.agg #[.bool on, .string oi, .string oj]] wx fun e w' => e = .returned (.int .i64 20) ∧ Below wx.heap.size wx w') (w : World) :
    Calls Tryd.prog 56 #[.agg #[.bool on, .string oi, .string oj, .string oI, .int .i64 oV, .int .i64 oW, .string oG, .string oT, .int .i64 oX]] w fun e w' => e = .returned (.int .i64 40) ∧ Below w.heap.size w w' := by
  have DC := Lib.hid H1
  clear H1
  go_enter Tryd.func56, Tryd.ntmps56
  go_wp2_with fail
  obtain ⟨W2, hW2⟩ : ∃ W2, W2 = w.alloc (.cells #[.bool on, .string oi, .string oj, .string oI, .int .i64 oV, .int .i64 oW, .string oG, .string oT, .int .i64 oX] 36) := ⟨_, rfl⟩
  obtain ⟨hz2, CA, -⟩ := nine_box w (.bool on) (.string oi) (.string oj) (.string oI) (.int .i64 oV) (.int .i64 oW) (.string oG) (.string oT) (.int .i64 oX) 36
  have hb2 : Below w.heap.size w W2 := by rw [hW2]; exact (Below.refl _ w).alloc (Nat.le_refl _) _
  rw [← hW2] at hz2 CA ⊢
  clear hW2
  (with_reducible refine (DC.out _).mono ?_)
  rintro e W3 ⟨rfl, hb3⟩
  have CA3 := CA.keep hb3 (by omega)
  have hz3 : w.heap.size + 1 ≤ W3.heap.size := by have := hb3.size; omega
  have B3 := Lib.hid (hb2.trans (hb3.mono hb2.size))
  clear CA hb2 hb3 hz2
  obtain ⟨a0, a1, a2, a3, a4, a5, a6, a7, a8⟩ := CA3
  go_wp2
  go_ret
  exact ⟨rfl, B3.out⟩

set_option maxHeartbeats 4000000 in
set_option maxRecDepth 100000 in
theorem rcheck_neg (oi oj oI : ByteArray) (oV oW : Int) (oG oT : ByteArray) (oX : Int) 
    (H1 : ∀ wx : World, Calls Tryd.prog 42 #[.agg #[.bool true, .string oi, .string oj]] wx fun e w' => e = .returned (.int .i64 0) ∧ Below wx.heap.size wx w') (w : World) :
    Calls Tryd.prog 56 #[.agg #[.bool true, .string oi, .string oj, .string oI, .int .i64 oV, .int .i64 oW, .string oG, .string oT, .int .i64 oX]] w fun e w' => e = .returned (.int .i64 40) ∧ Below w.heap.size w w' := by
  have DC := Lib.hid H1
  clear H1
  go_enter Tryd.func56, Tryd.ntmps56
  go_wp2_with fail
  obtain ⟨W2, hW2⟩ : ∃ W2, W2 = w.alloc (.cells #[.bool true, .string oi, .string oj, .string oI, .int .i64 oV, .int .i64 oW, .string oG, .string oT, .int .i64 oX] 36) := ⟨_, rfl⟩
  obtain ⟨hz2, CA, -⟩ := nine_box w (.bool true) (.string oi) (.string oj) (.string oI) (.int .i64 oV) (.int .i64 oW) (.string oG) (.string oT) (.int .i64 oX) 36
  have hb2 : Below w.heap.size w W2 := by rw [hW2]; exact (Below.refl _ w).alloc (Nat.le_refl _) _
  rw [← hW2] at hz2 CA ⊢
  clear hW2
  (with_reducible refine (DC.out _).mono ?_)
  rintro e W3 ⟨rfl, hb3⟩
  have CA3 := CA.keep hb3 (by omega)
  have hz3 : w.heap.size + 1 ≤ W3.heap.size := by have := hb3.size; omega
  have B3 := Lib.hid (hb2.trans (hb3.mono hb2.size))
  clear CA hb2 hb3 hz2
  obtain ⟨a0, a1, a2, a3, a4, a5, a6, a7, a8⟩ := CA3
  go_wp2
  go_ret
  exact ⟨rfl, B3.out⟩

set_option maxHeartbeats 4000000 in
set_option maxRecDepth 100000 in
theorem rcheck_e1 (oi oj oI : ByteArray) (oV oW : Int) (oG oT : ByteArray) (oX : Int) (h : oX < 0)
    (H1 : ∀ wx : World, Calls Tryd.prog 42 #[.agg #[.bool false, .string oi, .string oj]] wx fun e w' => e = .returned (.int .i64 0) ∧ Below wx.heap.size wx w') (w : World) :
    Calls Tryd.prog 56 #[.agg #[.bool false, .string oi, .string oj, .string oI, .int .i64 oV, .int .i64 oW, .string oG, .string oT, .int .i64 oX]] w fun e w' => e = .returned (.int .i64 40) ∧ Below w.heap.size w w' := by
  have DC := Lib.hid H1
  clear H1
  have q0 : decide (oX < 0) = true := decide_eq_true (by omega)
  clear h
  go_enter Tryd.func56, Tryd.ntmps56
  go_wp2_with fail
  obtain ⟨W2, hW2⟩ : ∃ W2, W2 = w.alloc (.cells #[.bool false, .string oi, .string oj, .string oI, .int .i64 oV, .int .i64 oW, .string oG, .string oT, .int .i64 oX] 36) := ⟨_, rfl⟩
  obtain ⟨hz2, CA, -⟩ := nine_box w (.bool false) (.string oi) (.string oj) (.string oI) (.int .i64 oV) (.int .i64 oW) (.string oG) (.string oT) (.int .i64 oX) 36
  have hb2 : Below w.heap.size w W2 := by rw [hW2]; exact (Below.refl _ w).alloc (Nat.le_refl _) _
  rw [← hW2] at hz2 CA ⊢
  clear hW2
  (with_reducible refine (DC.out _).mono ?_)
  rintro e W3 ⟨rfl, hb3⟩
  have CA3 := CA.keep hb3 (by omega)
  have hz3 : w.heap.size + 1 ≤ W3.heap.size := by have := hb3.size; omega
  have B3 := Lib.hid (hb2.trans (hb3.mono hb2.size))
  clear CA hb2 hb3 hz2
  obtain ⟨a0, a1, a2, a3, a4, a5, a6, a7, a8⟩ := CA3
  go_wp2
  go_ret
  exact ⟨rfl, B3.out⟩

set_option maxHeartbeats 4000000 in
set_option maxRecDepth 100000 in
theorem rcheck_e2 (oi oj oI : ByteArray) (oV oW : Int) (oG oT : ByteArray) (oX : Int) (h : 40 < oX)
    (H1 : ∀ wx : World, Calls Tryd.prog 42 #[.agg #[.bool false, .string oi, .string oj]] wx fun e w' => e = .returned (.int .i64 0) ∧ Below wx.heap.size wx w') (w : World) :
    Calls Tryd.prog 56 #[.agg #[.bool false, .string oi, .string oj, .string oI, .int .i64 oV, .int .i64 oW, .string oG, .string oT, .int .i64 oX]] w fun e w' => e = .returned (.int .i64 40) ∧ Below w.heap.size w w' := by
  have DC := Lib.hid H1
  clear H1
  have q0 : decide (oX < 0) = false := decide_eq_false (by omega)
  have q1 : decide (40 < oX) = true := decide_eq_true (by omega)
  clear h
  go_enter Tryd.func56, Tryd.ntmps56
  go_wp2_with fail
  obtain ⟨W2, hW2⟩ : ∃ W2, W2 = w.alloc (.cells #[.bool false, .string oi, .string oj, .string oI, .int .i64 oV, .int .i64 oW, .string oG, .string oT, .int .i64 oX] 36) := ⟨_, rfl⟩
  obtain ⟨hz2, CA, -⟩ := nine_box w (.bool false) (.string oi) (.string oj) (.string oI) (.int .i64 oV) (.int .i64 oW) (.string oG) (.string oT) (.int .i64 oX) 36
  have hb2 : Below w.heap.size w W2 := by rw [hW2]; exact (Below.refl _ w).alloc (Nat.le_refl _) _
  rw [← hW2] at hz2 CA ⊢
  clear hW2
  (with_reducible refine (DC.out _).mono ?_)
  rintro e W3 ⟨rfl, hb3⟩
  have CA3 := CA.keep hb3 (by omega)
  have hz3 : w.heap.size + 1 ≤ W3.heap.size := by have := hb3.size; omega
  have B3 := Lib.hid (hb2.trans (hb3.mono hb2.size))
  clear CA hb2 hb3 hz2
  obtain ⟨a0, a1, a2, a3, a4, a5, a6, a7, a8⟩ := CA3
  go_wp2
  go_ret
  exact ⟨rfl, B3.out⟩

set_option maxHeartbeats 4000000 in
set_option maxRecDepth 100000 in
theorem rcheck_v1 (oi oj oI : ByteArray) (oV oW : Int) (oG oT : ByteArray) (oX : Int) (h : 0 ≤ oX ∧ oX ≤ 40) (hv : oV < (oj.size : Int))
    (H1 : ∀ wx : World, Calls Tryd.prog 42 #[.agg #[.bool false, .string oi, .string oj]] wx fun e w' => e = .returned (.int .i64 0) ∧ Below wx.heap.size wx w') (w : World) :
    Calls Tryd.prog 56 #[.agg #[.bool false, .string oi, .string oj, .string oI, .int .i64 oV, .int .i64 oW, .string oG, .string oT, .int .i64 oX]] w fun e w' => e = .returned (.int .i64 40) ∧ Below w.heap.size w w' := by
  have DC := Lib.hid H1
  clear H1
  have q0 : decide (oX < 0) = false := decide_eq_false (by omega)
  have q1 : decide (40 < oX) = false := decide_eq_false (by omega)
  have q2 : decide (oV < (oj.size : Int)) = true := decide_eq_true (by omega)
  clear h hv
  go_enter Tryd.func56, Tryd.ntmps56
  go_wp2_with fail
  obtain ⟨W2, hW2⟩ : ∃ W2, W2 = w.alloc (.cells #[.bool false, .string oi, .string oj, .string oI, .int .i64 oV, .int .i64 oW, .string oG, .string oT, .int .i64 oX] 36) := ⟨_, rfl⟩
  obtain ⟨hz2, CA, -⟩ := nine_box w (.bool false) (.string oi) (.string oj) (.string oI) (.int .i64 oV) (.int .i64 oW) (.string oG) (.string oT) (.int .i64 oX) 36
  have hb2 : Below w.heap.size w W2 := by rw [hW2]; exact (Below.refl _ w).alloc (Nat.le_refl _) _
  rw [← hW2] at hz2 CA ⊢
  clear hW2
  (with_reducible refine (DC.out _).mono ?_)
  rintro e W3 ⟨rfl, hb3⟩
  have CA3 := CA.keep hb3 (by omega)
  have hz3 : w.heap.size + 1 ≤ W3.heap.size := by have := hb3.size; omega
  have B3 := Lib.hid (hb2.trans (hb3.mono hb2.size))
  clear CA hb2 hb3 hz2
  obtain ⟨a0, a1, a2, a3, a4, a5, a6, a7, a8⟩ := CA3
  go_wp2
  go_ret
  exact ⟨rfl, B3.out⟩

set_option maxHeartbeats 4000000 in
set_option maxRecDepth 100000 in
theorem rcheck_v2 (oi oj oI : ByteArray) (oV oW : Int) (oG oT : ByteArray) (oX : Int) (h : 0 ≤ oX ∧ oX ≤ 40) (hv : ¬ oV < (oj.size : Int)) (hs : oi.size ≤ 40) (hv2 : 40 - (oi.size : Int) < oV)
    (H1 : ∀ wx : World, Calls Tryd.prog 42 #[.agg #[.bool false, .string oi, .string oj]] wx fun e w' => e = .returned (.int .i64 0) ∧ Below wx.heap.size wx w') (w : World) :
    Calls Tryd.prog 56 #[.agg #[.bool false, .string oi, .string oj, .string oI, .int .i64 oV, .int .i64 oW, .string oG, .string oT, .int .i64 oX]] w fun e w' => e = .returned (.int .i64 40) ∧ Below w.heap.size w w' := by
  have DC := Lib.hid H1
  clear H1
  have q0 : decide (oX < 0) = false := decide_eq_false (by omega)
  have q1 : decide (40 < oX) = false := decide_eq_false (by omega)
  have q2 : decide (oV < (oj.size : Int)) = false := decide_eq_false (by omega)
  have wz : IntKind.i64.wrap (40 - (oi.size : Int)) = 40 - (oi.size : Int) := IntWalk.i64_in _ (by omega)
  have q3 : decide (40 - (oi.size : Int) < oV) = true := decide_eq_true (by omega)
  clear h hv hs hv2
  go_enter Tryd.func56, Tryd.ntmps56
  go_wp2_with fail
  obtain ⟨W2, hW2⟩ : ∃ W2, W2 = w.alloc (.cells #[.bool false, .string oi, .string oj, .string oI, .int .i64 oV, .int .i64 oW, .string oG, .string oT, .int .i64 oX] 36) := ⟨_, rfl⟩
  obtain ⟨hz2, CA, -⟩ := nine_box w (.bool false) (.string oi) (.string oj) (.string oI) (.int .i64 oV) (.int .i64 oW) (.string oG) (.string oT) (.int .i64 oX) 36
  have hb2 : Below w.heap.size w W2 := by rw [hW2]; exact (Below.refl _ w).alloc (Nat.le_refl _) _
  rw [← hW2] at hz2 CA ⊢
  clear hW2
  (with_reducible refine (DC.out _).mono ?_)
  rintro e W3 ⟨rfl, hb3⟩
  have CA3 := CA.keep hb3 (by omega)
  have hz3 : w.heap.size + 1 ≤ W3.heap.size := by have := hb3.size; omega
  have B3 := Lib.hid (hb2.trans (hb3.mono hb2.size))
  clear CA hb2 hb3 hz2
  obtain ⟨a0, a1, a2, a3, a4, a5, a6, a7, a8⟩ := CA3
  go_wp2
  go_ret
  exact ⟨rfl, B3.out⟩
end
section
open Go.RowKit
attribute [local go_sem ↓] Go.wp_at_zero Go.wp_at_succ

set_option maxHeartbeats 4000000 in
set_option maxRecDepth 100000 in
theorem rcheck_ok (oi oj oI : ByteArray) (oV oW : Int) (oG oT : ByteArray) (oX : Int) (pn : Bool) (pi pf : ByteArray)  (h : 0 ≤ oX ∧ oX ≤ 40) (hv : ¬ oV < (oj.size : Int)) (hs : oi.size ≤ 40) (hv2 : ¬ 40 - (oi.size : Int) < oV) 
    (H1 : ∀ wx : World, Calls Tryd.prog 42 #[.agg #[.bool false, .string oi, .string oj]] wx fun e w' => e = .returned (.int .i64 0) ∧ Below wx.heap.size wx w')
    (H2 : ∀ wx : World, Calls Tryd.prog 97 #[.agg #[.bool false, .string oi, .string oj], .int .i64 oV] wx fun e w' => e = .returned (.tuple #[.agg #[.bool pn, .string pi, .string pf], .int .i64 0]) ∧ Below wx.heap.size wx w')
    (H3 : ∀ wx : World, Calls Tryd.prog 73 #[.agg #[.bool pn, .string pi, .string pf], .int .i64 oX] wx fun e w' => e = .returned (.agg #[.bool false, .string oi, .string oj, .string oI, .int .i64 oV, .int .i64 oW, .string oG, .string oT, .int .i64 oX]) ∧ Below wx.heap.size wx w') (w : World) :
    Calls Tryd.prog 56 #[.agg #[.bool false, .string oi, .string oj, .string oI, .int .i64 oV, .int .i64 oW, .string oG, .string oT, .int .i64 oX]] w fun e w' => e = .returned (.int .i64 0) ∧ Below w.heap.size w w' := by
  have DC := Lib.hid H1
  have DP := Lib.hid H2
  have DO := Lib.hid H3
  clear H1 H2 H3
  have q0 : decide (oX < 0) = false := decide_eq_false (by omega)
  have q1 : decide (40 < oX) = false := decide_eq_false (by omega)
  have q2 : decide (oV < (oj.size : Int)) = false := decide_eq_false (by omega)
  have wz : IntKind.i64.wrap (40 - (oi.size : Int)) = 40 - (oi.size : Int) := IntWalk.i64_in _ (by omega)
  have q3 : decide (40 - (oi.size : Int) < oV) = false := decide_eq_false (by omega)
  clear h hv hs hv2
  go_enter Tryd.func56, Tryd.ntmps56
  go_wp2_with fail
  obtain ⟨W2, hW2⟩ : ∃ W2, W2 = w.alloc (.cells #[.bool false, .string oi, .string oj, .string oI, .int .i64 oV, .int .i64 oW, .string oG, .string oT, .int .i64 oX] 36) := ⟨_, rfl⟩
  obtain ⟨hz2, CA, -⟩ := nine_box w (.bool false) (.string oi) (.string oj) (.string oI) (.int .i64 oV) (.int .i64 oW) (.string oG) (.string oT) (.int .i64 oX) 36
  have hb2 : Below w.heap.size w W2 := by rw [hW2]; exact (Below.refl _ w).alloc (Nat.le_refl _) _
  rw [← hW2] at hz2 CA ⊢
  clear hW2
  (with_reducible refine (DC.out _).mono ?_)
  rintro e W3 ⟨rfl, hb3⟩
  have CA3 := CA.keep hb3 (by omega)
  have hz3 : w.heap.size + 1 ≤ W3.heap.size := by have := hb3.size; omega
  have B3 := Lib.hid (hb2.trans (hb3.mono hb2.size))
  clear CA hb2 hb3 hz2
  obtain ⟨a0, a1, a2, a3, a4, a5, a6, a7, a8⟩ := CA3
  have HA0 : Hid (Cells9 W3 w.heap.size (.bool false) (.string oi) (.string oj) (.string oI) (.int .i64 oV) (.int .i64 oW) (.string oG) (.string oT) (.int .i64 oX)) := ⟨a0, a1, a2, a3, a4, a5, a6, a7, a8⟩
  go_wp2_with fail
  clear a0 a1 a2 a3 a4 a5 a6 a7 a8
  (with_reducible refine (DP.out _).mono ?_)
  rintro e W4 ⟨rfl, hb4⟩
  obtain ⟨W5, hW5⟩ : ∃ W5, W5 = W4.alloc (.cells #[.bool pn, .string pi, .string pf] 23) := ⟨_, rfl⟩
  have ba : Below W4.heap.size W4 W5 := by rw [hW5]; exact (Below.refl _ _).alloc (Nat.le_refl _) _
  have CA4 := HA0.out.keep hb4 (by omega)
  have hz4 : w.heap.size + 1 ≤ W4.heap.size := by have := hb4.size; omega
  have CA5 := CA4.keep ba (by omega)
  have hz5 : W4.heap.size + 1 ≤ W5.heap.size := by rw [hW5]; simp
  have CX : Cells3 W5 W4.heap.size (.bool pn) (.string pi) (.string pf) := by rw [hW5]; exact (one_box _ _ _ _ _).2.1
  have B5 := Lib.hid ((B3.out.trans (hb4.mono B3.out.size)).trans (ba.mono (by have := hb4.size; have := B3.out.size; omega)))
  have HW5 := Lib.hid hW5
  clear hW5 ba CA4 HA0 hb4 B3 hz3
  obtain ⟨a0, a1, a2, a3, a4, a5, a6, a7, a8⟩ := CA5
  obtain ⟨c0, c1, c2⟩ := CX
  have HA : Hid (Cells9 W5 w.heap.size (.bool false) (.string oi) (.string oj) (.string oI) (.int .i64 oV) (.int .i64 oW) (.string oG) (.string oT) (.int .i64 oX)) := ⟨a0, a1, a2, a3, a4, a5, a6, a7, a8⟩
  have HX : Hid (Cells3 W5 W4.heap.size (.bool pn) (.string pi) (.string pf)) := ⟨c0, c1, c2⟩
  go_wp2_with fail
  rw [← HW5.out]
  go_region_held3 (fun w' => w'.cell? ⟨w.heap.size, 0, none⟩ = some (.bool false) ∧ w'.cell? ⟨w.heap.size, 1, none⟩ = some (.string oi) ∧ w'.cell? ⟨w.heap.size, 2, none⟩ = some (.string oj) ∧ w'.cell? ⟨w.heap.size, 3, none⟩ = some (.string oI) ∧ w'.cell? ⟨w.heap.size, 4, none⟩ = some (.int .i64 oV) ∧ w'.cell? ⟨w.heap.size, 5, none⟩ = some (.int .i64 oW) ∧ w'.cell? ⟨w.heap.size, 6, none⟩ = some (.string oG) ∧ w'.cell? ⟨w.heap.size, 7, none⟩ = some (.string oT) ∧ w'.cell? ⟨w.heap.size, 8, none⟩ = some (.int .i64 oX) ∧ w'.cell? ⟨W4.heap.size, 0, none⟩ = some (.bool pn) ∧ w'.cell? ⟨W4.heap.size, 1, none⟩ = some (.string pi) ∧ w'.cell? ⟨W4.heap.size, 2, none⟩ = some (.string pf))
    (first
      | (with_reducible exact ⟨a0, a1, a2, a3, a4, a5, a6, a7, a8, c0, c1, c2⟩)
      | (with_reducible exact ⟨(drew_cell _ _).trans a0, (drew_cell _ _).trans a1, (drew_cell _ _).trans a2, (drew_cell _ _).trans a3, (drew_cell _ _).trans a4, (drew_cell _ _).trans a5, (drew_cell _ _).trans a6, (drew_cell _ _).trans a7, (drew_cell _ _).trans a8, (drew_cell _ _).trans c0, (drew_cell _ _).trans c1, (drew_cell _ _).trans c2⟩)
      | (have t := HA.out.keep (undrew hbA) (by omega); have u := HX.out.keep (undrew hbA) (by omega); obtain ⟨t0, t1, t2, t3, t4, t5, t6, t7, t8⟩ := t; exact ⟨t0, t1, t2, t3, t4, t5, t6, t7, t8, u.1, u.2.1, u.2.2⟩))
    (first
      | (go_at_call 73; (with_reducible refine (DO.out _).mono ?_); rintro e wA ⟨rfl, hbA⟩))
  all_goals (go_wp2; go_ret; exact ⟨rfl, B5.out.trans ((undrew hbA).mono B5.out.size)⟩)

set_option maxHeartbeats 4000000 in
set_option maxRecDepth 100000 in
theorem rcheck_d1 (oi oj oI : ByteArray) (oV oW : Int) (oG oT : ByteArray) (oX : Int) (pn : Bool) (pi pf : ByteArray) (s1 s2 s3 : ByteArray) (s4 s5 : Int) (s6 s7 : ByteArray) (h : 0 ≤ oX ∧ oX ≤ 40) (hv : ¬ oV < (oj.size : Int)) (hs : oi.size ≤ 40) (hv2 : ¬ 40 - (oi.size : Int) < oV) (q : (s1.toList == oi.toList) = false)
    (H1 : ∀ wx : World, Calls Tryd.prog 42 #[.agg #[.bool false, .string oi, .string oj]] wx fun e w' => e = .returned (.int .i64 0) ∧ Below wx.heap.size wx w')
    (H2 : ∀ wx : World, Calls Tryd.prog 97 #[.agg #[.bool false, .string oi, .string oj], .int .i64 oV] wx fun e w' => e = .returned (.tuple #[.agg #[.bool pn, .string pi, .string pf], .int .i64 0]) ∧ Below wx.heap.size wx w')
    (H3 : ∀ wx : World, Calls Tryd.prog 73 #[.agg #[.bool pn, .string pi, .string pf], .int .i64 oX] wx fun e w' => e = .returned (.agg #[.bool false, .string s1, .string s2, .string s3, .int .i64 s4, .int .i64 s5, .string s6, .string s7, .int .i64 oX]) ∧ Below wx.heap.size wx w') (w : World) :
    Calls Tryd.prog 56 #[.agg #[.bool false, .string oi, .string oj, .string oI, .int .i64 oV, .int .i64 oW, .string oG, .string oT, .int .i64 oX]] w fun e w' => e = .returned (.int .i64 40) ∧ Below w.heap.size w w' := by
  have DC := Lib.hid H1
  have DP := Lib.hid H2
  have DO := Lib.hid H3
  clear H1 H2 H3
  have q0 : decide (oX < 0) = false := decide_eq_false (by omega)
  have q1 : decide (40 < oX) = false := decide_eq_false (by omega)
  have q2 : decide (oV < (oj.size : Int)) = false := decide_eq_false (by omega)
  have wz : IntKind.i64.wrap (40 - (oi.size : Int)) = 40 - (oi.size : Int) := IntWalk.i64_in _ (by omega)
  have q3 : decide (40 - (oi.size : Int) < oV) = false := decide_eq_false (by omega)
  clear h hv hs hv2
  go_enter Tryd.func56, Tryd.ntmps56
  go_wp2_with fail
  obtain ⟨W2, hW2⟩ : ∃ W2, W2 = w.alloc (.cells #[.bool false, .string oi, .string oj, .string oI, .int .i64 oV, .int .i64 oW, .string oG, .string oT, .int .i64 oX] 36) := ⟨_, rfl⟩
  obtain ⟨hz2, CA, -⟩ := nine_box w (.bool false) (.string oi) (.string oj) (.string oI) (.int .i64 oV) (.int .i64 oW) (.string oG) (.string oT) (.int .i64 oX) 36
  have hb2 : Below w.heap.size w W2 := by rw [hW2]; exact (Below.refl _ w).alloc (Nat.le_refl _) _
  rw [← hW2] at hz2 CA ⊢
  clear hW2
  (with_reducible refine (DC.out _).mono ?_)
  rintro e W3 ⟨rfl, hb3⟩
  have CA3 := CA.keep hb3 (by omega)
  have hz3 : w.heap.size + 1 ≤ W3.heap.size := by have := hb3.size; omega
  have B3 := Lib.hid (hb2.trans (hb3.mono hb2.size))
  clear CA hb2 hb3 hz2
  obtain ⟨a0, a1, a2, a3, a4, a5, a6, a7, a8⟩ := CA3
  have HA0 : Hid (Cells9 W3 w.heap.size (.bool false) (.string oi) (.string oj) (.string oI) (.int .i64 oV) (.int .i64 oW) (.string oG) (.string oT) (.int .i64 oX)) := ⟨a0, a1, a2, a3, a4, a5, a6, a7, a8⟩
  go_wp2_with fail
  clear a0 a1 a2 a3 a4 a5 a6 a7 a8
  (with_reducible refine (DP.out _).mono ?_)
  rintro e W4 ⟨rfl, hb4⟩
  obtain ⟨W5, hW5⟩ : ∃ W5, W5 = W4.alloc (.cells #[.bool pn, .string pi, .string pf] 23) := ⟨_, rfl⟩
  have ba : Below W4.heap.size W4 W5 := by rw [hW5]; exact (Below.refl _ _).alloc (Nat.le_refl _) _
  have CA4 := HA0.out.keep hb4 (by omega)
  have hz4 : w.heap.size + 1 ≤ W4.heap.size := by have := hb4.size; omega
  have CA5 := CA4.keep ba (by omega)
  have hz5 : W4.heap.size + 1 ≤ W5.heap.size := by rw [hW5]; simp
  have CX : Cells3 W5 W4.heap.size (.bool pn) (.string pi) (.string pf) := by rw [hW5]; exact (one_box _ _ _ _ _).2.1
  have B5 := Lib.hid ((B3.out.trans (hb4.mono B3.out.size)).trans (ba.mono (by have := hb4.size; have := B3.out.size; omega)))
  have HW5 := Lib.hid hW5
  clear hW5 ba CA4 HA0 hb4 B3 hz3
  obtain ⟨a0, a1, a2, a3, a4, a5, a6, a7, a8⟩ := CA5
  obtain ⟨c0, c1, c2⟩ := CX
  have HA : Hid (Cells9 W5 w.heap.size (.bool false) (.string oi) (.string oj) (.string oI) (.int .i64 oV) (.int .i64 oW) (.string oG) (.string oT) (.int .i64 oX)) := ⟨a0, a1, a2, a3, a4, a5, a6, a7, a8⟩
  have HX : Hid (Cells3 W5 W4.heap.size (.bool pn) (.string pi) (.string pf)) := ⟨c0, c1, c2⟩
  go_wp2_with fail
  rw [← HW5.out]
  go_region_held3 (fun w' => w'.cell? ⟨w.heap.size, 0, none⟩ = some (.bool false) ∧ w'.cell? ⟨w.heap.size, 1, none⟩ = some (.string oi) ∧ w'.cell? ⟨w.heap.size, 2, none⟩ = some (.string oj) ∧ w'.cell? ⟨w.heap.size, 3, none⟩ = some (.string oI) ∧ w'.cell? ⟨w.heap.size, 4, none⟩ = some (.int .i64 oV) ∧ w'.cell? ⟨w.heap.size, 5, none⟩ = some (.int .i64 oW) ∧ w'.cell? ⟨w.heap.size, 6, none⟩ = some (.string oG) ∧ w'.cell? ⟨w.heap.size, 7, none⟩ = some (.string oT) ∧ w'.cell? ⟨w.heap.size, 8, none⟩ = some (.int .i64 oX) ∧ w'.cell? ⟨W4.heap.size, 0, none⟩ = some (.bool pn) ∧ w'.cell? ⟨W4.heap.size, 1, none⟩ = some (.string pi) ∧ w'.cell? ⟨W4.heap.size, 2, none⟩ = some (.string pf))
    (first
      | (with_reducible exact ⟨a0, a1, a2, a3, a4, a5, a6, a7, a8, c0, c1, c2⟩)
      | (with_reducible exact ⟨(drew_cell _ _).trans a0, (drew_cell _ _).trans a1, (drew_cell _ _).trans a2, (drew_cell _ _).trans a3, (drew_cell _ _).trans a4, (drew_cell _ _).trans a5, (drew_cell _ _).trans a6, (drew_cell _ _).trans a7, (drew_cell _ _).trans a8, (drew_cell _ _).trans c0, (drew_cell _ _).trans c1, (drew_cell _ _).trans c2⟩)
      | (have t := HA.out.keep (undrew hbA) (by omega); have u := HX.out.keep (undrew hbA) (by omega); obtain ⟨t0, t1, t2, t3, t4, t5, t6, t7, t8⟩ := t; exact ⟨t0, t1, t2, t3, t4, t5, t6, t7, t8, u.1, u.2.1, u.2.2⟩))
    (first
      | (go_at_call 73; (with_reducible refine (DO.out _).mono ?_); rintro e wA ⟨rfl, hbA⟩))
  all_goals (go_wp2; go_ret; exact ⟨rfl, B5.out.trans ((undrew hbA).mono B5.out.size)⟩)

set_option maxHeartbeats 4000000 in
set_option maxRecDepth 100000 in
theorem rcheck_d2 (oi oj oI : ByteArray) (oV oW : Int) (oG oT : ByteArray) (oX : Int) (pn : Bool) (pi pf : ByteArray) (s1 s2 s3 : ByteArray) (s4 s5 : Int) (s6 s7 : ByteArray) (h : 0 ≤ oX ∧ oX ≤ 40) (hv : ¬ oV < (oj.size : Int)) (hs : oi.size ≤ 40) (hv2 : ¬ 40 - (oi.size : Int) < oV) (q : (s2.toList == oj.toList) = false)
    (H1 : ∀ wx : World, Calls Tryd.prog 42 #[.agg #[.bool false, .string oi, .string oj]] wx fun e w' => e = .returned (.int .i64 0) ∧ Below wx.heap.size wx w')
    (H2 : ∀ wx : World, Calls Tryd.prog 97 #[.agg #[.bool false, .string oi, .string oj], .int .i64 oV] wx fun e w' => e = .returned (.tuple #[.agg #[.bool pn, .string pi, .string pf], .int .i64 0]) ∧ Below wx.heap.size wx w')
    (H3 : ∀ wx : World, Calls Tryd.prog 73 #[.agg #[.bool pn, .string pi, .string pf], .int .i64 oX] wx fun e w' => e = .returned (.agg #[.bool false, .string s1, .string s2, .string s3, .int .i64 s4, .int .i64 s5, .string s6, .string s7, .int .i64 oX]) ∧ Below wx.heap.size wx w') (w : World) :
    Calls Tryd.prog 56 #[.agg #[.bool false, .string oi, .string oj, .string oI, .int .i64 oV, .int .i64 oW, .string oG, .string oT, .int .i64 oX]] w fun e w' => e = .returned (.int .i64 40) ∧ Below w.heap.size w w' := by
  have DC := Lib.hid H1
  have DP := Lib.hid H2
  have DO := Lib.hid H3
  clear H1 H2 H3
  have q0 : decide (oX < 0) = false := decide_eq_false (by omega)
  have q1 : decide (40 < oX) = false := decide_eq_false (by omega)
  have q2 : decide (oV < (oj.size : Int)) = false := decide_eq_false (by omega)
  have wz : IntKind.i64.wrap (40 - (oi.size : Int)) = 40 - (oi.size : Int) := IntWalk.i64_in _ (by omega)
  have q3 : decide (40 - (oi.size : Int) < oV) = false := decide_eq_false (by omega)
  clear h hv hs hv2
  go_enter Tryd.func56, Tryd.ntmps56
  go_wp2_with fail
  obtain ⟨W2, hW2⟩ : ∃ W2, W2 = w.alloc (.cells #[.bool false, .string oi, .string oj, .string oI, .int .i64 oV, .int .i64 oW, .string oG, .string oT, .int .i64 oX] 36) := ⟨_, rfl⟩
  obtain ⟨hz2, CA, -⟩ := nine_box w (.bool false) (.string oi) (.string oj) (.string oI) (.int .i64 oV) (.int .i64 oW) (.string oG) (.string oT) (.int .i64 oX) 36
  have hb2 : Below w.heap.size w W2 := by rw [hW2]; exact (Below.refl _ w).alloc (Nat.le_refl _) _
  rw [← hW2] at hz2 CA ⊢
  clear hW2
  (with_reducible refine (DC.out _).mono ?_)
  rintro e W3 ⟨rfl, hb3⟩
  have CA3 := CA.keep hb3 (by omega)
  have hz3 : w.heap.size + 1 ≤ W3.heap.size := by have := hb3.size; omega
  have B3 := Lib.hid (hb2.trans (hb3.mono hb2.size))
  clear CA hb2 hb3 hz2
  obtain ⟨a0, a1, a2, a3, a4, a5, a6, a7, a8⟩ := CA3
  have HA0 : Hid (Cells9 W3 w.heap.size (.bool false) (.string oi) (.string oj) (.string oI) (.int .i64 oV) (.int .i64 oW) (.string oG) (.string oT) (.int .i64 oX)) := ⟨a0, a1, a2, a3, a4, a5, a6, a7, a8⟩
  go_wp2_with fail
  clear a0 a1 a2 a3 a4 a5 a6 a7 a8
  (with_reducible refine (DP.out _).mono ?_)
  rintro e W4 ⟨rfl, hb4⟩
  obtain ⟨W5, hW5⟩ : ∃ W5, W5 = W4.alloc (.cells #[.bool pn, .string pi, .string pf] 23) := ⟨_, rfl⟩
  have ba : Below W4.heap.size W4 W5 := by rw [hW5]; exact (Below.refl _ _).alloc (Nat.le_refl _) _
  have CA4 := HA0.out.keep hb4 (by omega)
  have hz4 : w.heap.size + 1 ≤ W4.heap.size := by have := hb4.size; omega
  have CA5 := CA4.keep ba (by omega)
  have hz5 : W4.heap.size + 1 ≤ W5.heap.size := by rw [hW5]; simp
  have CX : Cells3 W5 W4.heap.size (.bool pn) (.string pi) (.string pf) := by rw [hW5]; exact (one_box _ _ _ _ _).2.1
  have B5 := Lib.hid ((B3.out.trans (hb4.mono B3.out.size)).trans (ba.mono (by have := hb4.size; have := B3.out.size; omega)))
  have HW5 := Lib.hid hW5
  clear hW5 ba CA4 HA0 hb4 B3 hz3
  obtain ⟨a0, a1, a2, a3, a4, a5, a6, a7, a8⟩ := CA5
  obtain ⟨c0, c1, c2⟩ := CX
  have HA : Hid (Cells9 W5 w.heap.size (.bool false) (.string oi) (.string oj) (.string oI) (.int .i64 oV) (.int .i64 oW) (.string oG) (.string oT) (.int .i64 oX)) := ⟨a0, a1, a2, a3, a4, a5, a6, a7, a8⟩
  have HX : Hid (Cells3 W5 W4.heap.size (.bool pn) (.string pi) (.string pf)) := ⟨c0, c1, c2⟩
  go_wp2_with fail
  rw [← HW5.out]
  go_region_held3 (fun w' => w'.cell? ⟨w.heap.size, 0, none⟩ = some (.bool false) ∧ w'.cell? ⟨w.heap.size, 1, none⟩ = some (.string oi) ∧ w'.cell? ⟨w.heap.size, 2, none⟩ = some (.string oj) ∧ w'.cell? ⟨w.heap.size, 3, none⟩ = some (.string oI) ∧ w'.cell? ⟨w.heap.size, 4, none⟩ = some (.int .i64 oV) ∧ w'.cell? ⟨w.heap.size, 5, none⟩ = some (.int .i64 oW) ∧ w'.cell? ⟨w.heap.size, 6, none⟩ = some (.string oG) ∧ w'.cell? ⟨w.heap.size, 7, none⟩ = some (.string oT) ∧ w'.cell? ⟨w.heap.size, 8, none⟩ = some (.int .i64 oX) ∧ w'.cell? ⟨W4.heap.size, 0, none⟩ = some (.bool pn) ∧ w'.cell? ⟨W4.heap.size, 1, none⟩ = some (.string pi) ∧ w'.cell? ⟨W4.heap.size, 2, none⟩ = some (.string pf))
    (first
      | (with_reducible exact ⟨a0, a1, a2, a3, a4, a5, a6, a7, a8, c0, c1, c2⟩)
      | (with_reducible exact ⟨(drew_cell _ _).trans a0, (drew_cell _ _).trans a1, (drew_cell _ _).trans a2, (drew_cell _ _).trans a3, (drew_cell _ _).trans a4, (drew_cell _ _).trans a5, (drew_cell _ _).trans a6, (drew_cell _ _).trans a7, (drew_cell _ _).trans a8, (drew_cell _ _).trans c0, (drew_cell _ _).trans c1, (drew_cell _ _).trans c2⟩)
      | (have t := HA.out.keep (undrew hbA) (by omega); have u := HX.out.keep (undrew hbA) (by omega); obtain ⟨t0, t1, t2, t3, t4, t5, t6, t7, t8⟩ := t; exact ⟨t0, t1, t2, t3, t4, t5, t6, t7, t8, u.1, u.2.1, u.2.2⟩))
    (first
      | (go_at_call 73; (with_reducible refine (DO.out _).mono ?_); rintro e wA ⟨rfl, hbA⟩))
  all_goals (go_wp2; go_ret; exact ⟨rfl, B5.out.trans ((undrew hbA).mono B5.out.size)⟩)

set_option maxHeartbeats 4000000 in
set_option maxRecDepth 100000 in
theorem rcheck_d3 (oi oj oI : ByteArray) (oV oW : Int) (oG oT : ByteArray) (oX : Int) (pn : Bool) (pi pf : ByteArray) (s1 s2 s3 : ByteArray) (s4 s5 : Int) (s6 s7 : ByteArray) (h : 0 ≤ oX ∧ oX ≤ 40) (hv : ¬ oV < (oj.size : Int)) (hs : oi.size ≤ 40) (hv2 : ¬ 40 - (oi.size : Int) < oV) (q : (s3.toList == oI.toList) = false)
    (H1 : ∀ wx : World, Calls Tryd.prog 42 #[.agg #[.bool false, .string oi, .string oj]] wx fun e w' => e = .returned (.int .i64 0) ∧ Below wx.heap.size wx w')
    (H2 : ∀ wx : World, Calls Tryd.prog 97 #[.agg #[.bool false, .string oi, .string oj], .int .i64 oV] wx fun e w' => e = .returned (.tuple #[.agg #[.bool pn, .string pi, .string pf], .int .i64 0]) ∧ Below wx.heap.size wx w')
    (H3 : ∀ wx : World, Calls Tryd.prog 73 #[.agg #[.bool pn, .string pi, .string pf], .int .i64 oX] wx fun e w' => e = .returned (.agg #[.bool false, .string s1, .string s2, .string s3, .int .i64 s4, .int .i64 s5, .string s6, .string s7, .int .i64 oX]) ∧ Below wx.heap.size wx w') (w : World) :
    Calls Tryd.prog 56 #[.agg #[.bool false, .string oi, .string oj, .string oI, .int .i64 oV, .int .i64 oW, .string oG, .string oT, .int .i64 oX]] w fun e w' => e = .returned (.int .i64 40) ∧ Below w.heap.size w w' := by
  have DC := Lib.hid H1
  have DP := Lib.hid H2
  have DO := Lib.hid H3
  clear H1 H2 H3
  have q0 : decide (oX < 0) = false := decide_eq_false (by omega)
  have q1 : decide (40 < oX) = false := decide_eq_false (by omega)
  have q2 : decide (oV < (oj.size : Int)) = false := decide_eq_false (by omega)
  have wz : IntKind.i64.wrap (40 - (oi.size : Int)) = 40 - (oi.size : Int) := IntWalk.i64_in _ (by omega)
  have q3 : decide (40 - (oi.size : Int) < oV) = false := decide_eq_false (by omega)
  clear h hv hs hv2
  go_enter Tryd.func56, Tryd.ntmps56
  go_wp2_with fail
  obtain ⟨W2, hW2⟩ : ∃ W2, W2 = w.alloc (.cells #[.bool false, .string oi, .string oj, .string oI, .int .i64 oV, .int .i64 oW, .string oG, .string oT, .int .i64 oX] 36) := ⟨_, rfl⟩
  obtain ⟨hz2, CA, -⟩ := nine_box w (.bool false) (.string oi) (.string oj) (.string oI) (.int .i64 oV) (.int .i64 oW) (.string oG) (.string oT) (.int .i64 oX) 36
  have hb2 : Below w.heap.size w W2 := by rw [hW2]; exact (Below.refl _ w).alloc (Nat.le_refl _) _
  rw [← hW2] at hz2 CA ⊢
  clear hW2
  (with_reducible refine (DC.out _).mono ?_)
  rintro e W3 ⟨rfl, hb3⟩
  have CA3 := CA.keep hb3 (by omega)
  have hz3 : w.heap.size + 1 ≤ W3.heap.size := by have := hb3.size; omega
  have B3 := Lib.hid (hb2.trans (hb3.mono hb2.size))
  clear CA hb2 hb3 hz2
  obtain ⟨a0, a1, a2, a3, a4, a5, a6, a7, a8⟩ := CA3
  have HA0 : Hid (Cells9 W3 w.heap.size (.bool false) (.string oi) (.string oj) (.string oI) (.int .i64 oV) (.int .i64 oW) (.string oG) (.string oT) (.int .i64 oX)) := ⟨a0, a1, a2, a3, a4, a5, a6, a7, a8⟩
  go_wp2_with fail
  clear a0 a1 a2 a3 a4 a5 a6 a7 a8
  (with_reducible refine (DP.out _).mono ?_)
  rintro e W4 ⟨rfl, hb4⟩
  obtain ⟨W5, hW5⟩ : ∃ W5, W5 = W4.alloc (.cells #[.bool pn, .string pi, .string pf] 23) := ⟨_, rfl⟩
  have ba : Below W4.heap.size W4 W5 := by rw [hW5]; exact (Below.refl _ _).alloc (Nat.le_refl _) _
  have CA4 := HA0.out.keep hb4 (by omega)
  have hz4 : w.heap.size + 1 ≤ W4.heap.size := by have := hb4.size; omega
  have CA5 := CA4.keep ba (by omega)
  have hz5 : W4.heap.size + 1 ≤ W5.heap.size := by rw [hW5]; simp
  have CX : Cells3 W5 W4.heap.size (.bool pn) (.string pi) (.string pf) := by rw [hW5]; exact (one_box _ _ _ _ _).2.1
  have B5 := Lib.hid ((B3.out.trans (hb4.mono B3.out.size)).trans (ba.mono (by have := hb4.size; have := B3.out.size; omega)))
  have HW5 := Lib.hid hW5
  clear hW5 ba CA4 HA0 hb4 B3 hz3
  obtain ⟨a0, a1, a2, a3, a4, a5, a6, a7, a8⟩ := CA5
  obtain ⟨c0, c1, c2⟩ := CX
  have HA : Hid (Cells9 W5 w.heap.size (.bool false) (.string oi) (.string oj) (.string oI) (.int .i64 oV) (.int .i64 oW) (.string oG) (.string oT) (.int .i64 oX)) := ⟨a0, a1, a2, a3, a4, a5, a6, a7, a8⟩
  have HX : Hid (Cells3 W5 W4.heap.size (.bool pn) (.string pi) (.string pf)) := ⟨c0, c1, c2⟩
  go_wp2_with fail
  rw [← HW5.out]
  go_region_held3 (fun w' => w'.cell? ⟨w.heap.size, 0, none⟩ = some (.bool false) ∧ w'.cell? ⟨w.heap.size, 1, none⟩ = some (.string oi) ∧ w'.cell? ⟨w.heap.size, 2, none⟩ = some (.string oj) ∧ w'.cell? ⟨w.heap.size, 3, none⟩ = some (.string oI) ∧ w'.cell? ⟨w.heap.size, 4, none⟩ = some (.int .i64 oV) ∧ w'.cell? ⟨w.heap.size, 5, none⟩ = some (.int .i64 oW) ∧ w'.cell? ⟨w.heap.size, 6, none⟩ = some (.string oG) ∧ w'.cell? ⟨w.heap.size, 7, none⟩ = some (.string oT) ∧ w'.cell? ⟨w.heap.size, 8, none⟩ = some (.int .i64 oX) ∧ w'.cell? ⟨W4.heap.size, 0, none⟩ = some (.bool pn) ∧ w'.cell? ⟨W4.heap.size, 1, none⟩ = some (.string pi) ∧ w'.cell? ⟨W4.heap.size, 2, none⟩ = some (.string pf))
    (first
      | (with_reducible exact ⟨a0, a1, a2, a3, a4, a5, a6, a7, a8, c0, c1, c2⟩)
      | (with_reducible exact ⟨(drew_cell _ _).trans a0, (drew_cell _ _).trans a1, (drew_cell _ _).trans a2, (drew_cell _ _).trans a3, (drew_cell _ _).trans a4, (drew_cell _ _).trans a5, (drew_cell _ _).trans a6, (drew_cell _ _).trans a7, (drew_cell _ _).trans a8, (drew_cell _ _).trans c0, (drew_cell _ _).trans c1, (drew_cell _ _).trans c2⟩)
      | (have t := HA.out.keep (undrew hbA) (by omega); have u := HX.out.keep (undrew hbA) (by omega); obtain ⟨t0, t1, t2, t3, t4, t5, t6, t7, t8⟩ := t; exact ⟨t0, t1, t2, t3, t4, t5, t6, t7, t8, u.1, u.2.1, u.2.2⟩))
    (first
      | (go_at_call 73; (with_reducible refine (DO.out _).mono ?_); rintro e wA ⟨rfl, hbA⟩))
  all_goals (go_wp2; go_ret; exact ⟨rfl, B5.out.trans ((undrew hbA).mono B5.out.size)⟩)
end
section
open Go.RowKit
attribute [local go_sem ↓] Go.wp_at_zero Go.wp_at_succ

set_option maxHeartbeats 4000000 in
set_option maxRecDepth 100000 in
theorem rcheck_d4 (oi oj oI : ByteArray) (oV oW : Int) (oG oT : ByteArray) (oX : Int) (pn : Bool) (pi pf : ByteArray) (s1 s2 s3 : ByteArray) (s4 s5 : Int) (s6 s7 : ByteArray) (h : 0 ≤ oX ∧ oX ≤ 40) (hv : ¬ oV < (oj.size : Int)) (hs : oi.size ≤ 40) (hv2 : ¬ 40 - (oi.size : Int) < oV) (q : (s4 == oV) = false)
    (H1 : ∀ wx : World, Calls Tryd.prog 42 #[.agg #[.bool false, .string oi, .string oj]] wx fun e w' => e = .returned (.int .i64 0) ∧ Below wx.heap.size wx w')
    (H2 : ∀ wx : World, Calls Tryd.prog 97 #[.agg #[.bool false, .string oi, .string oj], .int .i64 oV] wx fun e w' => e = .returned (.tuple #[.agg #[.bool pn, .string pi, .string pf], .int .i64 0]) ∧ Below wx.heap.size wx w')
    (H3 : ∀ wx : World, Calls Tryd.prog 73 #[.agg #[.bool pn, .string pi, .string pf], .int .i64 oX] wx fun e w' => e = .returned (.agg #[.bool false, .string s1, .string s2, .string s3, .int .i64 s4, .int .i64 s5, .string s6, .string s7, .int .i64 oX]) ∧ Below wx.heap.size wx w') (w : World) :
    Calls Tryd.prog 56 #[.agg #[.bool false, .string oi, .string oj, .string oI, .int .i64 oV, .int .i64 oW, .string oG, .string oT, .int .i64 oX]] w fun e w' => e = .returned (.int .i64 40) ∧ Below w.heap.size w w' := by
  have DC := Lib.hid H1
  have DP := Lib.hid H2
  have DO := Lib.hid H3
  clear H1 H2 H3
  have q0 : decide (oX < 0) = false := decide_eq_false (by omega)
  have q1 : decide (40 < oX) = false := decide_eq_false (by omega)
  have q2 : decide (oV < (oj.size : Int)) = false := decide_eq_false (by omega)
  have wz : IntKind.i64.wrap (40 - (oi.size : Int)) = 40 - (oi.size : Int) := IntWalk.i64_in _ (by omega)
  have q3 : decide (40 - (oi.size : Int) < oV) = false := decide_eq_false (by omega)
  clear h hv hs hv2
  go_enter Tryd.func56, Tryd.ntmps56
  go_wp2_with fail
  obtain ⟨W2, hW2⟩ : ∃ W2, W2 = w.alloc (.cells #[.bool false, .string oi, .string oj, .string oI, .int .i64 oV, .int .i64 oW, .string oG, .string oT, .int .i64 oX] 36) := ⟨_, rfl⟩
  obtain ⟨hz2, CA, -⟩ := nine_box w (.bool false) (.string oi) (.string oj) (.string oI) (.int .i64 oV) (.int .i64 oW) (.string oG) (.string oT) (.int .i64 oX) 36
  have hb2 : Below w.heap.size w W2 := by rw [hW2]; exact (Below.refl _ w).alloc (Nat.le_refl _) _
  rw [← hW2] at hz2 CA ⊢
  clear hW2
  (with_reducible refine (DC.out _).mono ?_)
  rintro e W3 ⟨rfl, hb3⟩
  have CA3 := CA.keep hb3 (by omega)
  have hz3 : w.heap.size + 1 ≤ W3.heap.size := by have := hb3.size; omega
  have B3 := Lib.hid (hb2.trans (hb3.mono hb2.size))
  clear CA hb2 hb3 hz2
  obtain ⟨a0, a1, a2, a3, a4, a5, a6, a7, a8⟩ := CA3
  have HA0 : Hid (Cells9 W3 w.heap.size (.bool false) (.string oi) (.string oj) (.string oI) (.int .i64 oV) (.int .i64 oW) (.string oG) (.string oT) (.int .i64 oX)) := ⟨a0, a1, a2, a3, a4, a5, a6, a7, a8⟩
  go_wp2_with fail
  clear a0 a1 a2 a3 a4 a5 a6 a7 a8
  (with_reducible refine (DP.out _).mono ?_)
  rintro e W4 ⟨rfl, hb4⟩
  obtain ⟨W5, hW5⟩ : ∃ W5, W5 = W4.alloc (.cells #[.bool pn, .string pi, .string pf] 23) := ⟨_, rfl⟩
  have ba : Below W4.heap.size W4 W5 := by rw [hW5]; exact (Below.refl _ _).alloc (Nat.le_refl _) _
  have CA4 := HA0.out.keep hb4 (by omega)
  have hz4 : w.heap.size + 1 ≤ W4.heap.size := by have := hb4.size; omega
  have CA5 := CA4.keep ba (by omega)
  have hz5 : W4.heap.size + 1 ≤ W5.heap.size := by rw [hW5]; simp
  have CX : Cells3 W5 W4.heap.size (.bool pn) (.string pi) (.string pf) := by rw [hW5]; exact (one_box _ _ _ _ _).2.1
  have B5 := Lib.hid ((B3.out.trans (hb4.mono B3.out.size)).trans (ba.mono (by have := hb4.size; have := B3.out.size; omega)))
  have HW5 := Lib.hid hW5
  clear hW5 ba CA4 HA0 hb4 B3 hz3
  obtain ⟨a0, a1, a2, a3, a4, a5, a6, a7, a8⟩ := CA5
  obtain ⟨c0, c1, c2⟩ := CX
  have HA : Hid (Cells9 W5 w.heap.size (.bool false) (.string oi) (.string oj) (.string oI) (.int .i64 oV) (.int .i64 oW) (.string oG) (.string oT) (.int .i64 oX)) := ⟨a0, a1, a2, a3, a4, a5, a6, a7, a8⟩
  have HX : Hid (Cells3 W5 W4.heap.size (.bool pn) (.string pi) (.string pf)) := ⟨c0, c1, c2⟩
  go_wp2_with fail
  rw [← HW5.out]
  go_region_held3 (fun w' => w'.cell? ⟨w.heap.size, 0, none⟩ = some (.bool false) ∧ w'.cell? ⟨w.heap.size, 1, none⟩ = some (.string oi) ∧ w'.cell? ⟨w.heap.size, 2, none⟩ = some (.string oj) ∧ w'.cell? ⟨w.heap.size, 3, none⟩ = some (.string oI) ∧ w'.cell? ⟨w.heap.size, 4, none⟩ = some (.int .i64 oV) ∧ w'.cell? ⟨w.heap.size, 5, none⟩ = some (.int .i64 oW) ∧ w'.cell? ⟨w.heap.size, 6, none⟩ = some (.string oG) ∧ w'.cell? ⟨w.heap.size, 7, none⟩ = some (.string oT) ∧ w'.cell? ⟨w.heap.size, 8, none⟩ = some (.int .i64 oX) ∧ w'.cell? ⟨W4.heap.size, 0, none⟩ = some (.bool pn) ∧ w'.cell? ⟨W4.heap.size, 1, none⟩ = some (.string pi) ∧ w'.cell? ⟨W4.heap.size, 2, none⟩ = some (.string pf))
    (first
      | (with_reducible exact ⟨a0, a1, a2, a3, a4, a5, a6, a7, a8, c0, c1, c2⟩)
      | (with_reducible exact ⟨(drew_cell _ _).trans a0, (drew_cell _ _).trans a1, (drew_cell _ _).trans a2, (drew_cell _ _).trans a3, (drew_cell _ _).trans a4, (drew_cell _ _).trans a5, (drew_cell _ _).trans a6, (drew_cell _ _).trans a7, (drew_cell _ _).trans a8, (drew_cell _ _).trans c0, (drew_cell _ _).trans c1, (drew_cell _ _).trans c2⟩)
      | (have t := HA.out.keep (undrew hbA) (by omega); have u := HX.out.keep (undrew hbA) (by omega); obtain ⟨t0, t1, t2, t3, t4, t5, t6, t7, t8⟩ := t; exact ⟨t0, t1, t2, t3, t4, t5, t6, t7, t8, u.1, u.2.1, u.2.2⟩))
    (first
      | (go_at_call 73; (with_reducible refine (DO.out _).mono ?_); rintro e wA ⟨rfl, hbA⟩))
  all_goals (go_wp2; go_ret; exact ⟨rfl, B5.out.trans ((undrew hbA).mono B5.out.size)⟩)

set_option maxHeartbeats 4000000 in
set_option maxRecDepth 100000 in
theorem rcheck_d5 (oi oj oI : ByteArray) (oV oW : Int) (oG oT : ByteArray) (oX : Int) (pn : Bool) (pi pf : ByteArray) (s1 s2 s3 : ByteArray) (s4 s5 : Int) (s6 s7 : ByteArray) (h : 0 ≤ oX ∧ oX ≤ 40) (hv : ¬ oV < (oj.size : Int)) (hs : oi.size ≤ 40) (hv2 : ¬ 40 - (oi.size : Int) < oV) (q : (s5 == oW) = false)
    (H1 : ∀ wx : World, Calls Tryd.prog 42 #[.agg #[.bool false, .string oi, .string oj]] wx fun e w' => e = .returned (.int .i64 0) ∧ Below wx.heap.size wx w')
    (H2 : ∀ wx : World, Calls Tryd.prog 97 #[.agg #[.bool false, .string oi, .string oj], .int .i64 oV] wx fun e w' => e = .returned (.tuple #[.agg #[.bool pn, .string pi, .string pf], .int .i64 0]) ∧ Below wx.heap.size wx w')
    (H3 : ∀ wx : World, Calls Tryd.prog 73 #[.agg #[.bool pn, .string pi, .string pf], .int .i64 oX] wx fun e w' => e = .returned (.agg #[.bool false, .string s1, .string s2, .string s3, .int .i64 s4, .int .i64 s5, .string s6, .string s7, .int .i64 oX]) ∧ Below wx.heap.size wx w') (w : World) :
    Calls Tryd.prog 56 #[.agg #[.bool false, .string oi, .string oj, .string oI, .int .i64 oV, .int .i64 oW, .string oG, .string oT, .int .i64 oX]] w fun e w' => e = .returned (.int .i64 40) ∧ Below w.heap.size w w' := by
  have DC := Lib.hid H1
  have DP := Lib.hid H2
  have DO := Lib.hid H3
  clear H1 H2 H3
  have q0 : decide (oX < 0) = false := decide_eq_false (by omega)
  have q1 : decide (40 < oX) = false := decide_eq_false (by omega)
  have q2 : decide (oV < (oj.size : Int)) = false := decide_eq_false (by omega)
  have wz : IntKind.i64.wrap (40 - (oi.size : Int)) = 40 - (oi.size : Int) := IntWalk.i64_in _ (by omega)
  have q3 : decide (40 - (oi.size : Int) < oV) = false := decide_eq_false (by omega)
  clear h hv hs hv2
  go_enter Tryd.func56, Tryd.ntmps56
  go_wp2_with fail
  obtain ⟨W2, hW2⟩ : ∃ W2, W2 = w.alloc (.cells #[.bool false, .string oi, .string oj, .string oI, .int .i64 oV, .int .i64 oW, .string oG, .string oT, .int .i64 oX] 36) := ⟨_, rfl⟩
  obtain ⟨hz2, CA, -⟩ := nine_box w (.bool false) (.string oi) (.string oj) (.string oI) (.int .i64 oV) (.int .i64 oW) (.string oG) (.string oT) (.int .i64 oX) 36
  have hb2 : Below w.heap.size w W2 := by rw [hW2]; exact (Below.refl _ w).alloc (Nat.le_refl _) _
  rw [← hW2] at hz2 CA ⊢
  clear hW2
  (with_reducible refine (DC.out _).mono ?_)
  rintro e W3 ⟨rfl, hb3⟩
  have CA3 := CA.keep hb3 (by omega)
  have hz3 : w.heap.size + 1 ≤ W3.heap.size := by have := hb3.size; omega
  have B3 := Lib.hid (hb2.trans (hb3.mono hb2.size))
  clear CA hb2 hb3 hz2
  obtain ⟨a0, a1, a2, a3, a4, a5, a6, a7, a8⟩ := CA3
  have HA0 : Hid (Cells9 W3 w.heap.size (.bool false) (.string oi) (.string oj) (.string oI) (.int .i64 oV) (.int .i64 oW) (.string oG) (.string oT) (.int .i64 oX)) := ⟨a0, a1, a2, a3, a4, a5, a6, a7, a8⟩
  go_wp2_with fail
  clear a0 a1 a2 a3 a4 a5 a6 a7 a8
  (with_reducible refine (DP.out _).mono ?_)
  rintro e W4 ⟨rfl, hb4⟩
  obtain ⟨W5, hW5⟩ : ∃ W5, W5 = W4.alloc (.cells #[.bool pn, .string pi, .string pf] 23) := ⟨_, rfl⟩
  have ba : Below W4.heap.size W4 W5 := by rw [hW5]; exact (Below.refl _ _).alloc (Nat.le_refl _) _
  have CA4 := HA0.out.keep hb4 (by omega)
  have hz4 : w.heap.size + 1 ≤ W4.heap.size := by have := hb4.size; omega
  have CA5 := CA4.keep ba (by omega)
  have hz5 : W4.heap.size + 1 ≤ W5.heap.size := by rw [hW5]; simp
  have CX : Cells3 W5 W4.heap.size (.bool pn) (.string pi) (.string pf) := by rw [hW5]; exact (one_box _ _ _ _ _).2.1
  have B5 := Lib.hid ((B3.out.trans (hb4.mono B3.out.size)).trans (ba.mono (by have := hb4.size; have := B3.out.size; omega)))
  have HW5 := Lib.hid hW5
  clear hW5 ba CA4 HA0 hb4 B3 hz3
  obtain ⟨a0, a1, a2, a3, a4, a5, a6, a7, a8⟩ := CA5
  obtain ⟨c0, c1, c2⟩ := CX
  have HA : Hid (Cells9 W5 w.heap.size (.bool false) (.string oi) (.string oj) (.string oI) (.int .i64 oV) (.int .i64 oW) (.string oG) (.string oT) (.int .i64 oX)) := ⟨a0, a1, a2, a3, a4, a5, a6, a7, a8⟩
  have HX : Hid (Cells3 W5 W4.heap.size (.bool pn) (.string pi) (.string pf)) := ⟨c0, c1, c2⟩
  go_wp2_with fail
  rw [← HW5.out]
  go_region_held3 (fun w' => w'.cell? ⟨w.heap.size, 0, none⟩ = some (.bool false) ∧ w'.cell? ⟨w.heap.size, 1, none⟩ = some (.string oi) ∧ w'.cell? ⟨w.heap.size, 2, none⟩ = some (.string oj) ∧ w'.cell? ⟨w.heap.size, 3, none⟩ = some (.string oI) ∧ w'.cell? ⟨w.heap.size, 4, none⟩ = some (.int .i64 oV) ∧ w'.cell? ⟨w.heap.size, 5, none⟩ = some (.int .i64 oW) ∧ w'.cell? ⟨w.heap.size, 6, none⟩ = some (.string oG) ∧ w'.cell? ⟨w.heap.size, 7, none⟩ = some (.string oT) ∧ w'.cell? ⟨w.heap.size, 8, none⟩ = some (.int .i64 oX) ∧ w'.cell? ⟨W4.heap.size, 0, none⟩ = some (.bool pn) ∧ w'.cell? ⟨W4.heap.size, 1, none⟩ = some (.string pi) ∧ w'.cell? ⟨W4.heap.size, 2, none⟩ = some (.string pf))
    (first
      | (with_reducible exact ⟨a0, a1, a2, a3, a4, a5, a6, a7, a8, c0, c1, c2⟩)
      | (with_reducible exact ⟨(drew_cell _ _).trans a0, (drew_cell _ _).trans a1, (drew_cell _ _).trans a2, (drew_cell _ _).trans a3, (drew_cell _ _).trans a4, (drew_cell _ _).trans a5, (drew_cell _ _).trans a6, (drew_cell _ _).trans a7, (drew_cell _ _).trans a8, (drew_cell _ _).trans c0, (drew_cell _ _).trans c1, (drew_cell _ _).trans c2⟩)
      | (have t := HA.out.keep (undrew hbA) (by omega); have u := HX.out.keep (undrew hbA) (by omega); obtain ⟨t0, t1, t2, t3, t4, t5, t6, t7, t8⟩ := t; exact ⟨t0, t1, t2, t3, t4, t5, t6, t7, t8, u.1, u.2.1, u.2.2⟩))
    (first
      | (go_at_call 73; (with_reducible refine (DO.out _).mono ?_); rintro e wA ⟨rfl, hbA⟩))
  all_goals (go_wp2; go_ret; exact ⟨rfl, B5.out.trans ((undrew hbA).mono B5.out.size)⟩)

set_option maxHeartbeats 4000000 in
set_option maxRecDepth 100000 in
theorem rcheck_d6 (oi oj oI : ByteArray) (oV oW : Int) (oG oT : ByteArray) (oX : Int) (pn : Bool) (pi pf : ByteArray) (s1 s2 s3 : ByteArray) (s4 s5 : Int) (s6 s7 : ByteArray) (h : 0 ≤ oX ∧ oX ≤ 40) (hv : ¬ oV < (oj.size : Int)) (hs : oi.size ≤ 40) (hv2 : ¬ 40 - (oi.size : Int) < oV) (q : (s6.toList == oG.toList) = false)
    (H1 : ∀ wx : World, Calls Tryd.prog 42 #[.agg #[.bool false, .string oi, .string oj]] wx fun e w' => e = .returned (.int .i64 0) ∧ Below wx.heap.size wx w')
    (H2 : ∀ wx : World, Calls Tryd.prog 97 #[.agg #[.bool false, .string oi, .string oj], .int .i64 oV] wx fun e w' => e = .returned (.tuple #[.agg #[.bool pn, .string pi, .string pf], .int .i64 0]) ∧ Below wx.heap.size wx w')
    (H3 : ∀ wx : World, Calls Tryd.prog 73 #[.agg #[.bool pn, .string pi, .string pf], .int .i64 oX] wx fun e w' => e = .returned (.agg #[.bool false, .string s1, .string s2, .string s3, .int .i64 s4, .int .i64 s5, .string s6, .string s7, .int .i64 oX]) ∧ Below wx.heap.size wx w') (w : World) :
    Calls Tryd.prog 56 #[.agg #[.bool false, .string oi, .string oj, .string oI, .int .i64 oV, .int .i64 oW, .string oG, .string oT, .int .i64 oX]] w fun e w' => e = .returned (.int .i64 40) ∧ Below w.heap.size w w' := by
  have DC := Lib.hid H1
  have DP := Lib.hid H2
  have DO := Lib.hid H3
  clear H1 H2 H3
  have q0 : decide (oX < 0) = false := decide_eq_false (by omega)
  have q1 : decide (40 < oX) = false := decide_eq_false (by omega)
  have q2 : decide (oV < (oj.size : Int)) = false := decide_eq_false (by omega)
  have wz : IntKind.i64.wrap (40 - (oi.size : Int)) = 40 - (oi.size : Int) := IntWalk.i64_in _ (by omega)
  have q3 : decide (40 - (oi.size : Int) < oV) = false := decide_eq_false (by omega)
  clear h hv hs hv2
  go_enter Tryd.func56, Tryd.ntmps56
  go_wp2_with fail
  obtain ⟨W2, hW2⟩ : ∃ W2, W2 = w.alloc (.cells #[.bool false, .string oi, .string oj, .string oI, .int .i64 oV, .int .i64 oW, .string oG, .string oT, .int .i64 oX] 36) := ⟨_, rfl⟩
  obtain ⟨hz2, CA, -⟩ := nine_box w (.bool false) (.string oi) (.string oj) (.string oI) (.int .i64 oV) (.int .i64 oW) (.string oG) (.string oT) (.int .i64 oX) 36
  have hb2 : Below w.heap.size w W2 := by rw [hW2]; exact (Below.refl _ w).alloc (Nat.le_refl _) _
  rw [← hW2] at hz2 CA ⊢
  clear hW2
  (with_reducible refine (DC.out _).mono ?_)
  rintro e W3 ⟨rfl, hb3⟩
  have CA3 := CA.keep hb3 (by omega)
  have hz3 : w.heap.size + 1 ≤ W3.heap.size := by have := hb3.size; omega
  have B3 := Lib.hid (hb2.trans (hb3.mono hb2.size))
  clear CA hb2 hb3 hz2
  obtain ⟨a0, a1, a2, a3, a4, a5, a6, a7, a8⟩ := CA3
  have HA0 : Hid (Cells9 W3 w.heap.size (.bool false) (.string oi) (.string oj) (.string oI) (.int .i64 oV) (.int .i64 oW) (.string oG) (.string oT) (.int .i64 oX)) := ⟨a0, a1, a2, a3, a4, a5, a6, a7, a8⟩
  go_wp2_with fail
  clear a0 a1 a2 a3 a4 a5 a6 a7 a8
  (with_reducible refine (DP.out _).mono ?_)
  rintro e W4 ⟨rfl, hb4⟩
  obtain ⟨W5, hW5⟩ : ∃ W5, W5 = W4.alloc (.cells #[.bool pn, .string pi, .string pf] 23) := ⟨_, rfl⟩
  have ba : Below W4.heap.size W4 W5 := by rw [hW5]; exact (Below.refl _ _).alloc (Nat.le_refl _) _
  have CA4 := HA0.out.keep hb4 (by omega)
  have hz4 : w.heap.size + 1 ≤ W4.heap.size := by have := hb4.size; omega
  have CA5 := CA4.keep ba (by omega)
  have hz5 : W4.heap.size + 1 ≤ W5.heap.size := by rw [hW5]; simp
  have CX : Cells3 W5 W4.heap.size (.bool pn) (.string pi) (.string pf) := by rw [hW5]; exact (one_box _ _ _ _ _).2.1
  have B5 := Lib.hid ((B3.out.trans (hb4.mono B3.out.size)).trans (ba.mono (by have := hb4.size; have := B3.out.size; omega)))
  have HW5 := Lib.hid hW5
  clear hW5 ba CA4 HA0 hb4 B3 hz3
  obtain ⟨a0, a1, a2, a3, a4, a5, a6, a7, a8⟩ := CA5
  obtain ⟨c0, c1, c2⟩ := CX
  have HA : Hid (Cells9 W5 w.heap.size (.bool false) (.string oi) (.string oj) (.string oI) (.int .i64 oV) (.int .i64 oW) (.string oG) (.string oT) (.int .i64 oX)) := ⟨a0, a1, a2, a3, a4, a5, a6, a7, a8⟩
  have HX : Hid (Cells3 W5 W4.heap.size (.bool pn) (.string pi) (.string pf)) := ⟨c0, c1, c2⟩
  go_wp2_with fail
  rw [← HW5.out]
  go_region_held3 (fun w' => w'.cell? ⟨w.heap.size, 0, none⟩ = some (.bool false) ∧ w'.cell? ⟨w.heap.size, 1, none⟩ = some (.string oi) ∧ w'.cell? ⟨w.heap.size, 2, none⟩ = some (.string oj) ∧ w'.cell? ⟨w.heap.size, 3, none⟩ = some (.string oI) ∧ w'.cell? ⟨w.heap.size, 4, none⟩ = some (.int .i64 oV) ∧ w'.cell? ⟨w.heap.size, 5, none⟩ = some (.int .i64 oW) ∧ w'.cell? ⟨w.heap.size, 6, none⟩ = some (.string oG) ∧ w'.cell? ⟨w.heap.size, 7, none⟩ = some (.string oT) ∧ w'.cell? ⟨w.heap.size, 8, none⟩ = some (.int .i64 oX) ∧ w'.cell? ⟨W4.heap.size, 0, none⟩ = some (.bool pn) ∧ w'.cell? ⟨W4.heap.size, 1, none⟩ = some (.string pi) ∧ w'.cell? ⟨W4.heap.size, 2, none⟩ = some (.string pf))
    (first
      | (with_reducible exact ⟨a0, a1, a2, a3, a4, a5, a6, a7, a8, c0, c1, c2⟩)
      | (with_reducible exact ⟨(drew_cell _ _).trans a0, (drew_cell _ _).trans a1, (drew_cell _ _).trans a2, (drew_cell _ _).trans a3, (drew_cell _ _).trans a4, (drew_cell _ _).trans a5, (drew_cell _ _).trans a6, (drew_cell _ _).trans a7, (drew_cell _ _).trans a8, (drew_cell _ _).trans c0, (drew_cell _ _).trans c1, (drew_cell _ _).trans c2⟩)
      | (have t := HA.out.keep (undrew hbA) (by omega); have u := HX.out.keep (undrew hbA) (by omega); obtain ⟨t0, t1, t2, t3, t4, t5, t6, t7, t8⟩ := t; exact ⟨t0, t1, t2, t3, t4, t5, t6, t7, t8, u.1, u.2.1, u.2.2⟩))
    (first
      | (go_at_call 73; (with_reducible refine (DO.out _).mono ?_); rintro e wA ⟨rfl, hbA⟩))
  all_goals (go_wp2; go_ret; exact ⟨rfl, B5.out.trans ((undrew hbA).mono B5.out.size)⟩)

set_option maxHeartbeats 4000000 in
set_option maxRecDepth 100000 in
theorem rcheck_d7 (oi oj oI : ByteArray) (oV oW : Int) (oG oT : ByteArray) (oX : Int) (pn : Bool) (pi pf : ByteArray) (s1 s2 s3 : ByteArray) (s4 s5 : Int) (s6 s7 : ByteArray) (h : 0 ≤ oX ∧ oX ≤ 40) (hv : ¬ oV < (oj.size : Int)) (hs : oi.size ≤ 40) (hv2 : ¬ 40 - (oi.size : Int) < oV) (q : (s7.toList == oT.toList) = false)
    (H1 : ∀ wx : World, Calls Tryd.prog 42 #[.agg #[.bool false, .string oi, .string oj]] wx fun e w' => e = .returned (.int .i64 0) ∧ Below wx.heap.size wx w')
    (H2 : ∀ wx : World, Calls Tryd.prog 97 #[.agg #[.bool false, .string oi, .string oj], .int .i64 oV] wx fun e w' => e = .returned (.tuple #[.agg #[.bool pn, .string pi, .string pf], .int .i64 0]) ∧ Below wx.heap.size wx w')
    (H3 : ∀ wx : World, Calls Tryd.prog 73 #[.agg #[.bool pn, .string pi, .string pf], .int .i64 oX] wx fun e w' => e = .returned (.agg #[.bool false, .string s1, .string s2, .string s3, .int .i64 s4, .int .i64 s5, .string s6, .string s7, .int .i64 oX]) ∧ Below wx.heap.size wx w') (w : World) :
    Calls Tryd.prog 56 #[.agg #[.bool false, .string oi, .string oj, .string oI, .int .i64 oV, .int .i64 oW, .string oG, .string oT, .int .i64 oX]] w fun e w' => e = .returned (.int .i64 40) ∧ Below w.heap.size w w' := by
  have DC := Lib.hid H1
  have DP := Lib.hid H2
  have DO := Lib.hid H3
  clear H1 H2 H3
  have q0 : decide (oX < 0) = false := decide_eq_false (by omega)
  have q1 : decide (40 < oX) = false := decide_eq_false (by omega)
  have q2 : decide (oV < (oj.size : Int)) = false := decide_eq_false (by omega)
  have wz : IntKind.i64.wrap (40 - (oi.size : Int)) = 40 - (oi.size : Int) := IntWalk.i64_in _ (by omega)
  have q3 : decide (40 - (oi.size : Int) < oV) = false := decide_eq_false (by omega)
  clear h hv hs hv2
  go_enter Tryd.func56, Tryd.ntmps56
  go_wp2_with fail
  obtain ⟨W2, hW2⟩ : ∃ W2, W2 = w.alloc (.cells #[.bool false, .string oi, .string oj, .string oI, .int .i64 oV, .int .i64 oW, .string oG, .string oT, .int .i64 oX] 36) := ⟨_, rfl⟩
  obtain ⟨hz2, CA, -⟩ := nine_box w (.bool false) (.string oi) (.string oj) (.string oI) (.int .i64 oV) (.int .i64 oW) (.string oG) (.string oT) (.int .i64 oX) 36
  have hb2 : Below w.heap.size w W2 := by rw [hW2]; exact (Below.refl _ w).alloc (Nat.le_refl _) _
  rw [← hW2] at hz2 CA ⊢
  clear hW2
  (with_reducible refine (DC.out _).mono ?_)
  rintro e W3 ⟨rfl, hb3⟩
  have CA3 := CA.keep hb3 (by omega)
  have hz3 : w.heap.size + 1 ≤ W3.heap.size := by have := hb3.size; omega
  have B3 := Lib.hid (hb2.trans (hb3.mono hb2.size))
  clear CA hb2 hb3 hz2
  obtain ⟨a0, a1, a2, a3, a4, a5, a6, a7, a8⟩ := CA3
  have HA0 : Hid (Cells9 W3 w.heap.size (.bool false) (.string oi) (.string oj) (.string oI) (.int .i64 oV) (.int .i64 oW) (.string oG) (.string oT) (.int .i64 oX)) := ⟨a0, a1, a2, a3, a4, a5, a6, a7, a8⟩
  go_wp2_with fail
  clear a0 a1 a2 a3 a4 a5 a6 a7 a8
  (with_reducible refine (DP.out _).mono ?_)
  rintro e W4 ⟨rfl, hb4⟩
  obtain ⟨W5, hW5⟩ : ∃ W5, W5 = W4.alloc (.cells #[.bool pn, .string pi, .string pf] 23) := ⟨_, rfl⟩
  have ba : Below W4.heap.size W4 W5 := by rw [hW5]; exact (Below.refl _ _).alloc (Nat.le_refl _) _
  have CA4 := HA0.out.keep hb4 (by omega)
  have hz4 : w.heap.size + 1 ≤ W4.heap.size := by have := hb4.size; omega
  have CA5 := CA4.keep ba (by omega)
  have hz5 : W4.heap.size + 1 ≤ W5.heap.size := by rw [hW5]; simp
  have CX : Cells3 W5 W4.heap.size (.bool pn) (.string pi) (.string pf) := by rw [hW5]; exact (one_box _ _ _ _ _).2.1
  have B5 := Lib.hid ((B3.out.trans (hb4.mono B3.out.size)).trans (ba.mono (by have := hb4.size; have := B3.out.size; omega)))
  have HW5 := Lib.hid hW5
  clear hW5 ba CA4 HA0 hb4 B3 hz3
  obtain ⟨a0, a1, a2, a3, a4, a5, a6, a7, a8⟩ := CA5
  obtain ⟨c0, c1, c2⟩ := CX
  have HA : Hid (Cells9 W5 w.heap.size (.bool false) (.string oi) (.string oj) (.string oI) (.int .i64 oV) (.int .i64 oW) (.string oG) (.string oT) (.int .i64 oX)) := ⟨a0, a1, a2, a3, a4, a5, a6, a7, a8⟩
  have HX : Hid (Cells3 W5 W4.heap.size (.bool pn) (.string pi) (.string pf)) := ⟨c0, c1, c2⟩
  go_wp2_with fail
  rw [← HW5.out]
  go_region_held3 (fun w' => w'.cell? ⟨w.heap.size, 0, none⟩ = some (.bool false) ∧ w'.cell? ⟨w.heap.size, 1, none⟩ = some (.string oi) ∧ w'.cell? ⟨w.heap.size, 2, none⟩ = some (.string oj) ∧ w'.cell? ⟨w.heap.size, 3, none⟩ = some (.string oI) ∧ w'.cell? ⟨w.heap.size, 4, none⟩ = some (.int .i64 oV) ∧ w'.cell? ⟨w.heap.size, 5, none⟩ = some (.int .i64 oW) ∧ w'.cell? ⟨w.heap.size, 6, none⟩ = some (.string oG) ∧ w'.cell? ⟨w.heap.size, 7, none⟩ = some (.string oT) ∧ w'.cell? ⟨w.heap.size, 8, none⟩ = some (.int .i64 oX) ∧ w'.cell? ⟨W4.heap.size, 0, none⟩ = some (.bool pn) ∧ w'.cell? ⟨W4.heap.size, 1, none⟩ = some (.string pi) ∧ w'.cell? ⟨W4.heap.size, 2, none⟩ = some (.string pf))
    (first
      | (with_reducible exact ⟨a0, a1, a2, a3, a4, a5, a6, a7, a8, c0, c1, c2⟩)
      | (with_reducible exact ⟨(drew_cell _ _).trans a0, (drew_cell _ _).trans a1, (drew_cell _ _).trans a2, (drew_cell _ _).trans a3, (drew_cell _ _).trans a4, (drew_cell _ _).trans a5, (drew_cell _ _).trans a6, (drew_cell _ _).trans a7, (drew_cell _ _).trans a8, (drew_cell _ _).trans c0, (drew_cell _ _).trans c1, (drew_cell _ _).trans c2⟩)
      | (have t := HA.out.keep (undrew hbA) (by omega); have u := HX.out.keep (undrew hbA) (by omega); obtain ⟨t0, t1, t2, t3, t4, t5, t6, t7, t8⟩ := t; exact ⟨t0, t1, t2, t3, t4, t5, t6, t7, t8, u.1, u.2.1, u.2.2⟩))
    (first
      | (go_at_call 73; (with_reducible refine (DO.out _).mono ?_); rintro e wA ⟨rfl, hbA⟩))
  all_goals (go_wp2; go_ret; exact ⟨rfl, B5.out.trans ((undrew hbA).mono B5.out.size)⟩)
end
section
open Go.RowKit
theorem rcheck_early (d : Dc) (hd : d.Ok) (oI : ByteArray) (oV oW : Int) (oG oT : ByteArray) (oX : Int) (h : d.neg = true ∨ oX < 0 ∨ 40 < oX ∨ oV < (d.f.length : Int) ∨ 40 - (d.i.length : Int) < oV) : (∀ wx : World, Calls Tryd.prog 56 #[.agg #[.bool d.neg, .string (dStr d.i), .string (dStr d.f), .string oI, .int .i64 oV, .int .i64 oW, .string oG, .string oT, .int .i64 oX]] wx fun e w' => e = .returned (.int .i64 40) ∧ Below wx.heap.size wx w') := by
  intro wx
  have HC := fun wx => refCheck_ok d wx hd
  have hm := hd.most
  cases hn : d.neg with
  | true =>
    rw [hn] at HC
    exact rcheck_neg (H1 := HC) (w := wx) (oI := _) (oV := _) (oW := _) (oG := _) (oT := _) (oX := _)
  | false =>
    rw [hn] at HC h
    have s1 : (dStr d.i).size = d.i.length := dStr_size _
    have s2 : (dStr d.f).size = d.f.length := dStr_size _
    by_cases e1 : oX < 0
    · exact rcheck_e1 (H1 := HC) (w := wx) (oI := _) (oV := _) (oW := _) (oG := _) (oT := _) (oX := _) (h := e1)
    by_cases e2 : 40 < oX
    · exact rcheck_e2 (H1 := HC) (w := wx) (oI := _) (oV := _) (oW := _) (oG := _) (oT := _) (oX := _) (h := e2)
    by_cases e3 : oV < ((dStr d.f).size : Int)
    · exact rcheck_v1 (H1 := HC) (w := wx) (oI := _) (oV := _) (oW := _) (oG := _) (oT := _) (oX := _) (h := ⟨by omega, by omega⟩) (hv := e3)
    · refine rcheck_v2 (H1 := HC) (w := wx) (oI := _) (oV := _) (oW := _) (oG := _) (oT := _) (oX := _) (h := ⟨by omega, by omega⟩) (hv := e3) (hs := by omega) (hv2 := ?_)
      rcases h with h | h | h | h | h
      · cases h
      · omega
      · omega
      · omega
      · omega

theorem chk_pair (on : Bool) (oi oj oI : ByteArray) (oV oW : Int) (oG oT : ByteArray) (oX : Int) (h1 : oi.size ≤ 140737488355328) (h2 : oj.size ≤ 140737488355328) :
    ∃ c : Int, (∀ wx : World, Calls Tryd.prog 54 #[.agg #[.bool on, .string oi, .string oj, .string oI, .int .i64 oV, .int .i64 oW, .string oG, .string oT, .int .i64 oX]] wx fun e w' => e = .returned (.int .i64 c) ∧ Below wx.heap.size wx w') ∧ (∀ wx : World, Calls Tryd.prog 56 #[.agg #[.bool on, .string oi, .string oj, .string oI, .int .i64 oV, .int .i64 oW, .string oG, .string oT, .int .i64 oX]] wx fun e w' => e = .returned (.int .i64 c) ∧ Below wx.heap.size wx w') := by
  cases hb : okB on oi oj with
  | false => exact ⟨40, fun wx => ocheck_pad20 (H1 := fun wx => pad_bad on oi oj oV wx h1 h2 hb) (w := wx) (oI := _) (oV := _) (oW := _) (oG := _) (oT := _) (oX := _), fun wx => rcheck_bad (H1 := fun wx => refCheck_bad on oi oj wx h1 h2 hb) (w := wx) (oI := _) (oV := _) (oW := _) (oG := _) (oT := _) (oX := _)⟩
  | true =>
  obtain ⟨d, hd, rfl, rfl, rfl⟩ := ok_cases hb
  have hm := hd.most
  by_cases v1 : oV < 0
  · exact ⟨40, fun wx => ocheck_pad1 (H1 := fun wx => pad_lo d oV wx hd v1) (w := wx) (oI := _) (oV := _) (oW := _) (oG := _) (oT := _) (oX := _), rcheck_early d hd oI oV oW oG oT oX (.inr (.inr (.inr (.inl (by omega)))))⟩
  by_cases v2 : 40 < oV
  · exact ⟨40, fun wx => ocheck_pad1 (H1 := fun wx => pad_hi d oV wx hd v2) (w := wx) (oI := _) (oV := _) (oW := _) (oG := _) (oT := _) (oX := _), rcheck_early d hd oI oV oW oG oT oX (.inr (.inr (.inr (.inr (by omega)))))⟩
  obtain ⟨m, rfl⟩ : ∃ m : Nat, oV = (m : Int) := ⟨oV.toNat, by omega⟩
  have hpf := pad_form hd m (max d.f.length m) rfl
  by_cases hlong : 40 < d.i.length + max d.f.length m
  · rw [if_pos hlong] at hpf
    exact ⟨40, fun wx => ocheck_pad3 (H1 := fun wx => pad_ok d m wx none hpf hd (by omega)) (w := wx) (oI := _) (oV := _) (oW := _) (oG := _) (oT := _) (oX := _), rcheck_early d hd oI m oW oG oT oX (.inr (.inr (.inr (.inr (by omega)))))⟩
  rw [if_neg hlong] at hpf
  obtain ⟨p, hp⟩ : ∃ p, p = padded d (max d.f.length m - d.f.length) := ⟨_, rfl⟩
  rw [← hp] at hpf
  have hpo : p.Ok := by
    have := hpf
    unfold padD mkN at this
    exact (mk_some this).2.2.1
  have DP := fun wx => pad_ok d m wx (some p) hpf hd (by omega)
  by_cases hx : 0 ≤ oX ∧ oX ≤ 40
  case neg => exact ⟨40, fun wx => ocheck_exp (H1 := DP) (w := wx) (oI := _) (oV := _) (oW := _) (oG := _) (oT := _) (oX := _) (hx := hx), rcheck_early d hd oI m oW oG oT oX (by omega)⟩
  have DO := fun wx => operandsOf_any p ⟨false, p.i, cutF p⟩ oX wx (absX_trim p) hpo
  cases hn : d.neg with
  | true =>
    rw [hn] at DP
    refine ⟨40, fun wx => ocheck_d0 (H1 := DP) (H2 := DO) (w := wx) (oI := _) (oV := _) (oW := _) (oG := _) (oT := _) (oX := _) (hx := hx), ?_⟩
    have := rcheck_early d hd oI m oW oG oT oX (.inl hn)
    rw [hn] at this
    exact this
  | false =>
  rw [hn] at DP
  have hpl : p.f.length = max d.f.length m := by rw [hp]; show (d.f ++ List.replicate _ 0).length = _; simp; omega
  by_cases hv : m < d.f.length
  · refine ⟨40, fun wx => ocheck_d4 (H1 := DP) (H2 := DO) (w := wx) (oI := _) (oV := _) (oW := _) (oG := _) (oT := _) (oX := _) (hx := hx) (q := beq_eq_false_iff_ne.2 (by omega)), ?_⟩
    have := rcheck_early d hd oI m oW oG oT oX (.inr (.inr (.inr (.inl (by omega)))))
    rw [hn] at this
    exact this
  have hpn : p.neg = false := by rw [hp]; exact hn
  have RC := fun wx => refCheck_ok d wx hd
  have RP := fun wx => refPad_ok d m wx (some p) hpf hd (by omega)
  have RO := fun wx => refShown_any p ⟨false, p.i, cutF p⟩ oX wx (absX_trim p) hpo
  have DO2 := DO
  simp only [Go.Proofs.YtpbljcjghjbjdaaDoor.oN, Go.Proofs.YtpbljcjghjbjdaaDoor.oI, Go.Proofs.YtpbljcjghjbjdaaDoor.oF, Go.Proofs.YtpbljcjghjbjdaaDoor.oE] at RP DP
  rw [hn, hpn] at RP
  rw [hn] at RC
  rw [hpn] at DP DO2
  have s1 : (dStr d.i).size = d.i.length := dStr_size _
  have s2 : (dStr d.f).size = d.f.length := dStr_size _
  have r1 : ¬ ((m : Nat) : Int) < ((dStr d.f).size : Int) := by omega
  have r2 : (dStr d.i).size ≤ 40 := by omega
  have r3 : ¬ 40 - ((dStr d.i).size : Int) < ((m : Nat) : Int) := by omega
  have hml : (m : Int) = (p.f.length : Int) := by omega
  by_cases c2 : dStr d.f = dStr (cutF p)
  case neg => exact ⟨40, fun wx => ocheck_d2 (H1 := DP) (H2 := DO2) (w := wx) (oI := _) (oV := _) (oW := _) (oG := _) (oT := _) (oX := _) (hx := hx) (q := toList_ne c2), fun wx => rcheck_d2 (H1 := RC) (H2 := RP) (H3 := RO) (w := wx) (oI := _) (oV := _) (oW := _) (oG := _) (oT := _) (oX := _) (h := hx) (hv := r1) (hs := r2) (hv2 := r3) (q := toList_ne (Ne.symm c2))⟩
  by_cases c3 : oI = dStr p.i
  case neg => exact ⟨40, fun wx => ocheck_d3 (H1 := DP) (H2 := DO2) (w := wx) (oI := _) (oV := _) (oW := _) (oG := _) (oT := _) (oX := _) (hx := hx) (q := toList_ne c3), fun wx => rcheck_d3 (H1 := RC) (H2 := RP) (H3 := RO) (w := wx) (oI := _) (oV := _) (oW := _) (oG := _) (oT := _) (oX := _) (h := hx) (hv := r1) (hs := r2) (hv2 := r3) (q := toList_ne (Ne.symm c3))⟩
  by_cases c5 : oW = ((cutF p).length : Int)
  case neg => exact ⟨40, fun wx => ocheck_d5 (H1 := DP) (H2 := DO2) (w := wx) (oI := _) (oV := _) (oW := _) (oG := _) (oT := _) (oX := _) (hx := hx) (q := beq_eq_false_iff_ne.2 c5), fun wx => rcheck_d5 (H1 := RC) (H2 := RP) (H3 := RO) (w := wx) (oI := _) (oV := _) (oW := _) (oG := _) (oT := _) (oX := _) (h := hx) (hv := r1) (hs := r2) (hv2 := r3) (q := beq_eq_false_iff_ne.2 (Ne.symm c5))⟩
  by_cases c6 : oG = dStr (intg p.f)
  case neg => exact ⟨40, fun wx => ocheck_d6 (H1 := DP) (H2 := DO2) (w := wx) (oI := _) (oV := _) (oW := _) (oG := _) (oT := _) (oX := _) (hx := hx) (q := toList_ne c6), fun wx => rcheck_d6 (H1 := RC) (H2 := RP) (H3 := RO) (w := wx) (oI := _) (oV := _) (oW := _) (oG := _) (oT := _) (oX := _) (h := hx) (hv := r1) (hs := r2) (hv2 := r3) (q := toList_ne (Ne.symm c6))⟩
  by_cases c7 : oT = dStr (intg (cutF p))
  case neg => exact ⟨40, fun wx => ocheck_d7 (H1 := DP) (H2 := DO2) (w := wx) (oI := _) (oV := _) (oW := _) (oG := _) (oT := _) (oX := _) (hx := hx) (q := toList_ne c7), fun wx => rcheck_d7 (H1 := RC) (H2 := RP) (H3 := RO) (w := wx) (oI := _) (oV := _) (oW := _) (oG := _) (oT := _) (oX := _) (h := hx) (hv := r1) (hs := r2) (hv2 := r3) (q := toList_ne (Ne.symm c7))⟩
  have hpi : d.i = p.i := by rw [hp]; rfl
  subst c3 c5 c6 c7
  rw [c2] at RC RP
  rw [hpi] at RC RP
  rw [c2, hpi, hml]
  rw [hml] at RP
  rw [c2] at r1
  rw [hpi] at r2 r3
  rw [hml] at r1 r3
  exact ⟨0, fun wx => ocheck_ok (absX p) ⟨false, p.i, cutF p⟩ oX wx (absX_ok hpo) rfl hx.1 hx.2 (absX_trim p), fun wx => rcheck_ok (H1 := RC) (H2 := RP) (H3 := RO) (w := wx) (oI := _) (oV := _) (oW := _) (oG := _) (oT := _) (oX := _) (h := hx) (hv := r1) (hs := r2) (hv2 := r3)⟩
end
section
open Go.RowKit

theorem chk_both (on : Bool) (oi oj oI : ByteArray) (oV oW : Int) (oG oT : ByteArray) (oX : Int) (h1 : oi.size ≤ 140737488355328) (h2 : oj.size ≤ 140737488355328) :
    ((∀ wx : World, Calls Tryd.prog 54 #[.agg #[.bool on, .string oi, .string oj, .string oI, .int .i64 oV, .int .i64 oW, .string oG, .string oT, .int .i64 oX]] wx fun e w' => e = .returned (.int .i64 40) ∧ Below wx.heap.size wx w') ∧ (∀ wx : World, Calls Tryd.prog 56 #[.agg #[.bool on, .string oi, .string oj, .string oI, .int .i64 oV, .int .i64 oW, .string oG, .string oT, .int .i64 oX]] wx fun e w' => e = .returned (.int .i64 40) ∧ Below wx.heap.size wx w')) ∨ ((∀ wx : World, Calls Tryd.prog 54 #[.agg #[.bool on, .string oi, .string oj, .string oI, .int .i64 oV, .int .i64 oW, .string oG, .string oT, .int .i64 oX]] wx fun e w' => e = .returned (.int .i64 0) ∧ Below wx.heap.size wx w') ∧ (∀ wx : World, Calls Tryd.prog 56 #[.agg #[.bool on, .string oi, .string oj, .string oI, .int .i64 oV, .int .i64 oW, .string oG, .string oT, .int .i64 oX]] wx fun e w' => e = .returned (.int .i64 0) ∧ Below wx.heap.size wx w') ∧ ∃ p : Dc, p.Ok ∧ on = false ∧ oi = dStr p.i ∧ oj = dStr (cutF p) ∧ oI = dStr p.i ∧ oV = (p.f.length : Int) ∧ oW = ((cutF p).length : Int) ∧ oG = dStr (intg p.f) ∧ oT = dStr (intg (cutF p)) ∧ 0 ≤ oX ∧ oX ≤ 40) := by
  cases hb : okB on oi oj with
  | false => exact .inl ⟨fun wx => ocheck_pad20 (H1 := fun wx => pad_bad on oi oj oV wx h1 h2 hb) (w := wx) (oI := _) (oV := _) (oW := _) (oG := _) (oT := _) (oX := _), fun wx => rcheck_bad (H1 := fun wx => refCheck_bad on oi oj wx h1 h2 hb) (w := wx) (oI := _) (oV := _) (oW := _) (oG := _) (oT := _) (oX := _)⟩
  | true =>
  obtain ⟨d, hd, rfl, rfl, rfl⟩ := ok_cases hb
  have hm := hd.most
  by_cases v1 : oV < 0
  · exact .inl ⟨fun wx => ocheck_pad1 (H1 := fun wx => pad_lo d oV wx hd v1) (w := wx) (oI := _) (oV := _) (oW := _) (oG := _) (oT := _) (oX := _), rcheck_early d hd oI oV oW oG oT oX (.inr (.inr (.inr (.inl (by omega)))))⟩
  by_cases v2 : 40 < oV
  · exact .inl ⟨fun wx => ocheck_pad1 (H1 := fun wx => pad_hi d oV wx hd v2) (w := wx) (oI := _) (oV := _) (oW := _) (oG := _) (oT := _) (oX := _), rcheck_early d hd oI oV oW oG oT oX (.inr (.inr (.inr (.inr (by omega)))))⟩
  obtain ⟨m, rfl⟩ : ∃ m : Nat, oV = (m : Int) := ⟨oV.toNat, by omega⟩
  have hpf := pad_form hd m (max d.f.length m) rfl
  by_cases hlong : 40 < d.i.length + max d.f.length m
  · rw [if_pos hlong] at hpf
    exact .inl ⟨fun wx => ocheck_pad3 (H1 := fun wx => pad_ok d m wx none hpf hd (by omega)) (w := wx) (oI := _) (oV := _) (oW := _) (oG := _) (oT := _) (oX := _), rcheck_early d hd oI m oW oG oT oX (.inr (.inr (.inr (.inr (by omega)))))⟩
  rw [if_neg hlong] at hpf
  obtain ⟨p, hp⟩ : ∃ p, p = padded d (max d.f.length m - d.f.length) := ⟨_, rfl⟩
  rw [← hp] at hpf
  have hpo : p.Ok := by
    have := hpf
    unfold padD mkN at this
    exact (mk_some this).2.2.1
  have DP := fun wx => pad_ok d m wx (some p) hpf hd (by omega)
  by_cases hx : 0 ≤ oX ∧ oX ≤ 40
  case neg => exact .inl ⟨fun wx => ocheck_exp (H1 := DP) (w := wx) (oI := _) (oV := _) (oW := _) (oG := _) (oT := _) (oX := _) (hx := hx), rcheck_early d hd oI m oW oG oT oX (by omega)⟩
  have DO := fun wx => operandsOf_any p ⟨false, p.i, cutF p⟩ oX wx (absX_trim p) hpo
  cases hn : d.neg with
  | true =>
    rw [hn] at DP
    refine .inl ⟨fun wx => ocheck_d0 (H1 := DP) (H2 := DO) (w := wx) (oI := _) (oV := _) (oW := _) (oG := _) (oT := _) (oX := _) (hx := hx), ?_⟩
    have := rcheck_early d hd oI m oW oG oT oX (.inl hn)
    rw [hn] at this
    exact this
  | false =>
  rw [hn] at DP
  have hpl : p.f.length = max d.f.length m := by rw [hp]; show (d.f ++ List.replicate _ 0).length = _; simp; omega
  by_cases hv : m < d.f.length
  · refine .inl ⟨fun wx => ocheck_d4 (H1 := DP) (H2 := DO) (w := wx) (oI := _) (oV := _) (oW := _) (oG := _) (oT := _) (oX := _) (hx := hx) (q := beq_eq_false_iff_ne.2 (by omega)), ?_⟩
    have := rcheck_early d hd oI m oW oG oT oX (.inr (.inr (.inr (.inl (by omega)))))
    rw [hn] at this
    exact this
  have hpn : p.neg = false := by rw [hp]; exact hn
  have RC := fun wx => refCheck_ok d wx hd
  have RP := fun wx => refPad_ok d m wx (some p) hpf hd (by omega)
  have RO := fun wx => refShown_any p ⟨false, p.i, cutF p⟩ oX wx (absX_trim p) hpo
  have DO2 := DO
  simp only [Go.Proofs.YtpbljcjghjbjdaaDoor.oN, Go.Proofs.YtpbljcjghjbjdaaDoor.oI, Go.Proofs.YtpbljcjghjbjdaaDoor.oF, Go.Proofs.YtpbljcjghjbjdaaDoor.oE] at RP DP
  rw [hn, hpn] at RP
  rw [hn] at RC
  rw [hpn] at DP DO2
  have s1 : (dStr d.i).size = d.i.length := dStr_size _
  have s2 : (dStr d.f).size = d.f.length := dStr_size _
  have r1 : ¬ ((m : Nat) : Int) < ((dStr d.f).size : Int) := by omega
  have r2 : (dStr d.i).size ≤ 40 := by omega
  have r3 : ¬ 40 - ((dStr d.i).size : Int) < ((m : Nat) : Int) := by omega
  have hml : (m : Int) = (p.f.length : Int) := by omega
  by_cases c2 : dStr d.f = dStr (cutF p)
  case neg => exact .inl ⟨fun wx => ocheck_d2 (H1 := DP) (H2 := DO2) (w := wx) (oI := _) (oV := _) (oW := _) (oG := _) (oT := _) (oX := _) (hx := hx) (q := toList_ne c2), fun wx => rcheck_d2 (H1 := RC) (H2 := RP) (H3 := RO) (w := wx) (oI := _) (oV := _) (oW := _) (oG := _) (oT := _) (oX := _) (h := hx) (hv := r1) (hs := r2) (hv2 := r3) (q := toList_ne (Ne.symm c2))⟩
  by_cases c3 : oI = dStr p.i
  case neg => exact .inl ⟨fun wx => ocheck_d3 (H1 := DP) (H2 := DO2) (w := wx) (oI := _) (oV := _) (oW := _) (oG := _) (oT := _) (oX := _) (hx := hx) (q := toList_ne c3), fun wx => rcheck_d3 (H1 := RC) (H2 := RP) (H3 := RO) (w := wx) (oI := _) (oV := _) (oW := _) (oG := _) (oT := _) (oX := _) (h := hx) (hv := r1) (hs := r2) (hv2 := r3) (q := toList_ne (Ne.symm c3))⟩
  by_cases c5 : oW = ((cutF p).length : Int)
  case neg => exact .inl ⟨fun wx => ocheck_d5 (H1 := DP) (H2 := DO2) (w := wx) (oI := _) (oV := _) (oW := _) (oG := _) (oT := _) (oX := _) (hx := hx) (q := beq_eq_false_iff_ne.2 c5), fun wx => rcheck_d5 (H1 := RC) (H2 := RP) (H3 := RO) (w := wx) (oI := _) (oV := _) (oW := _) (oG := _) (oT := _) (oX := _) (h := hx) (hv := r1) (hs := r2) (hv2 := r3) (q := beq_eq_false_iff_ne.2 (Ne.symm c5))⟩
  by_cases c6 : oG = dStr (intg p.f)
  case neg => exact .inl ⟨fun wx => ocheck_d6 (H1 := DP) (H2 := DO2) (w := wx) (oI := _) (oV := _) (oW := _) (oG := _) (oT := _) (oX := _) (hx := hx) (q := toList_ne c6), fun wx => rcheck_d6 (H1 := RC) (H2 := RP) (H3 := RO) (w := wx) (oI := _) (oV := _) (oW := _) (oG := _) (oT := _) (oX := _) (h := hx) (hv := r1) (hs := r2) (hv2 := r3) (q := toList_ne (Ne.symm c6))⟩
  by_cases c7 : oT = dStr (intg (cutF p))
  case neg => exact .inl ⟨fun wx => ocheck_d7 (H1 := DP) (H2 := DO2) (w := wx) (oI := _) (oV := _) (oW := _) (oG := _) (oT := _) (oX := _) (hx := hx) (q := toList_ne c7), fun wx => rcheck_d7 (H1 := RC) (H2 := RP) (H3 := RO) (w := wx) (oI := _) (oV := _) (oW := _) (oG := _) (oT := _) (oX := _) (h := hx) (hv := r1) (hs := r2) (hv2 := r3) (q := toList_ne (Ne.symm c7))⟩
  have hpi : d.i = p.i := by rw [hp]; rfl
  subst c3 c5 c6 c7
  rw [c2] at RC RP
  rw [hpi] at RC RP
  rw [c2, hpi, hml]
  rw [hml] at RP
  rw [c2] at r1
  rw [hpi] at r2 r3
  rw [hml] at r1 r3
  exact .inr ⟨fun wx => ocheck_ok (absX p) ⟨false, p.i, cutF p⟩ oX wx (absX_ok hpo) rfl hx.1 hx.2 (absX_trim p), fun wx => rcheck_ok (H1 := RC) (H2 := RP) (H3 := RO) (w := wx) (oI := _) (oV := _) (oW := _) (oG := _) (oT := _) (oX := _) (h := hx) (hv := r1) (hs := r2) (hv2 := r3), p, hpo, rfl, rfl, rfl, rfl, rfl, rfl, rfl, rfl, hx.1, hx.2⟩
end
end Go.Proofs.YtpbljcjghjbjdaaDoor
