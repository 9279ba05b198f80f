/- Check of the reference. -/
import Derived.Test.YtcdmanhhddcmcaaOpK
import Derived.Deep.QuietTactic
import Derived.BigQuiet
import Derived.Deep.RegionHeld3
namespace Go.Proofs.Ytcdmanhhddcmcaa
open Go.RowKit
attribute [local go_sem ↓] Go.wp_at_zero Go.wp_at_succ

set_option maxHeartbeats 4000000 in
set_option maxRecDepth 100000 in
theorem rcheck_d4 (oi oj oI : ByteArray) (oV oW : Int) (oG oT : ByteArray) (oX : Int) (pn : Bool) (pi pf : ByteArray) (s1 s2 s3 : ByteArray) (s4 s5 : Int) (s6 s7 : ByteArray) (h : 0 ≤ oX ∧ oX ≤ 40) (hv : ¬ oV < (oj.size : Int)) (hs : oi.size ≤ 40) (hv2 : ¬ 40 - (oi.size : Int) < oV) (q : (s4 == oV) = false)
    (H1 : ∀ wx : World, Calls Try.prog 39 #[.agg #[.bool false, .string oi, .string oj]] wx fun e w' => e = .returned (.int .i64 0) ∧ Below wx.heap.size wx w')
    (H2 : ∀ wx : World, Calls Try.prog 43 #[.agg #[.bool false, .string oi, .string oj], .int .i64 oV] wx fun e w' => e = .returned (.tuple #[.agg #[.bool pn, .string pi, .string pf], .int .i64 0]) ∧ Below wx.heap.size wx w')
    (H3 : ∀ wx : World, Calls Try.prog 42 #[.agg #[.bool pn, .string pi, .string pf], .int .i64 oX] wx fun e w' => e = .returned (.agg #[.bool false, .string s1, .string s2, .string s3, .int .i64 s4, .int .i64 s5, .string s6, .string s7, .int .i64 oX]) ∧ Below wx.heap.size wx w') (w : World) :
    Calls Try.prog 16 #[.agg #[.bool false, .string oi, .string oj, .string oI, .int .i64 oV, .int .i64 oW, .string oG, .string oT, .int .i64 oX]] w fun e w' => e = .returned (.int .i64 40) ∧ Below w.heap.size w w' := by
  have DC := Lib.hid H1
  have DP := Lib.hid H2
  have DO := Lib.hid H3
  clear H1 H2 H3
  have q0 : decide (oX < 0) = false := decide_eq_false (by omega)
  have q1 : decide (40 < oX) = false := decide_eq_false (by omega)
  have q2 : decide (oV < (oj.size : Int)) = false := decide_eq_false (by omega)
  have wz : IntKind.i64.wrap (40 - (oi.size : Int)) = 40 - (oi.size : Int) := IntWalk.i64_in _ (by omega)
  have q3 : decide (40 - (oi.size : Int) < oV) = false := decide_eq_false (by omega)
  clear h hv hs hv2
  go_enter Try.func16, Try.ntmps16
  go_wp2_with fail
  obtain ⟨W2, hW2⟩ : ∃ W2, W2 = w.alloc (.cells #[.bool false, .string oi, .string oj, .string oI, .int .i64 oV, .int .i64 oW, .string oG, .string oT, .int .i64 oX] 25) := ⟨_, rfl⟩
  obtain ⟨hz2, CA, -⟩ := nine_box w (.bool false) (.string oi) (.string oj) (.string oI) (.int .i64 oV) (.int .i64 oW) (.string oG) (.string oT) (.int .i64 oX) 25
  have hb2 : Below w.heap.size w W2 := by rw [hW2]; exact (Below.refl _ w).alloc (Nat.le_refl _) _
  rw [← hW2] at hz2 CA ⊢
  clear hW2
  (with_reducible refine (DC.out _).mono ?_)
  rintro e W3 ⟨rfl, hb3⟩
  have CA3 := CA.keep hb3 (by omega)
  have hz3 : w.heap.size + 1 ≤ W3.heap.size := by have := hb3.size; omega
  have B3 := Lib.hid (hb2.trans (hb3.mono hb2.size))
  clear CA hb2 hb3 hz2
  obtain ⟨a0, a1, a2, a3, a4, a5, a6, a7, a8⟩ := CA3
  have HA0 : Hid (Cells9 W3 w.heap.size (.bool false) (.string oi) (.string oj) (.string oI) (.int .i64 oV) (.int .i64 oW) (.string oG) (.string oT) (.int .i64 oX)) := ⟨a0, a1, a2, a3, a4, a5, a6, a7, a8⟩
  go_wp2_with fail
  clear a0 a1 a2 a3 a4 a5 a6 a7 a8
  (with_reducible refine (DP.out _).mono ?_)
  rintro e W4 ⟨rfl, hb4⟩
  obtain ⟨W5, hW5⟩ : ∃ W5, W5 = W4.alloc (.cells #[.bool pn, .string pi, .string pf] 23) := ⟨_, rfl⟩
  have ba : Below W4.heap.size W4 W5 := by rw [hW5]; exact (Below.refl _ _).alloc (Nat.le_refl _) _
  have CA4 := HA0.out.keep hb4 (by omega)
  have hz4 : w.heap.size + 1 ≤ W4.heap.size := by have := hb4.size; omega
  have CA5 := CA4.keep ba (by omega)
  have hz5 : W4.heap.size + 1 ≤ W5.heap.size := by rw [hW5]; simp
  have CX : Cells3 W5 W4.heap.size (.bool pn) (.string pi) (.string pf) := by rw [hW5]; exact (one_box _ _ _ _ _).2.1
  have B5 := Lib.hid ((B3.out.trans (hb4.mono B3.out.size)).trans (ba.mono (by have := hb4.size; have := B3.out.size; omega)))
  have HW5 := Lib.hid hW5
  clear hW5 ba CA4 HA0 hb4 B3 hz3
  obtain ⟨a0, a1, a2, a3, a4, a5, a6, a7, a8⟩ := CA5
  obtain ⟨c0, c1, c2⟩ := CX
  have HA : Hid (Cells9 W5 w.heap.size (.bool false) (.string oi) (.string oj) (.string oI) (.int .i64 oV) (.int .i64 oW) (.string oG) (.string oT) (.int .i64 oX)) := ⟨a0, a1, a2, a3, a4, a5, a6, a7, a8⟩
  have HX : Hid (Cells3 W5 W4.heap.size (.bool pn) (.string pi) (.string pf)) := ⟨c0, c1, c2⟩
  go_wp2_with fail
  rw [← HW5.out]
  go_region_held3 (fun w' => w'.cell? ⟨w.heap.size, 0, none⟩ = some (.bool false) ∧ w'.cell? ⟨w.heap.size, 1, none⟩ = some (.string oi) ∧ w'.cell? ⟨w.heap.size, 2, none⟩ = some (.string oj) ∧ w'.cell? ⟨w.heap.size, 3, none⟩ = some (.string oI) ∧ w'.cell? ⟨w.heap.size, 4, none⟩ = some (.int .i64 oV) ∧ w'.cell? ⟨w.heap.size, 5, none⟩ = some (.int .i64 oW) ∧ w'.cell? ⟨w.heap.size, 6, none⟩ = some (.string oG) ∧ w'.cell? ⟨w.heap.size, 7, none⟩ = some (.string oT) ∧ w'.cell? ⟨w.heap.size, 8, none⟩ = some (.int .i64 oX) ∧ w'.cell? ⟨W4.heap.size, 0, none⟩ = some (.bool pn) ∧ w'.cell? ⟨W4.heap.size, 1, none⟩ = some (.string pi) ∧ w'.cell? ⟨W4.heap.size, 2, none⟩ = some (.string pf))
    (first
      | (with_reducible exact ⟨a0, a1, a2, a3, a4, a5, a6, a7, a8, c0, c1, c2⟩)
      | (with_reducible exact ⟨(drew_cell _ _).trans a0, (drew_cell _ _).trans a1, (drew_cell _ _).trans a2, (drew_cell _ _).trans a3, (drew_cell _ _).trans a4, (drew_cell _ _).trans a5, (drew_cell _ _).trans a6, (drew_cell _ _).trans a7, (drew_cell _ _).trans a8, (drew_cell _ _).trans c0, (drew_cell _ _).trans c1, (drew_cell _ _).trans c2⟩)
      | (have t := HA.out.keep (undrew hbA) (by omega); have u := HX.out.keep (undrew hbA) (by omega); obtain ⟨t0, t1, t2, t3, t4, t5, t6, t7, t8⟩ := t; exact ⟨t0, t1, t2, t3, t4, t5, t6, t7, t8, u.1, u.2.1, u.2.2⟩))
    (first
      | (go_at_call 42; (with_reducible refine (DO.out _).mono ?_); rintro e wA ⟨rfl, hbA⟩))
  all_goals (go_wp2; go_ret; exact ⟨rfl, B5.out.trans ((undrew hbA).mono B5.out.size)⟩)

set_option maxHeartbeats 4000000 in
set_option maxRecDepth 100000 in
theorem rcheck_d5 (oi oj oI : ByteArray) (oV oW : Int) (oG oT : ByteArray) (oX : Int) (pn : Bool) (pi pf : ByteArray) (s1 s2 s3 : ByteArray) (s4 s5 : Int) (s6 s7 : ByteArray) (h : 0 ≤ oX ∧ oX ≤ 40) (hv : ¬ oV < (oj.size : Int)) (hs : oi.size ≤ 40) (hv2 : ¬ 40 - (oi.size : Int) < oV) (q : (s5 == oW) = false)
    (H1 : ∀ wx : World, Calls Try.prog 39 #[.agg #[.bool false, .string oi, .string oj]] wx fun e w' => e = .returned (.int .i64 0) ∧ Below wx.heap.size wx w')
    (H2 : ∀ wx : World, Calls Try.prog 43 #[.agg #[.bool false, .string oi, .string oj], .int .i64 oV] wx fun e w' => e = .returned (.tuple #[.agg #[.bool pn, .string pi, .string pf], .int .i64 0]) ∧ Below wx.heap.size wx w')
    (H3 : ∀ wx : World, Calls Try.prog 42 #[.agg #[.bool pn, .string pi, .string pf], .int .i64 oX] wx fun e w' => e = .returned (.agg #[.bool false, .string s1, .string s2, .string s3, .int .i64 s4, .int .i64 s5, .string s6, .string s7, .int .i64 oX]) ∧ Below wx.heap.size wx w') (w : World) :
    Calls Try.prog 16 #[.agg #[.bool false, .string oi, .string oj, .string oI, .int .i64 oV, .int .i64 oW, .string oG, .string oT, .int .i64 oX]] w fun e w' => e = .returned (.int .i64 40) ∧ Below w.heap.size w w' := by
  have DC := Lib.hid H1
  have DP := Lib.hid H2
  have DO := Lib.hid H3
  clear H1 H2 H3
  have q0 : decide (oX < 0) = false := decide_eq_false (by omega)
  have q1 : decide (40 < oX) = false := decide_eq_false (by omega)
  have q2 : decide (oV < (oj.size : Int)) = false := decide_eq_false (by omega)
  have wz : IntKind.i64.wrap (40 - (oi.size : Int)) = 40 - (oi.size : Int) := IntWalk.i64_in _ (by omega)
  have q3 : decide (40 - (oi.size : Int) < oV) = false := decide_eq_false (by omega)
  clear h hv hs hv2
  go_enter Try.func16, Try.ntmps16
  go_wp2_with fail
  obtain ⟨W2, hW2⟩ : ∃ W2, W2 = w.alloc (.cells #[.bool false, .string oi, .string oj, .string oI, .int .i64 oV, .int .i64 oW, .string oG, .string oT, .int .i64 oX] 25) := ⟨_, rfl⟩
  obtain ⟨hz2, CA, -⟩ := nine_box w (.bool false) (.string oi) (.string oj) (.string oI) (.int .i64 oV) (.int .i64 oW) (.string oG) (.string oT) (.int .i64 oX) 25
  have hb2 : Below w.heap.size w W2 := by rw [hW2]; exact (Below.refl _ w).alloc (Nat.le_refl _) _
  rw [← hW2] at hz2 CA ⊢
  clear hW2
  (with_reducible refine (DC.out _).mono ?_)
  rintro e W3 ⟨rfl, hb3⟩
  have CA3 := CA.keep hb3 (by omega)
  have hz3 : w.heap.size + 1 ≤ W3.heap.size := by have := hb3.size; omega
  have B3 := Lib.hid (hb2.trans (hb3.mono hb2.size))
  clear CA hb2 hb3 hz2
  obtain ⟨a0, a1, a2, a3, a4, a5, a6, a7, a8⟩ := CA3
  have HA0 : Hid (Cells9 W3 w.heap.size (.bool false) (.string oi) (.string oj) (.string oI) (.int .i64 oV) (.int .i64 oW) (.string oG) (.string oT) (.int .i64 oX)) := ⟨a0, a1, a2, a3, a4, a5, a6, a7, a8⟩
  go_wp2_with fail
  clear a0 a1 a2 a3 a4 a5 a6 a7 a8
  (with_reducible refine (DP.out _).mono ?_)
  rintro e W4 ⟨rfl, hb4⟩
  obtain ⟨W5, hW5⟩ : ∃ W5, W5 = W4.alloc (.cells #[.bool pn, .string pi, .string pf] 23) := ⟨_, rfl⟩
  have ba : Below W4.heap.size W4 W5 := by rw [hW5]; exact (Below.refl _ _).alloc (Nat.le_refl _) _
  have CA4 := HA0.out.keep hb4 (by omega)
  have hz4 : w.heap.size + 1 ≤ W4.heap.size := by have := hb4.size; omega
  have CA5 := CA4.keep ba (by omega)
  have hz5 : W4.heap.size + 1 ≤ W5.heap.size := by rw [hW5]; simp
  have CX : Cells3 W5 W4.heap.size (.bool pn) (.string pi) (.string pf) := by rw [hW5]; exact (one_box _ _ _ _ _).2.1
  have B5 := Lib.hid ((B3.out.trans (hb4.mono B3.out.size)).trans (ba.mono (by have := hb4.size; have := B3.out.size; omega)))
  have HW5 := Lib.hid hW5
  clear hW5 ba CA4 HA0 hb4 B3 hz3
  obtain ⟨a0, a1, a2, a3, a4, a5, a6, a7, a8⟩ := CA5
  obtain ⟨c0, c1, c2⟩ := CX
  have HA : Hid (Cells9 W5 w.heap.size (.bool false) (.string oi) (.string oj) (.string oI) (.int .i64 oV) (.int .i64 oW) (.string oG) (.string oT) (.int .i64 oX)) := ⟨a0, a1, a2, a3, a4, a5, a6, a7, a8⟩
  have HX : Hid (Cells3 W5 W4.heap.size (.bool pn) (.string pi) (.string pf)) := ⟨c0, c1, c2⟩
  go_wp2_with fail
  rw [← HW5.out]
  go_region_held3 (fun w' => w'.cell? ⟨w.heap.size, 0, none⟩ = some (.bool false) ∧ w'.cell? ⟨w.heap.size, 1, none⟩ = some (.string oi) ∧ w'.cell? ⟨w.heap.size, 2, none⟩ = some (.string oj) ∧ w'.cell? ⟨w.heap.size, 3, none⟩ = some (.string oI) ∧ w'.cell? ⟨w.heap.size, 4, none⟩ = some (.int .i64 oV) ∧ w'.cell? ⟨w.heap.size, 5, none⟩ = some (.int .i64 oW) ∧ w'.cell? ⟨w.heap.size, 6, none⟩ = some (.string oG) ∧ w'.cell? ⟨w.heap.size, 7, none⟩ = some (.string oT) ∧ w'.cell? ⟨w.heap.size, 8, none⟩ = some (.int .i64 oX) ∧ w'.cell? ⟨W4.heap.size, 0, none⟩ = some (.bool pn) ∧ w'.cell? ⟨W4.heap.size, 1, none⟩ = some (.string pi) ∧ w'.cell? ⟨W4.heap.size, 2, none⟩ = some (.string pf))
    (first
      | (with_reducible exact ⟨a0, a1, a2, a3, a4, a5, a6, a7, a8, c0, c1, c2⟩)
      | (with_reducible exact ⟨(drew_cell _ _).trans a0, (drew_cell _ _).trans a1, (drew_cell _ _).trans a2, (drew_cell _ _).trans a3, (drew_cell _ _).trans a4, (drew_cell _ _).trans a5, (drew_cell _ _).trans a6, (drew_cell _ _).trans a7, (drew_cell _ _).trans a8, (drew_cell _ _).trans c0, (drew_cell _ _).trans c1, (drew_cell _ _).trans c2⟩)
      | (have t := HA.out.keep (undrew hbA) (by omega); have u := HX.out.keep (undrew hbA) (by omega); obtain ⟨t0, t1, t2, t3, t4, t5, t6, t7, t8⟩ := t; exact ⟨t0, t1, t2, t3, t4, t5, t6, t7, t8, u.1, u.2.1, u.2.2⟩))
    (first
      | (go_at_call 42; (with_reducible refine (DO.out _).mono ?_); rintro e wA ⟨rfl, hbA⟩))
  all_goals (go_wp2; go_ret; exact ⟨rfl, B5.out.trans ((undrew hbA).mono B5.out.size)⟩)

set_option maxHeartbeats 4000000 in
set_option maxRecDepth 100000 in
theorem rcheck_d6 (oi oj oI : ByteArray) (oV oW : Int) (oG oT : ByteArray) (oX : Int) (pn : Bool) (pi pf : ByteArray) (s1 s2 s3 : ByteArray) (s4 s5 : Int) (s6 s7 : ByteArray) (h : 0 ≤ oX ∧ oX ≤ 40) (hv : ¬ oV < (oj.size : Int)) (hs : oi.size ≤ 40) (hv2 : ¬ 40 - (oi.size : Int) < oV) (q : (s6.toList == oG.toList) = false)
    (H1 : ∀ wx : World, Calls Try.prog 39 #[.agg #[.bool false, .string oi, .string oj]] wx fun e w' => e = .returned (.int .i64 0) ∧ Below wx.heap.size wx w')
    (H2 : ∀ wx : World, Calls Try.prog 43 #[.agg #[.bool false, .string oi, .string oj], .int .i64 oV] wx fun e w' => e = .returned (.tuple #[.agg #[.bool pn, .string pi, .string pf], .int .i64 0]) ∧ Below wx.heap.size wx w')
    (H3 : ∀ wx : World, Calls Try.prog 42 #[.agg #[.bool pn, .string pi, .string pf], .int .i64 oX] wx fun e w' => e = .returned (.agg #[.bool false, .string s1, .string s2, .string s3, .int .i64 s4, .int .i64 s5, .string s6, .string s7, .int .i64 oX]) ∧ Below wx.heap.size wx w') (w : World) :
    Calls Try.prog 16 #[.agg #[.bool false, .string oi, .string oj, .string oI, .int .i64 oV, .int .i64 oW, .string oG, .string oT, .int .i64 oX]] w fun e w' => e = .returned (.int .i64 40) ∧ Below w.heap.size w w' := by
  have DC := Lib.hid H1
  have DP := Lib.hid H2
  have DO := Lib.hid H3
  clear H1 H2 H3
  have q0 : decide (oX < 0) = false := decide_eq_false (by omega)
  have q1 : decide (40 < oX) = false := decide_eq_false (by omega)
  have q2 : decide (oV < (oj.size : Int)) = false := decide_eq_false (by omega)
  have wz : IntKind.i64.wrap (40 - (oi.size : Int)) = 40 - (oi.size : Int) := IntWalk.i64_in _ (by omega)
  have q3 : decide (40 - (oi.size : Int) < oV) = false := decide_eq_false (by omega)
  clear h hv hs hv2
  go_enter Try.func16, Try.ntmps16
  go_wp2_with fail
  obtain ⟨W2, hW2⟩ : ∃ W2, W2 = w.alloc (.cells #[.bool false, .string oi, .string oj, .string oI, .int .i64 oV, .int .i64 oW, .string oG, .string oT, .int .i64 oX] 25) := ⟨_, rfl⟩
  obtain ⟨hz2, CA, -⟩ := nine_box w (.bool false) (.string oi) (.string oj) (.string oI) (.int .i64 oV) (.int .i64 oW) (.string oG) (.string oT) (.int .i64 oX) 25
  have hb2 : Below w.heap.size w W2 := by rw [hW2]; exact (Below.refl _ w).alloc (Nat.le_refl _) _
  rw [← hW2] at hz2 CA ⊢
  clear hW2
  (with_reducible refine (DC.out _).mono ?_)
  rintro e W3 ⟨rfl, hb3⟩
  have CA3 := CA.keep hb3 (by omega)
  have hz3 : w.heap.size + 1 ≤ W3.heap.size := by have := hb3.size; omega
  have B3 := Lib.hid (hb2.trans (hb3.mono hb2.size))
  clear CA hb2 hb3 hz2
  obtain ⟨a0, a1, a2, a3, a4, a5, a6, a7, a8⟩ := CA3
  have HA0 : Hid (Cells9 W3 w.heap.size (.bool false) (.string oi) (.string oj) (.string oI) (.int .i64 oV) (.int .i64 oW) (.string oG) (.string oT) (.int .i64 oX)) := ⟨a0, a1, a2, a3, a4, a5, a6, a7, a8⟩
  go_wp2_with fail
  clear a0 a1 a2 a3 a4 a5 a6 a7 a8
  (with_reducible refine (DP.out _).mono ?_)
  rintro e W4 ⟨rfl, hb4⟩
  obtain ⟨W5, hW5⟩ : ∃ W5, W5 = W4.alloc (.cells #[.bool pn, .string pi, .string pf] 23) := ⟨_, rfl⟩
  have ba : Below W4.heap.size W4 W5 := by rw [hW5]; exact (Below.refl _ _).alloc (Nat.le_refl _) _
  have CA4 := HA0.out.keep hb4 (by omega)
  have hz4 : w.heap.size + 1 ≤ W4.heap.size := by have := hb4.size; omega
  have CA5 := CA4.keep ba (by omega)
  have hz5 : W4.heap.size + 1 ≤ W5.heap.size := by rw [hW5]; simp
  have CX : Cells3 W5 W4.heap.size (.bool pn) (.string pi) (.string pf) := by rw [hW5]; exact (one_box _ _ _ _ _).2.1
  have B5 := Lib.hid ((B3.out.trans (hb4.mono B3.out.size)).trans (ba.mono (by have := hb4.size; have := B3.out.size; omega)))
  have HW5 := Lib.hid hW5
  clear hW5 ba CA4 HA0 hb4 B3 hz3
  obtain ⟨a0, a1, a2, a3, a4, a5, a6, a7, a8⟩ := CA5
  obtain ⟨c0, c1, c2⟩ := CX
  have HA : Hid (Cells9 W5 w.heap.size (.bool false) (.string oi) (.string oj) (.string oI) (.int .i64 oV) (.int .i64 oW) (.string oG) (.string oT) (.int .i64 oX)) := ⟨a0, a1, a2, a3, a4, a5, a6, a7, a8⟩
  have HX : Hid (Cells3 W5 W4.heap.size (.bool pn) (.string pi) (.string pf)) := ⟨c0, c1, c2⟩
  go_wp2_with fail
  rw [← HW5.out]
  go_region_held3 (fun w' => w'.cell? ⟨w.heap.size, 0, none⟩ = some (.bool false) ∧ w'.cell? ⟨w.heap.size, 1, none⟩ = some (.string oi) ∧ w'.cell? ⟨w.heap.size, 2, none⟩ = some (.string oj) ∧ w'.cell? ⟨w.heap.size, 3, none⟩ = some (.string oI) ∧ w'.cell? ⟨w.heap.size, 4, none⟩ = some (.int .i64 oV) ∧ w'.cell? ⟨w.heap.size, 5, none⟩ = some (.int .i64 oW) ∧ w'.cell? ⟨w.heap.size, 6, none⟩ = some (.string oG) ∧ w'.cell? ⟨w.heap.size, 7, none⟩ = some (.string oT) ∧ w'.cell? ⟨w.heap.size, 8, none⟩ = some (.int .i64 oX) ∧ w'.cell? ⟨W4.heap.size, 0, none⟩ = some (.bool pn) ∧ w'.cell? ⟨W4.heap.size, 1, none⟩ = some (.string pi) ∧ w'.cell? ⟨W4.heap.size, 2, none⟩ = some (.string pf))
    (first
      | (with_reducible exact ⟨a0, a1, a2, a3, a4, a5, a6, a7, a8, c0, c1, c2⟩)
      | (with_reducible exact ⟨(drew_cell _ _).trans a0, (drew_cell _ _).trans a1, (drew_cell _ _).trans a2, (drew_cell _ _).trans a3, (drew_cell _ _).trans a4, (drew_cell _ _).trans a5, (drew_cell _ _).trans a6, (drew_cell _ _).trans a7, (drew_cell _ _).trans a8, (drew_cell _ _).trans c0, (drew_cell _ _).trans c1, (drew_cell _ _).trans c2⟩)
      | (have t := HA.out.keep (undrew hbA) (by omega); have u := HX.out.keep (undrew hbA) (by omega); obtain ⟨t0, t1, t2, t3, t4, t5, t6, t7, t8⟩ := t; exact ⟨t0, t1, t2, t3, t4, t5, t6, t7, t8, u.1, u.2.1, u.2.2⟩))
    (first
      | (go_at_call 42; (with_reducible refine (DO.out _).mono ?_); rintro e wA ⟨rfl, hbA⟩))
  all_goals (go_wp2; go_ret; exact ⟨rfl, B5.out.trans ((undrew hbA).mono B5.out.size)⟩)

set_option maxHeartbeats 4000000 in
set_option maxRecDepth 100000 in
theorem rcheck_d7 (oi oj oI : ByteArray) (oV oW : Int) (oG oT : ByteArray) (oX : Int) (pn : Bool) (pi pf : ByteArray) (s1 s2 s3 : ByteArray) (s4 s5 : Int) (s6 s7 : ByteArray) (h : 0 ≤ oX ∧ oX ≤ 40) (hv : ¬ oV < (oj.size : Int)) (hs : oi.size ≤ 40) (hv2 : ¬ 40 - (oi.size : Int) < oV) (q : (s7.toList == oT.toList) = false)
    (H1 : ∀ wx : World, Calls Try.prog 39 #[.agg #[.bool false, .string oi, .string oj]] wx fun e w' => e = .returned (.int .i64 0) ∧ Below wx.heap.size wx w')
    (H2 : ∀ wx : World, Calls Try.prog 43 #[.agg #[.bool false, .string oi, .string oj], .int .i64 oV] wx fun e w' => e = .returned (.tuple #[.agg #[.bool pn, .string pi, .string pf], .int .i64 0]) ∧ Below wx.heap.size wx w')
    (H3 : ∀ wx : World, Calls Try.prog 42 #[.agg #[.bool pn, .string pi, .string pf], .int .i64 oX] wx fun e w' => e = .returned (.agg #[.bool false, .string s1, .string s2, .string s3, .int .i64 s4, .int .i64 s5, .string s6, .string s7, .int .i64 oX]) ∧ Below wx.heap.size wx w') (w : World) :
    Calls Try.prog 16 #[.agg #[.bool false, .string oi, .string oj, .string oI, .int .i64 oV, .int .i64 oW, .string oG, .string oT, .int .i64 oX]] w fun e w' => e = .returned (.int .i64 40) ∧ Below w.heap.size w w' := by
  have DC := Lib.hid H1
  have DP := Lib.hid H2
  have DO := Lib.hid H3
  clear H1 H2 H3
  have q0 : decide (oX < 0) = false := decide_eq_false (by omega)
  have q1 : decide (40 < oX) = false := decide_eq_false (by omega)
  have q2 : decide (oV < (oj.size : Int)) = false := decide_eq_false (by omega)
  have wz : IntKind.i64.wrap (40 - (oi.size : Int)) = 40 - (oi.size : Int) := IntWalk.i64_in _ (by omega)
  have q3 : decide (40 - (oi.size : Int) < oV) = false := decide_eq_false (by omega)
  clear h hv hs hv2
  go_enter Try.func16, Try.ntmps16
  go_wp2_with fail
  obtain ⟨W2, hW2⟩ : ∃ W2, W2 = w.alloc (.cells #[.bool false, .string oi, .string oj, .string oI, .int .i64 oV, .int .i64 oW, .string oG, .string oT, .int .i64 oX] 25) := ⟨_, rfl⟩
  obtain ⟨hz2, CA, -⟩ := nine_box w (.bool false) (.string oi) (.string oj) (.string oI) (.int .i64 oV) (.int .i64 oW) (.string oG) (.string oT) (.int .i64 oX) 25
  have hb2 : Below w.heap.size w W2 := by rw [hW2]; exact (Below.refl _ w).alloc (Nat.le_refl _) _
  rw [← hW2] at hz2 CA ⊢
  clear hW2
  (with_reducible refine (DC.out _).mono ?_)
  rintro e W3 ⟨rfl, hb3⟩
  have CA3 := CA.keep hb3 (by omega)
  have hz3 : w.heap.size + 1 ≤ W3.heap.size := by have := hb3.size; omega
  have B3 := Lib.hid (hb2.trans (hb3.mono hb2.size))
  clear CA hb2 hb3 hz2
  obtain ⟨a0, a1, a2, a3, a4, a5, a6, a7, a8⟩ := CA3
  have HA0 : Hid (Cells9 W3 w.heap.size (.bool false) (.string oi) (.string oj) (.string oI) (.int .i64 oV) (.int .i64 oW) (.string oG) (.string oT) (.int .i64 oX)) := ⟨a0, a1, a2, a3, a4, a5, a6, a7, a8⟩
  go_wp2_with fail
  clear a0 a1 a2 a3 a4 a5 a6 a7 a8
  (with_reducible refine (DP.out _).mono ?_)
  rintro e W4 ⟨rfl, hb4⟩
  obtain ⟨W5, hW5⟩ : ∃ W5, W5 = W4.alloc (.cells #[.bool pn, .string pi, .string pf] 23) := ⟨_, rfl⟩
  have ba : Below W4.heap.size W4 W5 := by rw [hW5]; exact (Below.refl _ _).alloc (Nat.le_refl _) _
  have CA4 := HA0.out.keep hb4 (by omega)
  have hz4 : w.heap.size + 1 ≤ W4.heap.size := by have := hb4.size; omega
  have CA5 := CA4.keep ba (by omega)
  have hz5 : W4.heap.size + 1 ≤ W5.heap.size := by rw [hW5]; simp
  have CX : Cells3 W5 W4.heap.size (.bool pn) (.string pi) (.string pf) := by rw [hW5]; exact (one_box _ _ _ _ _).2.1
  have B5 := Lib.hid ((B3.out.trans (hb4.mono B3.out.size)).trans (ba.mono (by have := hb4.size; have := B3.out.size; omega)))
  have HW5 := Lib.hid hW5
  clear hW5 ba CA4 HA0 hb4 B3 hz3
  obtain ⟨a0, a1, a2, a3, a4, a5, a6, a7, a8⟩ := CA5
  obtain ⟨c0, c1, c2⟩ := CX
  have HA : Hid (Cells9 W5 w.heap.size (.bool false) (.string oi) (.string oj) (.string oI) (.int .i64 oV) (.int .i64 oW) (.string oG) (.string oT) (.int .i64 oX)) := ⟨a0, a1, a2, a3, a4, a5, a6, a7, a8⟩
  have HX : Hid (Cells3 W5 W4.heap.size (.bool pn) (.string pi) (.string pf)) := ⟨c0, c1, c2⟩
  go_wp2_with fail
  rw [← HW5.out]
  go_region_held3 (fun w' => w'.cell? ⟨w.heap.size, 0, none⟩ = some (.bool false) ∧ w'.cell? ⟨w.heap.size, 1, none⟩ = some (.string oi) ∧ w'.cell? ⟨w.heap.size, 2, none⟩ = some (.string oj) ∧ w'.cell? ⟨w.heap.size, 3, none⟩ = some (.string oI) ∧ w'.cell? ⟨w.heap.size, 4, none⟩ = some (.int .i64 oV) ∧ w'.cell? ⟨w.heap.size, 5, none⟩ = some (.int .i64 oW) ∧ w'.cell? ⟨w.heap.size, 6, none⟩ = some (.string oG) ∧ w'.cell? ⟨w.heap.size, 7, none⟩ = some (.string oT) ∧ w'.cell? ⟨w.heap.size, 8, none⟩ = some (.int .i64 oX) ∧ w'.cell? ⟨W4.heap.size, 0, none⟩ = some (.bool pn) ∧ w'.cell? ⟨W4.heap.size, 1, none⟩ = some (.string pi) ∧ w'.cell? ⟨W4.heap.size, 2, none⟩ = some (.string pf))
    (first
      | (with_reducible exact ⟨a0, a1, a2, a3, a4, a5, a6, a7, a8, c0, c1, c2⟩)
      | (with_reducible exact ⟨(drew_cell _ _).trans a0, (drew_cell _ _).trans a1, (drew_cell _ _).trans a2, (drew_cell _ _).trans a3, (drew_cell _ _).trans a4, (drew_cell _ _).trans a5, (drew_cell _ _).trans a6, (drew_cell _ _).trans a7, (drew_cell _ _).trans a8, (drew_cell _ _).trans c0, (drew_cell _ _).trans c1, (drew_cell _ _).trans c2⟩)
      | (have t := HA.out.keep (undrew hbA) (by omega); have u := HX.out.keep (undrew hbA) (by omega); obtain ⟨t0, t1, t2, t3, t4, t5, t6, t7, t8⟩ := t; exact ⟨t0, t1, t2, t3, t4, t5, t6, t7, t8, u.1, u.2.1, u.2.2⟩))
    (first
      | (go_at_call 42; (with_reducible refine (DO.out _).mono ?_); rintro e wA ⟨rfl, hbA⟩))
  all_goals (go_wp2; go_ret; exact ⟨rfl, B5.out.trans ((undrew hbA).mono B5.out.size)⟩)

end Go.Proofs.Ytcdmanhhddcmcaa
