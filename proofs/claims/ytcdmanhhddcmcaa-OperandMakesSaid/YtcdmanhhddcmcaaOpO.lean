/- Check of the reference. -/
import Derived.Test.YtcdmanhhddcmcaaOpK
import Derived.Deep.QuietTactic
import Derived.BigQuiet
import Derived.Deep.RegionHeld3
namespace Go.Proofs.Ytcdmanhhddcmcaa
open Go.RowKit
attribute [local go_sem ↓] Go.wp_at_zero Go.wp_at_succ

set_option maxHeartbeats 4000000 in
set_option maxRecDepth 100000 in
theorem rcheck_bad (on : Bool) (oi oj oI : ByteArray) (oV oW : Int) (oG oT : ByteArray) (oX : Int) 
    (H1 : ∀ wx : World, Calls Try.prog 39 #[.agg #[.bool on, .string oi, .string oj]] wx fun e w' => e = .returned (.int .i64 20) ∧ Below wx.heap.size wx w') (w : World) :
    Calls Try.prog 16 #[.agg #[.bool on, .string oi, .string oj, .string oI, .int .i64 oV, .int .i64 oW, .string oG, .string oT, .int .i64 oX]] w fun e w' => e = .returned (.int .i64 40) ∧ Below w.heap.size w w' := by
  have DC := Lib.hid H1
  clear H1
  go_enter Try.func16, Try.ntmps16
  go_wp2_with fail
  obtain ⟨W2, hW2⟩ : ∃ W2, W2 = w.alloc (.cells #[.bool on, .string oi, .string oj, .string oI, .int .i64 oV, .int .i64 oW, .string oG, .string oT, .int .i64 oX] 25) := ⟨_, rfl⟩
  obtain ⟨hz2, CA, -⟩ := nine_box w (.bool on) (.string oi) (.string oj) (.string oI) (.int .i64 oV) (.int .i64 oW) (.string oG) (.string oT) (.int .i64 oX) 25
  have hb2 : Below w.heap.size w W2 := by rw [hW2]; exact (Below.refl _ w).alloc (Nat.le_refl _) _
  rw [← hW2] at hz2 CA ⊢
  clear hW2
  (with_reducible refine (DC.out _).mono ?_)
  rintro e W3 ⟨rfl, hb3⟩
  have CA3 := CA.keep hb3 (by omega)
  have hz3 : w.heap.size + 1 ≤ W3.heap.size := by have := hb3.size; omega
  have B3 := Lib.hid (hb2.trans (hb3.mono hb2.size))
  clear CA hb2 hb3 hz2
  obtain ⟨a0, a1, a2, a3, a4, a5, a6, a7, a8⟩ := CA3
  go_wp2
  go_ret
  exact ⟨rfl, B3.out⟩

set_option maxHeartbeats 4000000 in
set_option maxRecDepth 100000 in
theorem rcheck_neg (oi oj oI : ByteArray) (oV oW : Int) (oG oT : ByteArray) (oX : Int) 
    (H1 : ∀ wx : World, Calls Try.prog 39 #[.agg #[.bool true, .string oi, .string oj]] wx fun e w' => e = .returned (.int .i64 0) ∧ Below wx.heap.size wx w') (w : World) :
    Calls Try.prog 16 #[.agg #[.bool true, .string oi, .string oj, .string oI, .int .i64 oV, .int .i64 oW, .string oG, .string oT, .int .i64 oX]] w fun e w' => e = .returned (.int .i64 40) ∧ Below w.heap.size w w' := by
  have DC := Lib.hid H1
  clear H1
  go_enter Try.func16, Try.ntmps16
  go_wp2_with fail
  obtain ⟨W2, hW2⟩ : ∃ W2, W2 = w.alloc (.cells #[.bool true, .string oi, .string oj, .string oI, .int .i64 oV, .int .i64 oW, .string oG, .string oT, .int .i64 oX] 25) := ⟨_, rfl⟩
  obtain ⟨hz2, CA, -⟩ := nine_box w (.bool true) (.string oi) (.string oj) (.string oI) (.int .i64 oV) (.int .i64 oW) (.string oG) (.string oT) (.int .i64 oX) 25
  have hb2 : Below w.heap.size w W2 := by rw [hW2]; exact (Below.refl _ w).alloc (Nat.le_refl _) _
  rw [← hW2] at hz2 CA ⊢
  clear hW2
  (with_reducible refine (DC.out _).mono ?_)
  rintro e W3 ⟨rfl, hb3⟩
  have CA3 := CA.keep hb3 (by omega)
  have hz3 : w.heap.size + 1 ≤ W3.heap.size := by have := hb3.size; omega
  have B3 := Lib.hid (hb2.trans (hb3.mono hb2.size))
  clear CA hb2 hb3 hz2
  obtain ⟨a0, a1, a2, a3, a4, a5, a6, a7, a8⟩ := CA3
  go_wp2
  go_ret
  exact ⟨rfl, B3.out⟩

set_option maxHeartbeats 4000000 in
set_option maxRecDepth 100000 in
theorem rcheck_e1 (oi oj oI : ByteArray) (oV oW : Int) (oG oT : ByteArray) (oX : Int) (h : oX < 0)
    (H1 : ∀ wx : World, Calls Try.prog 39 #[.agg #[.bool false, .string oi, .string oj]] wx fun e w' => e = .returned (.int .i64 0) ∧ Below wx.heap.size wx w') (w : World) :
    Calls Try.prog 16 #[.agg #[.bool false, .string oi, .string oj, .string oI, .int .i64 oV, .int .i64 oW, .string oG, .string oT, .int .i64 oX]] w fun e w' => e = .returned (.int .i64 40) ∧ Below w.heap.size w w' := by
  have DC := Lib.hid H1
  clear H1
  have q0 : decide (oX < 0) = true := decide_eq_true (by omega)
  clear h
  go_enter Try.func16, Try.ntmps16
  go_wp2_with fail
  obtain ⟨W2, hW2⟩ : ∃ W2, W2 = w.alloc (.cells #[.bool false, .string oi, .string oj, .string oI, .int .i64 oV, .int .i64 oW, .string oG, .string oT, .int .i64 oX] 25) := ⟨_, rfl⟩
  obtain ⟨hz2, CA, -⟩ := nine_box w (.bool false) (.string oi) (.string oj) (.string oI) (.int .i64 oV) (.int .i64 oW) (.string oG) (.string oT) (.int .i64 oX) 25
  have hb2 : Below w.heap.size w W2 := by rw [hW2]; exact (Below.refl _ w).alloc (Nat.le_refl _) _
  rw [← hW2] at hz2 CA ⊢
  clear hW2
  (with_reducible refine (DC.out _).mono ?_)
  rintro e W3 ⟨rfl, hb3⟩
  have CA3 := CA.keep hb3 (by omega)
  have hz3 : w.heap.size + 1 ≤ W3.heap.size := by have := hb3.size; omega
  have B3 := Lib.hid (hb2.trans (hb3.mono hb2.size))
  clear CA hb2 hb3 hz2
  obtain ⟨a0, a1, a2, a3, a4, a5, a6, a7, a8⟩ := CA3
  go_wp2
  go_ret
  exact ⟨rfl, B3.out⟩

set_option maxHeartbeats 4000000 in
set_option maxRecDepth 100000 in
theorem rcheck_e2 (oi oj oI : ByteArray) (oV oW : Int) (oG oT : ByteArray) (oX : Int) (h : 40 < oX)
    (H1 : ∀ wx : World, Calls Try.prog 39 #[.agg #[.bool false, .string oi, .string oj]] wx fun e w' => e = .returned (.int .i64 0) ∧ Below wx.heap.size wx w') (w : World) :
    Calls Try.prog 16 #[.agg #[.bool false, .string oi, .string oj, .string oI, .int .i64 oV, .int .i64 oW, .string oG, .string oT, .int .i64 oX]] w fun e w' => e = .returned (.int .i64 40) ∧ Below w.heap.size w w' := by
  have DC := Lib.hid H1
  clear H1
  have q0 : decide (oX < 0) = false := decide_eq_false (by omega)
  have q1 : decide (40 < oX) = true := decide_eq_true (by omega)
  clear h
  go_enter Try.func16, Try.ntmps16
  go_wp2_with fail
  obtain ⟨W2, hW2⟩ : ∃ W2, W2 = w.alloc (.cells #[.bool false, .string oi, .string oj, .string oI, .int .i64 oV, .int .i64 oW, .string oG, .string oT, .int .i64 oX] 25) := ⟨_, rfl⟩
  obtain ⟨hz2, CA, -⟩ := nine_box w (.bool false) (.string oi) (.string oj) (.string oI) (.int .i64 oV) (.int .i64 oW) (.string oG) (.string oT) (.int .i64 oX) 25
  have hb2 : Below w.heap.size w W2 := by rw [hW2]; exact (Below.refl _ w).alloc (Nat.le_refl _) _
  rw [← hW2] at hz2 CA ⊢
  clear hW2
  (with_reducible refine (DC.out _).mono ?_)
  rintro e W3 ⟨rfl, hb3⟩
  have CA3 := CA.keep hb3 (by omega)
  have hz3 : w.heap.size + 1 ≤ W3.heap.size := by have := hb3.size; omega
  have B3 := Lib.hid (hb2.trans (hb3.mono hb2.size))
  clear CA hb2 hb3 hz2
  obtain ⟨a0, a1, a2, a3, a4, a5, a6, a7, a8⟩ := CA3
  go_wp2
  go_ret
  exact ⟨rfl, B3.out⟩

set_option maxHeartbeats 4000000 in
set_option maxRecDepth 100000 in
theorem rcheck_v1 (oi oj oI : ByteArray) (oV oW : Int) (oG oT : ByteArray) (oX : Int) (h : 0 ≤ oX ∧ oX ≤ 40) (hv : oV < (oj.size : Int))
    (H1 : ∀ wx : World, Calls Try.prog 39 #[.agg #[.bool false, .string oi, .string oj]] wx fun e w' => e = .returned (.int .i64 0) ∧ Below wx.heap.size wx w') (w : World) :
    Calls Try.prog 16 #[.agg #[.bool false, .string oi, .string oj, .string oI, .int .i64 oV, .int .i64 oW, .string oG, .string oT, .int .i64 oX]] w fun e w' => e = .returned (.int .i64 40) ∧ Below w.heap.size w w' := by
  have DC := Lib.hid H1
  clear H1
  have q0 : decide (oX < 0) = false := decide_eq_false (by omega)
  have q1 : decide (40 < oX) = false := decide_eq_false (by omega)
  have q2 : decide (oV < (oj.size : Int)) = true := decide_eq_true (by omega)
  clear h hv
  go_enter Try.func16, Try.ntmps16
  go_wp2_with fail
  obtain ⟨W2, hW2⟩ : ∃ W2, W2 = w.alloc (.cells #[.bool false, .string oi, .string oj, .string oI, .int .i64 oV, .int .i64 oW, .string oG, .string oT, .int .i64 oX] 25) := ⟨_, rfl⟩
  obtain ⟨hz2, CA, -⟩ := nine_box w (.bool false) (.string oi) (.string oj) (.string oI) (.int .i64 oV) (.int .i64 oW) (.string oG) (.string oT) (.int .i64 oX) 25
  have hb2 : Below w.heap.size w W2 := by rw [hW2]; exact (Below.refl _ w).alloc (Nat.le_refl _) _
  rw [← hW2] at hz2 CA ⊢
  clear hW2
  (with_reducible refine (DC.out _).mono ?_)
  rintro e W3 ⟨rfl, hb3⟩
  have CA3 := CA.keep hb3 (by omega)
  have hz3 : w.heap.size + 1 ≤ W3.heap.size := by have := hb3.size; omega
  have B3 := Lib.hid (hb2.trans (hb3.mono hb2.size))
  clear CA hb2 hb3 hz2
  obtain ⟨a0, a1, a2, a3, a4, a5, a6, a7, a8⟩ := CA3
  go_wp2
  go_ret
  exact ⟨rfl, B3.out⟩

set_option maxHeartbeats 4000000 in
set_option maxRecDepth 100000 in
theorem rcheck_v2 (oi oj oI : ByteArray) (oV oW : Int) (oG oT : ByteArray) (oX : Int) (h : 0 ≤ oX ∧ oX ≤ 40) (hv : ¬ oV < (oj.size : Int)) (hs : oi.size ≤ 40) (hv2 : 40 - (oi.size : Int) < oV)
    (H1 : ∀ wx : World, Calls Try.prog 39 #[.agg #[.bool false, .string oi, .string oj]] wx fun e w' => e = .returned (.int .i64 0) ∧ Below wx.heap.size wx w') (w : World) :
    Calls Try.prog 16 #[.agg #[.bool false, .string oi, .string oj, .string oI, .int .i64 oV, .int .i64 oW, .string oG, .string oT, .int .i64 oX]] w fun e w' => e = .returned (.int .i64 40) ∧ Below w.heap.size w w' := by
  have DC := Lib.hid H1
  clear H1
  have q0 : decide (oX < 0) = false := decide_eq_false (by omega)
  have q1 : decide (40 < oX) = false := decide_eq_false (by omega)
  have q2 : decide (oV < (oj.size : Int)) = false := decide_eq_false (by omega)
  have wz : IntKind.i64.wrap (40 - (oi.size : Int)) = 40 - (oi.size : Int) := IntWalk.i64_in _ (by omega)
  have q3 : decide (40 - (oi.size : Int) < oV) = true := decide_eq_true (by omega)
  clear h hv hs hv2
  go_enter Try.func16, Try.ntmps16
  go_wp2_with fail
  obtain ⟨W2, hW2⟩ : ∃ W2, W2 = w.alloc (.cells #[.bool false, .string oi, .string oj, .string oI, .int .i64 oV, .int .i64 oW, .string oG, .string oT, .int .i64 oX] 25) := ⟨_, rfl⟩
  obtain ⟨hz2, CA, -⟩ := nine_box w (.bool false) (.string oi) (.string oj) (.string oI) (.int .i64 oV) (.int .i64 oW) (.string oG) (.string oT) (.int .i64 oX) 25
  have hb2 : Below w.heap.size w W2 := by rw [hW2]; exact (Below.refl _ w).alloc (Nat.le_refl _) _
  rw [← hW2] at hz2 CA ⊢
  clear hW2
  (with_reducible refine (DC.out _).mono ?_)
  rintro e W3 ⟨rfl, hb3⟩
  have CA3 := CA.keep hb3 (by omega)
  have hz3 : w.heap.size + 1 ≤ W3.heap.size := by have := hb3.size; omega
  have B3 := Lib.hid (hb2.trans (hb3.mono hb2.size))
  clear CA hb2 hb3 hz2
  obtain ⟨a0, a1, a2, a3, a4, a5, a6, a7, a8⟩ := CA3
  go_wp2
  go_ret
  exact ⟨rfl, B3.out⟩

end Go.Proofs.Ytcdmanhhddcmcaa
