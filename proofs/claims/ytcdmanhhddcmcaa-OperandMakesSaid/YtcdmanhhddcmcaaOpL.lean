/- Check of the program, where the operands may not be. -/
import Derived.Test.YtcdmanhhddcmcaaOpG
import Derived.Deep.QuietTactic
import Derived.BigQuiet
import Derived.Deep.RegionHeld3
namespace Go.Proofs.Ytcdmanhhddcmcaa
open Go.RowKit
attribute [local go_sem ↓] Go.wp_at_zero Go.wp_at_succ
theorem drewN_belowL {B : Nat} {w W : World} (h : Below B w W) (n : Nat) : Below B w (W.drewN n) := h.trans ⟨rfl, rfl, rfl, Nat.le_refl _, fun _ _ => rfl⟩

set_option maxHeartbeats 4000000 in
set_option maxRecDepth 100000 in
theorem ocheck_pad20 (on : Bool) (oi oj oI : ByteArray) (oV oW : Int) (oG oT : ByteArray) (oX : Int) 
    (H1 : ∀ wx : World, Calls Try.prog 21 #[.agg #[.bool on, .string oi, .string oj], .int .i64 oV] wx fun e w' => e = .returned (.tuple #[.agg #[.bool false, .string ⟨#[]⟩, .string ⟨#[]⟩], .int .i64 20]) ∧ Below wx.heap.size wx w') (w : World) :
    Calls Try.prog 15 #[.agg #[.bool on, .string oi, .string oj, .string oI, .int .i64 oV, .int .i64 oW, .string oG, .string oT, .int .i64 oX]] w fun e w' => e = .returned (.int .i64 40) ∧ Below w.heap.size w w' := by
  have DP := Lib.hid H1
  clear H1
  go_enter Try.func15, Try.ntmps15
  go_wp2_with fail
  obtain ⟨W2, hW2⟩ : ∃ W2, W2 = w.alloc (.cells #[.bool on, .string oi, .string oj, .string oI, .int .i64 oV, .int .i64 oW, .string oG, .string oT, .int .i64 oX] 25) := ⟨_, rfl⟩
  obtain ⟨hz2, CA, -⟩ := nine_box w (.bool on) (.string oi) (.string oj) (.string oI) (.int .i64 oV) (.int .i64 oW) (.string oG) (.string oT) (.int .i64 oX) 25
  have hb2 : Below w.heap.size w W2 := by rw [hW2]; exact (Below.refl _ w).alloc (Nat.le_refl _) _
  rw [← hW2] at hz2 CA ⊢
  clear hW2
  (with_reducible refine (DP.out _).mono ?_)
  rintro e W3 ⟨rfl, hb3⟩
  obtain ⟨W4, hW4⟩ : ∃ W4, W4 = W3.alloc (.cells #[.bool false, .string ⟨#[]⟩, .string ⟨#[]⟩] 23) := ⟨_, rfl⟩
  have ba : Below W3.heap.size W3 W4 := by rw [hW4]; exact (Below.refl _ _).alloc (Nat.le_refl _) _
  have CA3 := CA.keep hb3 (by omega)
  have hz3 : w.heap.size + 1 ≤ W3.heap.size := by have := hb3.size; omega
  have CA4 := CA3.keep ba (by omega)
  have hz4 : W3.heap.size + 1 ≤ W4.heap.size := by rw [hW4]; simp
  have CX : Cells3 W4 W3.heap.size (.bool false) (.string ⟨#[]⟩) (.string ⟨#[]⟩) := by rw [hW4]; exact (one_box _ _ _ _ _).2.1
  have B4 := Lib.hid ((hb2.trans (hb3.mono hb2.size)).trans (ba.mono (by have := hb3.size; have := hb2.size; omega)))
  have HW4 := Lib.hid hW4
  clear hW4 ba CA CA3 hb2 hb3 hz2
  obtain ⟨a0, a1, a2, a3, a4, a5, a6, a7, a8⟩ := CA4
  obtain ⟨c0, c1, c2⟩ := CX
  have HA : Hid (Cells9 W4 w.heap.size (.bool on) (.string oi) (.string oj) (.string oI) (.int .i64 oV) (.int .i64 oW) (.string oG) (.string oT) (.int .i64 oX)) := ⟨a0, a1, a2, a3, a4, a5, a6, a7, a8⟩
  have HX : Hid (Cells3 W4 W3.heap.size (.bool false) (.string ⟨#[]⟩) (.string ⟨#[]⟩)) := ⟨c0, c1, c2⟩
  go_wp2_with fail
  rw [← HW4.out]
  go_quiet (fail)
  go_wp2
  go_ret
  exact ⟨rfl, drewN_belowL B4.out _⟩

set_option maxHeartbeats 4000000 in
set_option maxRecDepth 100000 in
theorem ocheck_pad1 (on : Bool) (oi oj oI : ByteArray) (oV oW : Int) (oG oT : ByteArray) (oX : Int) 
    (H1 : ∀ wx : World, Calls Try.prog 21 #[.agg #[.bool on, .string oi, .string oj], .int .i64 oV] wx fun e w' => e = .returned (.tuple #[.agg #[.bool false, .string ⟨#[]⟩, .string ⟨#[]⟩], .int .i64 1]) ∧ Below wx.heap.size wx w') (w : World) :
    Calls Try.prog 15 #[.agg #[.bool on, .string oi, .string oj, .string oI, .int .i64 oV, .int .i64 oW, .string oG, .string oT, .int .i64 oX]] w fun e w' => e = .returned (.int .i64 40) ∧ Below w.heap.size w w' := by
  have DP := Lib.hid H1
  clear H1
  go_enter Try.func15, Try.ntmps15
  go_wp2_with fail
  obtain ⟨W2, hW2⟩ : ∃ W2, W2 = w.alloc (.cells #[.bool on, .string oi, .string oj, .string oI, .int .i64 oV, .int .i64 oW, .string oG, .string oT, .int .i64 oX] 25) := ⟨_, rfl⟩
  obtain ⟨hz2, CA, -⟩ := nine_box w (.bool on) (.string oi) (.string oj) (.string oI) (.int .i64 oV) (.int .i64 oW) (.string oG) (.string oT) (.int .i64 oX) 25
  have hb2 : Below w.heap.size w W2 := by rw [hW2]; exact (Below.refl _ w).alloc (Nat.le_refl _) _
  rw [← hW2] at hz2 CA ⊢
  clear hW2
  (with_reducible refine (DP.out _).mono ?_)
  rintro e W3 ⟨rfl, hb3⟩
  obtain ⟨W4, hW4⟩ : ∃ W4, W4 = W3.alloc (.cells #[.bool false, .string ⟨#[]⟩, .string ⟨#[]⟩] 23) := ⟨_, rfl⟩
  have ba : Below W3.heap.size W3 W4 := by rw [hW4]; exact (Below.refl _ _).alloc (Nat.le_refl _) _
  have CA3 := CA.keep hb3 (by omega)
  have hz3 : w.heap.size + 1 ≤ W3.heap.size := by have := hb3.size; omega
  have CA4 := CA3.keep ba (by omega)
  have hz4 : W3.heap.size + 1 ≤ W4.heap.size := by rw [hW4]; simp
  have CX : Cells3 W4 W3.heap.size (.bool false) (.string ⟨#[]⟩) (.string ⟨#[]⟩) := by rw [hW4]; exact (one_box _ _ _ _ _).2.1
  have B4 := Lib.hid ((hb2.trans (hb3.mono hb2.size)).trans (ba.mono (by have := hb3.size; have := hb2.size; omega)))
  have HW4 := Lib.hid hW4
  clear hW4 ba CA CA3 hb2 hb3 hz2
  obtain ⟨a0, a1, a2, a3, a4, a5, a6, a7, a8⟩ := CA4
  obtain ⟨c0, c1, c2⟩ := CX
  have HA : Hid (Cells9 W4 w.heap.size (.bool on) (.string oi) (.string oj) (.string oI) (.int .i64 oV) (.int .i64 oW) (.string oG) (.string oT) (.int .i64 oX)) := ⟨a0, a1, a2, a3, a4, a5, a6, a7, a8⟩
  have HX : Hid (Cells3 W4 W3.heap.size (.bool false) (.string ⟨#[]⟩) (.string ⟨#[]⟩)) := ⟨c0, c1, c2⟩
  go_wp2_with fail
  rw [← HW4.out]
  go_quiet (fail)
  go_wp2
  go_ret
  exact ⟨rfl, drewN_belowL B4.out _⟩

set_option maxHeartbeats 4000000 in
set_option maxRecDepth 100000 in
theorem ocheck_pad3 (on : Bool) (oi oj oI : ByteArray) (oV oW : Int) (oG oT : ByteArray) (oX : Int) 
    (H1 : ∀ wx : World, Calls Try.prog 21 #[.agg #[.bool on, .string oi, .string oj], .int .i64 oV] wx fun e w' => e = .returned (.tuple #[.agg #[.bool false, .string ⟨#[]⟩, .string ⟨#[]⟩], .int .i64 3]) ∧ Below wx.heap.size wx w') (w : World) :
    Calls Try.prog 15 #[.agg #[.bool on, .string oi, .string oj, .string oI, .int .i64 oV, .int .i64 oW, .string oG, .string oT, .int .i64 oX]] w fun e w' => e = .returned (.int .i64 40) ∧ Below w.heap.size w w' := by
  have DP := Lib.hid H1
  clear H1
  go_enter Try.func15, Try.ntmps15
  go_wp2_with fail
  obtain ⟨W2, hW2⟩ : ∃ W2, W2 = w.alloc (.cells #[.bool on, .string oi, .string oj, .string oI, .int .i64 oV, .int .i64 oW, .string oG, .string oT, .int .i64 oX] 25) := ⟨_, rfl⟩
  obtain ⟨hz2, CA, -⟩ := nine_box w (.bool on) (.string oi) (.string oj) (.string oI) (.int .i64 oV) (.int .i64 oW) (.string oG) (.string oT) (.int .i64 oX) 25
  have hb2 : Below w.heap.size w W2 := by rw [hW2]; exact (Below.refl _ w).alloc (Nat.le_refl _) _
  rw [← hW2] at hz2 CA ⊢
  clear hW2
  (with_reducible refine (DP.out _).mono ?_)
  rintro e W3 ⟨rfl, hb3⟩
  obtain ⟨W4, hW4⟩ : ∃ W4, W4 = W3.alloc (.cells #[.bool false, .string ⟨#[]⟩, .string ⟨#[]⟩] 23) := ⟨_, rfl⟩
  have ba : Below W3.heap.size W3 W4 := by rw [hW4]; exact (Below.refl _ _).alloc (Nat.le_refl _) _
  have CA3 := CA.keep hb3 (by omega)
  have hz3 : w.heap.size + 1 ≤ W3.heap.size := by have := hb3.size; omega
  have CA4 := CA3.keep ba (by omega)
  have hz4 : W3.heap.size + 1 ≤ W4.heap.size := by rw [hW4]; simp
  have CX : Cells3 W4 W3.heap.size (.bool false) (.string ⟨#[]⟩) (.string ⟨#[]⟩) := by rw [hW4]; exact (one_box _ _ _ _ _).2.1
  have B4 := Lib.hid ((hb2.trans (hb3.mono hb2.size)).trans (ba.mono (by have := hb3.size; have := hb2.size; omega)))
  have HW4 := Lib.hid hW4
  clear hW4 ba CA CA3 hb2 hb3 hz2
  obtain ⟨a0, a1, a2, a3, a4, a5, a6, a7, a8⟩ := CA4
  obtain ⟨c0, c1, c2⟩ := CX
  have HA : Hid (Cells9 W4 w.heap.size (.bool on) (.string oi) (.string oj) (.string oI) (.int .i64 oV) (.int .i64 oW) (.string oG) (.string oT) (.int .i64 oX)) := ⟨a0, a1, a2, a3, a4, a5, a6, a7, a8⟩
  have HX : Hid (Cells3 W4 W3.heap.size (.bool false) (.string ⟨#[]⟩) (.string ⟨#[]⟩)) := ⟨c0, c1, c2⟩
  go_wp2_with fail
  rw [← HW4.out]
  go_quiet (fail)
  go_wp2
  go_ret
  exact ⟨rfl, drewN_belowL B4.out _⟩

set_option maxHeartbeats 4000000 in
set_option maxRecDepth 100000 in
theorem ocheck_exp (on : Bool) (oi oj oI : ByteArray) (oV oW : Int) (oG oT : ByteArray) (oX : Int) (pn : Bool) (pi pf : ByteArray) (hx : ¬ (0 ≤ oX ∧ oX ≤ 40))
    (H1 : ∀ wx : World, Calls Try.prog 21 #[.agg #[.bool on, .string oi, .string oj], .int .i64 oV] wx fun e w' => e = .returned (.tuple #[.agg #[.bool pn, .string pi, .string pf], .int .i64 0]) ∧ Below wx.heap.size wx w') (w : World) :
    Calls Try.prog 15 #[.agg #[.bool on, .string oi, .string oj, .string oI, .int .i64 oV, .int .i64 oW, .string oG, .string oT, .int .i64 oX]] w fun e w' => e = .returned (.int .i64 40) ∧ Below w.heap.size w w' := by
  have DP := Lib.hid H1
  have DE : Hid (∀ wx : World, Calls Try.prog 36 #[.int .i64 oX] wx fun e w' => e = .returned (.bool false) ∧ w' = wx) := fun wx => by
    have := isExp_any oX wx
    rw [decide_eq_false hx] at this
    exact this.mono fun e w' h => ⟨h.1, h.2.symm⟩
  clear H1 hx
  go_enter Try.func15, Try.ntmps15
  go_wp2_with fail
  obtain ⟨W2, hW2⟩ : ∃ W2, W2 = w.alloc (.cells #[.bool on, .string oi, .string oj, .string oI, .int .i64 oV, .int .i64 oW, .string oG, .string oT, .int .i64 oX] 25) := ⟨_, rfl⟩
  obtain ⟨hz2, CA, -⟩ := nine_box w (.bool on) (.string oi) (.string oj) (.string oI) (.int .i64 oV) (.int .i64 oW) (.string oG) (.string oT) (.int .i64 oX) 25
  have hb2 : Below w.heap.size w W2 := by rw [hW2]; exact (Below.refl _ w).alloc (Nat.le_refl _) _
  rw [← hW2] at hz2 CA ⊢
  clear hW2
  (with_reducible refine (DP.out _).mono ?_)
  rintro e W3 ⟨rfl, hb3⟩
  obtain ⟨W4, hW4⟩ : ∃ W4, W4 = W3.alloc (.cells #[.bool pn, .string pi, .string pf] 23) := ⟨_, rfl⟩
  have ba : Below W3.heap.size W3 W4 := by rw [hW4]; exact (Below.refl _ _).alloc (Nat.le_refl _) _
  have CA3 := CA.keep hb3 (by omega)
  have hz3 : w.heap.size + 1 ≤ W3.heap.size := by have := hb3.size; omega
  have CA4 := CA3.keep ba (by omega)
  have hz4 : W3.heap.size + 1 ≤ W4.heap.size := by rw [hW4]; simp
  have CX : Cells3 W4 W3.heap.size (.bool pn) (.string pi) (.string pf) := by rw [hW4]; exact (one_box _ _ _ _ _).2.1
  have B4 := Lib.hid ((hb2.trans (hb3.mono hb2.size)).trans (ba.mono (by have := hb3.size; have := hb2.size; omega)))
  have HW4 := Lib.hid hW4
  clear hW4 ba CA CA3 hb2 hb3 hz2
  obtain ⟨a0, a1, a2, a3, a4, a5, a6, a7, a8⟩ := CA4
  obtain ⟨c0, c1, c2⟩ := CX
  have HA : Hid (Cells9 W4 w.heap.size (.bool on) (.string oi) (.string oj) (.string oI) (.int .i64 oV) (.int .i64 oW) (.string oG) (.string oT) (.int .i64 oX)) := ⟨a0, a1, a2, a3, a4, a5, a6, a7, a8⟩
  have HX : Hid (Cells3 W4 W3.heap.size (.bool pn) (.string pi) (.string pf)) := ⟨c0, c1, c2⟩
  go_wp2_with fail
  rw [← HW4.out]
  go_quiet (exact Calls.quiet_of_same (DE.out _))
  go_wp2
  go_ret
  exact ⟨rfl, drewN_belowL B4.out _⟩

end Go.Proofs.Ytcdmanhhddcmcaa
