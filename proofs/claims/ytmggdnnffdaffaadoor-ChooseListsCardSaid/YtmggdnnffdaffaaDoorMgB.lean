/- Merged: OpL, OpM, OpN. -/
import Derived.Test.YtmggdnnffdaffaaDoorOpG
import Derived.Deep.QuietTactic
import Derived.BigQuiet
import Derived.Deep.RegionHeld3
namespace Go.Proofs.YtmggdnnffdaffaaDoor
section
open Go.RowKit
attribute [local go_sem ↓] Go.wp_at_zero Go.wp_at_succ
theorem drewN_belowL {B : Nat} {w W : World} (h : Below B w W) (n : Nat) : Below B w (W.drewN n) := h.trans ⟨rfl, rfl, rfl, Nat.le_refl _, fun _ _ => rfl⟩

set_option maxHeartbeats 4000000 in
set_option maxRecDepth 100000 in
theorem ocheck_pad20 (on : Bool) (oi oj oI : ByteArray) (oV oW : Int) (oG oT : ByteArray) (oX : Int) 
    (H1 : ∀ wx : World, Calls Tryd.prog 40 #[.agg #[.bool on, .string oi, .string oj], .int .i64 oV] wx fun e w' => e = .returned (.tuple #[.agg #[.bool false, .string ⟨#[]⟩, .string ⟨#[]⟩], .int .i64 20]) ∧ Below wx.heap.size wx w') (w : World) :
    Calls Tryd.prog 21 #[.agg #[.bool on, .string oi, .string oj, .string oI, .int .i64 oV, .int .i64 oW, .string oG, .string oT, .int .i64 oX]] w fun e w' => e = .returned (.int .i64 40) ∧ Below w.heap.size w w' := by
  have DP := Lib.hid H1
  clear H1
  go_enter Tryd.func21, Tryd.ntmps21
  go_wp2_with fail
  obtain ⟨W2, hW2⟩ : ∃ W2, W2 = w.alloc (.cells #[.bool on, .string oi, .string oj, .string oI, .int .i64 oV, .int .i64 oW, .string oG, .string oT, .int .i64 oX] 30) := ⟨_, rfl⟩
  obtain ⟨hz2, CA, -⟩ := nine_box w (.bool on) (.string oi) (.string oj) (.string oI) (.int .i64 oV) (.int .i64 oW) (.string oG) (.string oT) (.int .i64 oX) 30
  have hb2 : Below w.heap.size w W2 := by rw [hW2]; exact (Below.refl _ w).alloc (Nat.le_refl _) _
  rw [← hW2] at hz2 CA ⊢
  clear hW2
  (with_reducible refine (DP.out _).mono ?_)
  rintro e W3 ⟨rfl, hb3⟩
  obtain ⟨W4, hW4⟩ : ∃ W4, W4 = W3.alloc (.cells #[.bool false, .string ⟨#[]⟩, .string ⟨#[]⟩] 27) := ⟨_, rfl⟩
  have ba : Below W3.heap.size W3 W4 := by rw [hW4]; exact (Below.refl _ _).alloc (Nat.le_refl _) _
  have CA3 := CA.keep hb3 (by omega)
  have hz3 : w.heap.size + 1 ≤ W3.heap.size := by have := hb3.size; omega
  have CA4 := CA3.keep ba (by omega)
  have hz4 : W3.heap.size + 1 ≤ W4.heap.size := by rw [hW4]; simp
  have CX : Cells3 W4 W3.heap.size (.bool false) (.string ⟨#[]⟩) (.string ⟨#[]⟩) := by rw [hW4]; exact (one_box _ _ _ _ _).2.1
  have B4 := Lib.hid ((hb2.trans (hb3.mono hb2.size)).trans (ba.mono (by have := hb3.size; have := hb2.size; omega)))
  have HW4 := Lib.hid hW4
  clear hW4 ba CA CA3 hb2 hb3 hz2
  obtain ⟨a0, a1, a2, a3, a4, a5, a6, a7, a8⟩ := CA4
  obtain ⟨c0, c1, c2⟩ := CX
  have HA : Hid (Cells9 W4 w.heap.size (.bool on) (.string oi) (.string oj) (.string oI) (.int .i64 oV) (.int .i64 oW) (.string oG) (.string oT) (.int .i64 oX)) := ⟨a0, a1, a2, a3, a4, a5, a6, a7, a8⟩
  have HX : Hid (Cells3 W4 W3.heap.size (.bool false) (.string ⟨#[]⟩) (.string ⟨#[]⟩)) := ⟨c0, c1, c2⟩
  go_wp2_with fail
  rw [← HW4.out]
  go_quiet (fail)
  go_wp2
  go_ret
  exact ⟨rfl, drewN_belowL B4.out _⟩

set_option maxHeartbeats 4000000 in
set_option maxRecDepth 100000 in
theorem ocheck_pad1 (on : Bool) (oi oj oI : ByteArray) (oV oW : Int) (oG oT : ByteArray) (oX : Int) 
    (H1 : ∀ wx : World, Calls Tryd.prog 40 #[.agg #[.bool on, .string oi, .string oj], .int .i64 oV] wx fun e w' => e = .returned (.tuple #[.agg #[.bool false, .string ⟨#[]⟩, .string ⟨#[]⟩], .int .i64 1]) ∧ Below wx.heap.size wx w') (w : World) :
    Calls Tryd.prog 21 #[.agg #[.bool on, .string oi, .string oj, .string oI, .int .i64 oV, .int .i64 oW, .string oG, .string oT, .int .i64 oX]] w fun e w' => e = .returned (.int .i64 40) ∧ Below w.heap.size w w' := by
  have DP := Lib.hid H1
  clear H1
  go_enter Tryd.func21, Tryd.ntmps21
  go_wp2_with fail
  obtain ⟨W2, hW2⟩ : ∃ W2, W2 = w.alloc (.cells #[.bool on, .string oi, .string oj, .string oI, .int .i64 oV, .int .i64 oW, .string oG, .string oT, .int .i64 oX] 30) := ⟨_, rfl⟩
  obtain ⟨hz2, CA, -⟩ := nine_box w (.bool on) (.string oi) (.string oj) (.string oI) (.int .i64 oV) (.int .i64 oW) (.string oG) (.string oT) (.int .i64 oX) 30
  have hb2 : Below w.heap.size w W2 := by rw [hW2]; exact (Below.refl _ w).alloc (Nat.le_refl _) _
  rw [← hW2] at hz2 CA ⊢
  clear hW2
  (with_reducible refine (DP.out _).mono ?_)
  rintro e W3 ⟨rfl, hb3⟩
  obtain ⟨W4, hW4⟩ : ∃ W4, W4 = W3.alloc (.cells #[.bool false, .string ⟨#[]⟩, .string ⟨#[]⟩] 27) := ⟨_, rfl⟩
  have ba : Below W3.heap.size W3 W4 := by rw [hW4]; exact (Below.refl _ _).alloc (Nat.le_refl _) _
  have CA3 := CA.keep hb3 (by omega)
  have hz3 : w.heap.size + 1 ≤ W3.heap.size := by have := hb3.size; omega
  have CA4 := CA3.keep ba (by omega)
  have hz4 : W3.heap.size + 1 ≤ W4.heap.size := by rw [hW4]; simp
  have CX : Cells3 W4 W3.heap.size (.bool false) (.string ⟨#[]⟩) (.string ⟨#[]⟩) := by rw [hW4]; exact (one_box _ _ _ _ _).2.1
  have B4 := Lib.hid ((hb2.trans (hb3.mono hb2.size)).trans (ba.mono (by have := hb3.size; have := hb2.size; omega)))
  have HW4 := Lib.hid hW4
  clear hW4 ba CA CA3 hb2 hb3 hz2
  obtain ⟨a0, a1, a2, a3, a4, a5, a6, a7, a8⟩ := CA4
  obtain ⟨c0, c1, c2⟩ := CX
  have HA : Hid (Cells9 W4 w.heap.size (.bool on) (.string oi) (.string oj) (.string oI) (.int .i64 oV) (.int .i64 oW) (.string oG) (.string oT) (.int .i64 oX)) := ⟨a0, a1, a2, a3, a4, a5, a6, a7, a8⟩
  have HX : Hid (Cells3 W4 W3.heap.size (.bool false) (.string ⟨#[]⟩) (.string ⟨#[]⟩)) := ⟨c0, c1, c2⟩
  go_wp2_with fail
  rw [← HW4.out]
  go_quiet (fail)
  go_wp2
  go_ret
  exact ⟨rfl, drewN_belowL B4.out _⟩

set_option maxHeartbeats 4000000 in
set_option maxRecDepth 100000 in
theorem ocheck_pad3 (on : Bool) (oi oj oI : ByteArray) (oV oW : Int) (oG oT : ByteArray) (oX : Int) 
    (H1 : ∀ wx : World, Calls Tryd.prog 40 #[.agg #[.bool on, .string oi, .string oj], .int .i64 oV] wx fun e w' => e = .returned (.tuple #[.agg #[.bool false, .string ⟨#[]⟩, .string ⟨#[]⟩], .int .i64 3]) ∧ Below wx.heap.size wx w') (w : World) :
    Calls Tryd.prog 21 #[.agg #[.bool on, .string oi, .string oj, .string oI, .int .i64 oV, .int .i64 oW, .string oG, .string oT, .int .i64 oX]] w fun e w' => e = .returned (.int .i64 40) ∧ Below w.heap.size w w' := by
  have DP := Lib.hid H1
  clear H1
  go_enter Tryd.func21, Tryd.ntmps21
  go_wp2_with fail
  obtain ⟨W2, hW2⟩ : ∃ W2, W2 = w.alloc (.cells #[.bool on, .string oi, .string oj, .string oI, .int .i64 oV, .int .i64 oW, .string oG, .string oT, .int .i64 oX] 30) := ⟨_, rfl⟩
  obtain ⟨hz2, CA, -⟩ := nine_box w (.bool on) (.string oi) (.string oj) (.string oI) (.int .i64 oV) (.int .i64 oW) (.string oG) (.string oT) (.int .i64 oX) 30
  have hb2 : Below w.heap.size w W2 := by rw [hW2]; exact (Below.refl _ w).alloc (Nat.le_refl _) _
  rw [← hW2] at hz2 CA ⊢
  clear hW2
  (with_reducible refine (DP.out _).mono ?_)
  rintro e W3 ⟨rfl, hb3⟩
  obtain ⟨W4, hW4⟩ : ∃ W4, W4 = W3.alloc (.cells #[.bool false, .string ⟨#[]⟩, .string ⟨#[]⟩] 27) := ⟨_, rfl⟩
  have ba : Below W3.heap.size W3 W4 := by rw [hW4]; exact (Below.refl _ _).alloc (Nat.le_refl _) _
  have CA3 := CA.keep hb3 (by omega)
  have hz3 : w.heap.size + 1 ≤ W3.heap.size := by have := hb3.size; omega
  have CA4 := CA3.keep ba (by omega)
  have hz4 : W3.heap.size + 1 ≤ W4.heap.size := by rw [hW4]; simp
  have CX : Cells3 W4 W3.heap.size (.bool false) (.string ⟨#[]⟩) (.string ⟨#[]⟩) := by rw [hW4]; exact (one_box _ _ _ _ _).2.1
  have B4 := Lib.hid ((hb2.trans (hb3.mono hb2.size)).trans (ba.mono (by have := hb3.size; have := hb2.size; omega)))
  have HW4 := Lib.hid hW4
  clear hW4 ba CA CA3 hb2 hb3 hz2
  obtain ⟨a0, a1, a2, a3, a4, a5, a6, a7, a8⟩ := CA4
  obtain ⟨c0, c1, c2⟩ := CX
  have HA : Hid (Cells9 W4 w.heap.size (.bool on) (.string oi) (.string oj) (.string oI) (.int .i64 oV) (.int .i64 oW) (.string oG) (.string oT) (.int .i64 oX)) := ⟨a0, a1, a2, a3, a4, a5, a6, a7, a8⟩
  have HX : Hid (Cells3 W4 W3.heap.size (.bool false) (.string ⟨#[]⟩) (.string ⟨#[]⟩)) := ⟨c0, c1, c2⟩
  go_wp2_with fail
  rw [← HW4.out]
  go_quiet (fail)
  go_wp2
  go_ret
  exact ⟨rfl, drewN_belowL B4.out _⟩

set_option maxHeartbeats 4000000 in
set_option maxRecDepth 100000 in
theorem ocheck_exp (on : Bool) (oi oj oI : ByteArray) (oV oW : Int) (oG oT : ByteArray) (oX : Int) (pn : Bool) (pi pf : ByteArray) (hx : ¬ (0 ≤ oX ∧ oX ≤ 40))
    (H1 : ∀ wx : World, Calls Tryd.prog 40 #[.agg #[.bool on, .string oi, .string oj], .int .i64 oV] wx fun e w' => e = .returned (.tuple #[.agg #[.bool pn, .string pi, .string pf], .int .i64 0]) ∧ Below wx.heap.size wx w') (w : World) :
    Calls Tryd.prog 21 #[.agg #[.bool on, .string oi, .string oj, .string oI, .int .i64 oV, .int .i64 oW, .string oG, .string oT, .int .i64 oX]] w fun e w' => e = .returned (.int .i64 40) ∧ Below w.heap.size w w' := by
  have DP := Lib.hid H1
  have DE : Hid (∀ wx : World, Calls Tryd.prog 17 #[.int .i64 oX] wx fun e w' => e = .returned (.bool false) ∧ w' = wx) := fun wx => by
    have := isExp_any oX wx
    rw [decide_eq_false hx] at this
    exact this.mono fun e w' h => ⟨h.1, h.2.symm⟩
  clear H1 hx
  go_enter Tryd.func21, Tryd.ntmps21
  go_wp2_with fail
  obtain ⟨W2, hW2⟩ : ∃ W2, W2 = w.alloc (.cells #[.bool on, .string oi, .string oj, .string oI, .int .i64 oV, .int .i64 oW, .string oG, .string oT, .int .i64 oX] 30) := ⟨_, rfl⟩
  obtain ⟨hz2, CA, -⟩ := nine_box w (.bool on) (.string oi) (.string oj) (.string oI) (.int .i64 oV) (.int .i64 oW) (.string oG) (.string oT) (.int .i64 oX) 30
  have hb2 : Below w.heap.size w W2 := by rw [hW2]; exact (Below.refl _ w).alloc (Nat.le_refl _) _
  rw [← hW2] at hz2 CA ⊢
  clear hW2
  (with_reducible refine (DP.out _).mono ?_)
  rintro e W3 ⟨rfl, hb3⟩
  obtain ⟨W4, hW4⟩ : ∃ W4, W4 = W3.alloc (.cells #[.bool pn, .string pi, .string pf] 27) := ⟨_, rfl⟩
  have ba : Below W3.heap.size W3 W4 := by rw [hW4]; exact (Below.refl _ _).alloc (Nat.le_refl _) _
  have CA3 := CA.keep hb3 (by omega)
  have hz3 : w.heap.size + 1 ≤ W3.heap.size := by have := hb3.size; omega
  have CA4 := CA3.keep ba (by omega)
  have hz4 : W3.heap.size + 1 ≤ W4.heap.size := by rw [hW4]; simp
  have CX : Cells3 W4 W3.heap.size (.bool pn) (.string pi) (.string pf) := by rw [hW4]; exact (one_box _ _ _ _ _).2.1
  have B4 := Lib.hid ((hb2.trans (hb3.mono hb2.size)).trans (ba.mono (by have := hb3.size; have := hb2.size; omega)))
  have HW4 := Lib.hid hW4
  clear hW4 ba CA CA3 hb2 hb3 hz2
  obtain ⟨a0, a1, a2, a3, a4, a5, a6, a7, a8⟩ := CA4
  obtain ⟨c0, c1, c2⟩ := CX
  have HA : Hid (Cells9 W4 w.heap.size (.bool on) (.string oi) (.string oj) (.string oI) (.int .i64 oV) (.int .i64 oW) (.string oG) (.string oT) (.int .i64 oX)) := ⟨a0, a1, a2, a3, a4, a5, a6, a7, a8⟩
  have HX : Hid (Cells3 W4 W3.heap.size (.bool pn) (.string pi) (.string pf)) := ⟨c0, c1, c2⟩
  go_wp2_with fail
  rw [← HW4.out]
  go_quiet (exact Calls.quiet_of_same (DE.out _))
  go_wp2
  go_ret
  exact ⟨rfl, drewN_belowL B4.out _⟩
end
section
open Go.RowKit
attribute [local go_sem ↓] Go.wp_at_zero Go.wp_at_succ
theorem drewN_belowM {B : Nat} {w W : World} (h : Below B w W) (n : Nat) : Below B w (W.drewN n) := h.trans ⟨rfl, rfl, rfl, Nat.le_refl _, fun _ _ => rfl⟩

set_option maxHeartbeats 4000000 in
set_option maxRecDepth 100000 in
theorem ocheck_d0 (oi oj oI : ByteArray) (oV oW : Int) (oG oT : ByteArray) (oX : Int) (pn : Bool) (pi pf s1 s2 s3 : ByteArray) (s4 s5 : Int) (s6 s7 : ByteArray) (hx : 0 ≤ oX ∧ oX ≤ 40) 
    (H1 : ∀ wx : World, Calls Tryd.prog 40 #[.agg #[.bool true, .string oi, .string oj], .int .i64 oV] wx fun e w' => e = .returned (.tuple #[.agg #[.bool pn, .string pi, .string pf], .int .i64 0]) ∧ Below wx.heap.size wx w')
    (H2 : ∀ wx : World, Calls Tryd.prog 19 #[.agg #[.bool pn, .string pi, .string pf], .int .i64 oX] wx fun e w' => e = .returned (.agg #[.bool false, .string s1, .string s2, .string s3, .int .i64 s4, .int .i64 s5, .string s6, .string s7, .int .i64 oX]) ∧ Below wx.heap.size wx w') (w : World) :
    Calls Tryd.prog 21 #[.agg #[.bool true, .string oi, .string oj, .string oI, .int .i64 oV, .int .i64 oW, .string oG, .string oT, .int .i64 oX]] w fun e w' => e = .returned (.int .i64 40) ∧ Below w.heap.size w w' := by
  have DP := Lib.hid H1
  have DO := Lib.hid H2
  have DE : Hid (∀ wx : World, Calls Tryd.prog 17 #[.int .i64 oX] wx fun e w' => e = .returned (.bool true) ∧ wx = w') := fun wx => by
    have := isExp_any oX wx
    rw [decide_eq_true hx] at this
    exact this
  clear H1 H2 hx
  go_enter Tryd.func21, Tryd.ntmps21
  go_wp2_with fail
  obtain ⟨W2, hW2⟩ : ∃ W2, W2 = w.alloc (.cells #[.bool true, .string oi, .string oj, .string oI, .int .i64 oV, .int .i64 oW, .string oG, .string oT, .int .i64 oX] 30) := ⟨_, rfl⟩
  obtain ⟨hz2, CA, -⟩ := nine_box w (.bool true) (.string oi) (.string oj) (.string oI) (.int .i64 oV) (.int .i64 oW) (.string oG) (.string oT) (.int .i64 oX) 30
  have hb2 : Below w.heap.size w W2 := by rw [hW2]; exact (Below.refl _ w).alloc (Nat.le_refl _) _
  rw [← hW2] at hz2 CA ⊢
  clear hW2
  (with_reducible refine (DP.out _).mono ?_)
  rintro e W3 ⟨rfl, hb3⟩
  obtain ⟨W4, hW4⟩ : ∃ W4, W4 = W3.alloc (.cells #[.bool pn, .string pi, .string pf] 27) := ⟨_, rfl⟩
  have ba : Below W3.heap.size W3 W4 := by rw [hW4]; exact (Below.refl _ _).alloc (Nat.le_refl _) _
  have CA3 := CA.keep hb3 (by omega)
  have hz3 : w.heap.size + 1 ≤ W3.heap.size := by have := hb3.size; omega
  have CA4 := CA3.keep ba (by omega)
  have hz4 : W3.heap.size + 1 ≤ W4.heap.size := by rw [hW4]; simp
  have CX : Cells3 W4 W3.heap.size (.bool pn) (.string pi) (.string pf) := by rw [hW4]; exact (one_box _ _ _ _ _).2.1
  have B4 := Lib.hid ((hb2.trans (hb3.mono hb2.size)).trans (ba.mono (by have := hb3.size; have := hb2.size; omega)))
  have HW4 := Lib.hid hW4
  clear hW4 ba CA CA3 hb2 hb3 hz2
  obtain ⟨a0, a1, a2, a3, a4, a5, a6, a7, a8⟩ := CA4
  obtain ⟨c0, c1, c2⟩ := CX
  have HA : Hid (Cells9 W4 w.heap.size (.bool true) (.string oi) (.string oj) (.string oI) (.int .i64 oV) (.int .i64 oW) (.string oG) (.string oT) (.int .i64 oX)) := ⟨a0, a1, a2, a3, a4, a5, a6, a7, a8⟩
  have HX : Hid (Cells3 W4 W3.heap.size (.bool pn) (.string pi) (.string pf)) := ⟨c0, c1, c2⟩
  go_wp2_with fail
  rw [← HW4.out]
  go_region_held3 (fun w' => w'.cell? ⟨w.heap.size, 0, none⟩ = some (.bool true) ∧ w'.cell? ⟨w.heap.size, 1, none⟩ = some (.string oi) ∧ w'.cell? ⟨w.heap.size, 2, none⟩ = some (.string oj) ∧ w'.cell? ⟨w.heap.size, 3, none⟩ = some (.string oI) ∧ w'.cell? ⟨w.heap.size, 4, none⟩ = some (.int .i64 oV) ∧ w'.cell? ⟨w.heap.size, 5, none⟩ = some (.int .i64 oW) ∧ w'.cell? ⟨w.heap.size, 6, none⟩ = some (.string oG) ∧ w'.cell? ⟨w.heap.size, 7, none⟩ = some (.string oT) ∧ w'.cell? ⟨w.heap.size, 8, none⟩ = some (.int .i64 oX) ∧ w'.cell? ⟨W3.heap.size, 0, none⟩ = some (.bool pn) ∧ w'.cell? ⟨W3.heap.size, 1, none⟩ = some (.string pi) ∧ w'.cell? ⟨W3.heap.size, 2, none⟩ = some (.string pf))
    (first
      | (with_reducible exact ⟨a0, a1, a2, a3, a4, a5, a6, a7, a8, c0, c1, c2⟩)
      | (with_reducible exact ⟨(drew_cell _ _).trans a0, (drew_cell _ _).trans a1, (drew_cell _ _).trans a2, (drew_cell _ _).trans a3, (drew_cell _ _).trans a4, (drew_cell _ _).trans a5, (drew_cell _ _).trans a6, (drew_cell _ _).trans a7, (drew_cell _ _).trans a8, (drew_cell _ _).trans c0, (drew_cell _ _).trans c1, (drew_cell _ _).trans c2⟩)
      | (have t := HA.out.keep (undrew hbA) (by omega); have u := HX.out.keep (undrew hbA) (by omega); obtain ⟨t0, t1, t2, t3, t4, t5, t6, t7, t8⟩ := t; exact ⟨t0, t1, t2, t3, t4, t5, t6, t7, t8, u.1, u.2.1, u.2.2⟩))
    (first
      | (go_at_call 17; (with_reducible refine (DE.out _).mono ?_); rintro e wE ⟨rfl, rfl⟩)
      | (go_at_call 19; (with_reducible refine (DO.out _).mono ?_); rintro e wA ⟨rfl, hbA⟩))
  go_wp2
  go_ret
  exact ⟨rfl, B4.out.trans ((undrew hbA).mono B4.out.size)⟩

set_option maxHeartbeats 4000000 in
set_option maxRecDepth 100000 in
theorem ocheck_d1 (on : Bool) (oi oj oI : ByteArray) (oV oW : Int) (oG oT : ByteArray) (oX : Int) (pn : Bool) (pi pf s1 s2 s3 : ByteArray) (s4 s5 : Int) (s6 s7 : ByteArray) (hx : 0 ≤ oX ∧ oX ≤ 40) (q : (oi.toList == s1.toList) = false)
    (H1 : ∀ wx : World, Calls Tryd.prog 40 #[.agg #[.bool on, .string oi, .string oj], .int .i64 oV] wx fun e w' => e = .returned (.tuple #[.agg #[.bool pn, .string pi, .string pf], .int .i64 0]) ∧ Below wx.heap.size wx w')
    (H2 : ∀ wx : World, Calls Tryd.prog 19 #[.agg #[.bool pn, .string pi, .string pf], .int .i64 oX] wx fun e w' => e = .returned (.agg #[.bool false, .string s1, .string s2, .string s3, .int .i64 s4, .int .i64 s5, .string s6, .string s7, .int .i64 oX]) ∧ Below wx.heap.size wx w') (w : World) :
    Calls Tryd.prog 21 #[.agg #[.bool on, .string oi, .string oj, .string oI, .int .i64 oV, .int .i64 oW, .string oG, .string oT, .int .i64 oX]] w fun e w' => e = .returned (.int .i64 40) ∧ Below w.heap.size w w' := by
  have DP := Lib.hid H1
  have DO := Lib.hid H2
  have DE : Hid (∀ wx : World, Calls Tryd.prog 17 #[.int .i64 oX] wx fun e w' => e = .returned (.bool true) ∧ wx = w') := fun wx => by
    have := isExp_any oX wx
    rw [decide_eq_true hx] at this
    exact this
  clear H1 H2 hx
  go_enter Tryd.func21, Tryd.ntmps21
  go_wp2_with fail
  obtain ⟨W2, hW2⟩ : ∃ W2, W2 = w.alloc (.cells #[.bool on, .string oi, .string oj, .string oI, .int .i64 oV, .int .i64 oW, .string oG, .string oT, .int .i64 oX] 30) := ⟨_, rfl⟩
  obtain ⟨hz2, CA, -⟩ := nine_box w (.bool on) (.string oi) (.string oj) (.string oI) (.int .i64 oV) (.int .i64 oW) (.string oG) (.string oT) (.int .i64 oX) 30
  have hb2 : Below w.heap.size w W2 := by rw [hW2]; exact (Below.refl _ w).alloc (Nat.le_refl _) _
  rw [← hW2] at hz2 CA ⊢
  clear hW2
  (with_reducible refine (DP.out _).mono ?_)
  rintro e W3 ⟨rfl, hb3⟩
  obtain ⟨W4, hW4⟩ : ∃ W4, W4 = W3.alloc (.cells #[.bool pn, .string pi, .string pf] 27) := ⟨_, rfl⟩
  have ba : Below W3.heap.size W3 W4 := by rw [hW4]; exact (Below.refl _ _).alloc (Nat.le_refl _) _
  have CA3 := CA.keep hb3 (by omega)
  have hz3 : w.heap.size + 1 ≤ W3.heap.size := by have := hb3.size; omega
  have CA4 := CA3.keep ba (by omega)
  have hz4 : W3.heap.size + 1 ≤ W4.heap.size := by rw [hW4]; simp
  have CX : Cells3 W4 W3.heap.size (.bool pn) (.string pi) (.string pf) := by rw [hW4]; exact (one_box _ _ _ _ _).2.1
  have B4 := Lib.hid ((hb2.trans (hb3.mono hb2.size)).trans (ba.mono (by have := hb3.size; have := hb2.size; omega)))
  have HW4 := Lib.hid hW4
  clear hW4 ba CA CA3 hb2 hb3 hz2
  obtain ⟨a0, a1, a2, a3, a4, a5, a6, a7, a8⟩ := CA4
  obtain ⟨c0, c1, c2⟩ := CX
  have HA : Hid (Cells9 W4 w.heap.size (.bool on) (.string oi) (.string oj) (.string oI) (.int .i64 oV) (.int .i64 oW) (.string oG) (.string oT) (.int .i64 oX)) := ⟨a0, a1, a2, a3, a4, a5, a6, a7, a8⟩
  have HX : Hid (Cells3 W4 W3.heap.size (.bool pn) (.string pi) (.string pf)) := ⟨c0, c1, c2⟩
  go_wp2_with fail
  rw [← HW4.out]
  go_region_held3 (fun w' => w'.cell? ⟨w.heap.size, 0, none⟩ = some (.bool on) ∧ w'.cell? ⟨w.heap.size, 1, none⟩ = some (.string oi) ∧ w'.cell? ⟨w.heap.size, 2, none⟩ = some (.string oj) ∧ w'.cell? ⟨w.heap.size, 3, none⟩ = some (.string oI) ∧ w'.cell? ⟨w.heap.size, 4, none⟩ = some (.int .i64 oV) ∧ w'.cell? ⟨w.heap.size, 5, none⟩ = some (.int .i64 oW) ∧ w'.cell? ⟨w.heap.size, 6, none⟩ = some (.string oG) ∧ w'.cell? ⟨w.heap.size, 7, none⟩ = some (.string oT) ∧ w'.cell? ⟨w.heap.size, 8, none⟩ = some (.int .i64 oX) ∧ w'.cell? ⟨W3.heap.size, 0, none⟩ = some (.bool pn) ∧ w'.cell? ⟨W3.heap.size, 1, none⟩ = some (.string pi) ∧ w'.cell? ⟨W3.heap.size, 2, none⟩ = some (.string pf))
    (first
      | (with_reducible exact ⟨a0, a1, a2, a3, a4, a5, a6, a7, a8, c0, c1, c2⟩)
      | (with_reducible exact ⟨(drew_cell _ _).trans a0, (drew_cell _ _).trans a1, (drew_cell _ _).trans a2, (drew_cell _ _).trans a3, (drew_cell _ _).trans a4, (drew_cell _ _).trans a5, (drew_cell _ _).trans a6, (drew_cell _ _).trans a7, (drew_cell _ _).trans a8, (drew_cell _ _).trans c0, (drew_cell _ _).trans c1, (drew_cell _ _).trans c2⟩)
      | (have t := HA.out.keep (undrew hbA) (by omega); have u := HX.out.keep (undrew hbA) (by omega); obtain ⟨t0, t1, t2, t3, t4, t5, t6, t7, t8⟩ := t; exact ⟨t0, t1, t2, t3, t4, t5, t6, t7, t8, u.1, u.2.1, u.2.2⟩))
    (first
      | (go_at_call 17; (with_reducible refine (DE.out _).mono ?_); rintro e wE ⟨rfl, rfl⟩)
      | (go_at_call 19; (with_reducible refine (DO.out _).mono ?_); rintro e wA ⟨rfl, hbA⟩))
  go_wp2
  go_ret
  exact ⟨rfl, B4.out.trans ((undrew hbA).mono B4.out.size)⟩

set_option maxHeartbeats 4000000 in
set_option maxRecDepth 100000 in
theorem ocheck_d2 (on : Bool) (oi oj oI : ByteArray) (oV oW : Int) (oG oT : ByteArray) (oX : Int) (pn : Bool) (pi pf s1 s2 s3 : ByteArray) (s4 s5 : Int) (s6 s7 : ByteArray) (hx : 0 ≤ oX ∧ oX ≤ 40) (q : (oj.toList == s2.toList) = false)
    (H1 : ∀ wx : World, Calls Tryd.prog 40 #[.agg #[.bool on, .string oi, .string oj], .int .i64 oV] wx fun e w' => e = .returned (.tuple #[.agg #[.bool pn, .string pi, .string pf], .int .i64 0]) ∧ Below wx.heap.size wx w')
    (H2 : ∀ wx : World, Calls Tryd.prog 19 #[.agg #[.bool pn, .string pi, .string pf], .int .i64 oX] wx fun e w' => e = .returned (.agg #[.bool false, .string s1, .string s2, .string s3, .int .i64 s4, .int .i64 s5, .string s6, .string s7, .int .i64 oX]) ∧ Below wx.heap.size wx w') (w : World) :
    Calls Tryd.prog 21 #[.agg #[.bool on, .string oi, .string oj, .string oI, .int .i64 oV, .int .i64 oW, .string oG, .string oT, .int .i64 oX]] w fun e w' => e = .returned (.int .i64 40) ∧ Below w.heap.size w w' := by
  have DP := Lib.hid H1
  have DO := Lib.hid H2
  have DE : Hid (∀ wx : World, Calls Tryd.prog 17 #[.int .i64 oX] wx fun e w' => e = .returned (.bool true) ∧ wx = w') := fun wx => by
    have := isExp_any oX wx
    rw [decide_eq_true hx] at this
    exact this
  clear H1 H2 hx
  go_enter Tryd.func21, Tryd.ntmps21
  go_wp2_with fail
  obtain ⟨W2, hW2⟩ : ∃ W2, W2 = w.alloc (.cells #[.bool on, .string oi, .string oj, .string oI, .int .i64 oV, .int .i64 oW, .string oG, .string oT, .int .i64 oX] 30) := ⟨_, rfl⟩
  obtain ⟨hz2, CA, -⟩ := nine_box w (.bool on) (.string oi) (.string oj) (.string oI) (.int .i64 oV) (.int .i64 oW) (.string oG) (.string oT) (.int .i64 oX) 30
  have hb2 : Below w.heap.size w W2 := by rw [hW2]; exact (Below.refl _ w).alloc (Nat.le_refl _) _
  rw [← hW2] at hz2 CA ⊢
  clear hW2
  (with_reducible refine (DP.out _).mono ?_)
  rintro e W3 ⟨rfl, hb3⟩
  obtain ⟨W4, hW4⟩ : ∃ W4, W4 = W3.alloc (.cells #[.bool pn, .string pi, .string pf] 27) := ⟨_, rfl⟩
  have ba : Below W3.heap.size W3 W4 := by rw [hW4]; exact (Below.refl _ _).alloc (Nat.le_refl _) _
  have CA3 := CA.keep hb3 (by omega)
  have hz3 : w.heap.size + 1 ≤ W3.heap.size := by have := hb3.size; omega
  have CA4 := CA3.keep ba (by omega)
  have hz4 : W3.heap.size + 1 ≤ W4.heap.size := by rw [hW4]; simp
  have CX : Cells3 W4 W3.heap.size (.bool pn) (.string pi) (.string pf) := by rw [hW4]; exact (one_box _ _ _ _ _).2.1
  have B4 := Lib.hid ((hb2.trans (hb3.mono hb2.size)).trans (ba.mono (by have := hb3.size; have := hb2.size; omega)))
  have HW4 := Lib.hid hW4
  clear hW4 ba CA CA3 hb2 hb3 hz2
  obtain ⟨a0, a1, a2, a3, a4, a5, a6, a7, a8⟩ := CA4
  obtain ⟨c0, c1, c2⟩ := CX
  have HA : Hid (Cells9 W4 w.heap.size (.bool on) (.string oi) (.string oj) (.string oI) (.int .i64 oV) (.int .i64 oW) (.string oG) (.string oT) (.int .i64 oX)) := ⟨a0, a1, a2, a3, a4, a5, a6, a7, a8⟩
  have HX : Hid (Cells3 W4 W3.heap.size (.bool pn) (.string pi) (.string pf)) := ⟨c0, c1, c2⟩
  go_wp2_with fail
  rw [← HW4.out]
  go_region_held3 (fun w' => w'.cell? ⟨w.heap.size, 0, none⟩ = some (.bool on) ∧ w'.cell? ⟨w.heap.size, 1, none⟩ = some (.string oi) ∧ w'.cell? ⟨w.heap.size, 2, none⟩ = some (.string oj) ∧ w'.cell? ⟨w.heap.size, 3, none⟩ = some (.string oI) ∧ w'.cell? ⟨w.heap.size, 4, none⟩ = some (.int .i64 oV) ∧ w'.cell? ⟨w.heap.size, 5, none⟩ = some (.int .i64 oW) ∧ w'.cell? ⟨w.heap.size, 6, none⟩ = some (.string oG) ∧ w'.cell? ⟨w.heap.size, 7, none⟩ = some (.string oT) ∧ w'.cell? ⟨w.heap.size, 8, none⟩ = some (.int .i64 oX) ∧ w'.cell? ⟨W3.heap.size, 0, none⟩ = some (.bool pn) ∧ w'.cell? ⟨W3.heap.size, 1, none⟩ = some (.string pi) ∧ w'.cell? ⟨W3.heap.size, 2, none⟩ = some (.string pf))
    (first
      | (with_reducible exact ⟨a0, a1, a2, a3, a4, a5, a6, a7, a8, c0, c1, c2⟩)
      | (with_reducible exact ⟨(drew_cell _ _).trans a0, (drew_cell _ _).trans a1, (drew_cell _ _).trans a2, (drew_cell _ _).trans a3, (drew_cell _ _).trans a4, (drew_cell _ _).trans a5, (drew_cell _ _).trans a6, (drew_cell _ _).trans a7, (drew_cell _ _).trans a8, (drew_cell _ _).trans c0, (drew_cell _ _).trans c1, (drew_cell _ _).trans c2⟩)
      | (have t := HA.out.keep (undrew hbA) (by omega); have u := HX.out.keep (undrew hbA) (by omega); obtain ⟨t0, t1, t2, t3, t4, t5, t6, t7, t8⟩ := t; exact ⟨t0, t1, t2, t3, t4, t5, t6, t7, t8, u.1, u.2.1, u.2.2⟩))
    (first
      | (go_at_call 17; (with_reducible refine (DE.out _).mono ?_); rintro e wE ⟨rfl, rfl⟩)
      | (go_at_call 19; (with_reducible refine (DO.out _).mono ?_); rintro e wA ⟨rfl, hbA⟩))
  go_wp2
  go_ret
  exact ⟨rfl, B4.out.trans ((undrew hbA).mono B4.out.size)⟩

set_option maxHeartbeats 4000000 in
set_option maxRecDepth 100000 in
theorem ocheck_d3 (on : Bool) (oi oj oI : ByteArray) (oV oW : Int) (oG oT : ByteArray) (oX : Int) (pn : Bool) (pi pf s1 s2 s3 : ByteArray) (s4 s5 : Int) (s6 s7 : ByteArray) (hx : 0 ≤ oX ∧ oX ≤ 40) (q : (oI.toList == s3.toList) = false)
    (H1 : ∀ wx : World, Calls Tryd.prog 40 #[.agg #[.bool on, .string oi, .string oj], .int .i64 oV] wx fun e w' => e = .returned (.tuple #[.agg #[.bool pn, .string pi, .string pf], .int .i64 0]) ∧ Below wx.heap.size wx w')
    (H2 : ∀ wx : World, Calls Tryd.prog 19 #[.agg #[.bool pn, .string pi, .string pf], .int .i64 oX] wx fun e w' => e = .returned (.agg #[.bool false, .string s1, .string s2, .string s3, .int .i64 s4, .int .i64 s5, .string s6, .string s7, .int .i64 oX]) ∧ Below wx.heap.size wx w') (w : World) :
    Calls Tryd.prog 21 #[.agg #[.bool on, .string oi, .string oj, .string oI, .int .i64 oV, .int .i64 oW, .string oG, .string oT, .int .i64 oX]] w fun e w' => e = .returned (.int .i64 40) ∧ Below w.heap.size w w' := by
  have DP := Lib.hid H1
  have DO := Lib.hid H2
  have DE : Hid (∀ wx : World, Calls Tryd.prog 17 #[.int .i64 oX] wx fun e w' => e = .returned (.bool true) ∧ wx = w') := fun wx => by
    have := isExp_any oX wx
    rw [decide_eq_true hx] at this
    exact this
  clear H1 H2 hx
  go_enter Tryd.func21, Tryd.ntmps21
  go_wp2_with fail
  obtain ⟨W2, hW2⟩ : ∃ W2, W2 = w.alloc (.cells #[.bool on, .string oi, .string oj, .string oI, .int .i64 oV, .int .i64 oW, .string oG, .string oT, .int .i64 oX] 30) := ⟨_, rfl⟩
  obtain ⟨hz2, CA, -⟩ := nine_box w (.bool on) (.string oi) (.string oj) (.string oI) (.int .i64 oV) (.int .i64 oW) (.string oG) (.string oT) (.int .i64 oX) 30
  have hb2 : Below w.heap.size w W2 := by rw [hW2]; exact (Below.refl _ w).alloc (Nat.le_refl _) _
  rw [← hW2] at hz2 CA ⊢
  clear hW2
  (with_reducible refine (DP.out _).mono ?_)
  rintro e W3 ⟨rfl, hb3⟩
  obtain ⟨W4, hW4⟩ : ∃ W4, W4 = W3.alloc (.cells #[.bool pn, .string pi, .string pf] 27) := ⟨_, rfl⟩
  have ba : Below W3.heap.size W3 W4 := by rw [hW4]; exact (Below.refl _ _).alloc (Nat.le_refl _) _
  have CA3 := CA.keep hb3 (by omega)
  have hz3 : w.heap.size + 1 ≤ W3.heap.size := by have := hb3.size; omega
  have CA4 := CA3.keep ba (by omega)
  have hz4 : W3.heap.size + 1 ≤ W4.heap.size := by rw [hW4]; simp
  have CX : Cells3 W4 W3.heap.size (.bool pn) (.string pi) (.string pf) := by rw [hW4]; exact (one_box _ _ _ _ _).2.1
  have B4 := Lib.hid ((hb2.trans (hb3.mono hb2.size)).trans (ba.mono (by have := hb3.size; have := hb2.size; omega)))
  have HW4 := Lib.hid hW4
  clear hW4 ba CA CA3 hb2 hb3 hz2
  obtain ⟨a0, a1, a2, a3, a4, a5, a6, a7, a8⟩ := CA4
  obtain ⟨c0, c1, c2⟩ := CX
  have HA : Hid (Cells9 W4 w.heap.size (.bool on) (.string oi) (.string oj) (.string oI) (.int .i64 oV) (.int .i64 oW) (.string oG) (.string oT) (.int .i64 oX)) := ⟨a0, a1, a2, a3, a4, a5, a6, a7, a8⟩
  have HX : Hid (Cells3 W4 W3.heap.size (.bool pn) (.string pi) (.string pf)) := ⟨c0, c1, c2⟩
  go_wp2_with fail
  rw [← HW4.out]
  go_region_held3 (fun w' => w'.cell? ⟨w.heap.size, 0, none⟩ = some (.bool on) ∧ w'.cell? ⟨w.heap.size, 1, none⟩ = some (.string oi) ∧ w'.cell? ⟨w.heap.size, 2, none⟩ = some (.string oj) ∧ w'.cell? ⟨w.heap.size, 3, none⟩ = some (.string oI) ∧ w'.cell? ⟨w.heap.size, 4, none⟩ = some (.int .i64 oV) ∧ w'.cell? ⟨w.heap.size, 5, none⟩ = some (.int .i64 oW) ∧ w'.cell? ⟨w.heap.size, 6, none⟩ = some (.string oG) ∧ w'.cell? ⟨w.heap.size, 7, none⟩ = some (.string oT) ∧ w'.cell? ⟨w.heap.size, 8, none⟩ = some (.int .i64 oX) ∧ w'.cell? ⟨W3.heap.size, 0, none⟩ = some (.bool pn) ∧ w'.cell? ⟨W3.heap.size, 1, none⟩ = some (.string pi) ∧ w'.cell? ⟨W3.heap.size, 2, none⟩ = some (.string pf))
    (first
      | (with_reducible exact ⟨a0, a1, a2, a3, a4, a5, a6, a7, a8, c0, c1, c2⟩)
      | (with_reducible exact ⟨(drew_cell _ _).trans a0, (drew_cell _ _).trans a1, (drew_cell _ _).trans a2, (drew_cell _ _).trans a3, (drew_cell _ _).trans a4, (drew_cell _ _).trans a5, (drew_cell _ _).trans a6, (drew_cell _ _).trans a7, (drew_cell _ _).trans a8, (drew_cell _ _).trans c0, (drew_cell _ _).trans c1, (drew_cell _ _).trans c2⟩)
      | (have t := HA.out.keep (undrew hbA) (by omega); have u := HX.out.keep (undrew hbA) (by omega); obtain ⟨t0, t1, t2, t3, t4, t5, t6, t7, t8⟩ := t; exact ⟨t0, t1, t2, t3, t4, t5, t6, t7, t8, u.1, u.2.1, u.2.2⟩))
    (first
      | (go_at_call 17; (with_reducible refine (DE.out _).mono ?_); rintro e wE ⟨rfl, rfl⟩)
      | (go_at_call 19; (with_reducible refine (DO.out _).mono ?_); rintro e wA ⟨rfl, hbA⟩))
  go_wp2
  go_ret
  exact ⟨rfl, B4.out.trans ((undrew hbA).mono B4.out.size)⟩
end
section
open Go.RowKit
attribute [local go_sem ↓] Go.wp_at_zero Go.wp_at_succ
theorem drewN_belowN {B : Nat} {w W : World} (h : Below B w W) (n : Nat) : Below B w (W.drewN n) := h.trans ⟨rfl, rfl, rfl, Nat.le_refl _, fun _ _ => rfl⟩

set_option maxHeartbeats 4000000 in
set_option maxRecDepth 100000 in
theorem ocheck_d4 (on : Bool) (oi oj oI : ByteArray) (oV oW : Int) (oG oT : ByteArray) (oX : Int) (pn : Bool) (pi pf s1 s2 s3 : ByteArray) (s4 s5 : Int) (s6 s7 : ByteArray) (hx : 0 ≤ oX ∧ oX ≤ 40) (q : (oV == s4) = false)
    (H1 : ∀ wx : World, Calls Tryd.prog 40 #[.agg #[.bool on, .string oi, .string oj], .int .i64 oV] wx fun e w' => e = .returned (.tuple #[.agg #[.bool pn, .string pi, .string pf], .int .i64 0]) ∧ Below wx.heap.size wx w')
    (H2 : ∀ wx : World, Calls Tryd.prog 19 #[.agg #[.bool pn, .string pi, .string pf], .int .i64 oX] wx fun e w' => e = .returned (.agg #[.bool false, .string s1, .string s2, .string s3, .int .i64 s4, .int .i64 s5, .string s6, .string s7, .int .i64 oX]) ∧ Below wx.heap.size wx w') (w : World) :
    Calls Tryd.prog 21 #[.agg #[.bool on, .string oi, .string oj, .string oI, .int .i64 oV, .int .i64 oW, .string oG, .string oT, .int .i64 oX]] w fun e w' => e = .returned (.int .i64 40) ∧ Below w.heap.size w w' := by
  have DP := Lib.hid H1
  have DO := Lib.hid H2
  have DE : Hid (∀ wx : World, Calls Tryd.prog 17 #[.int .i64 oX] wx fun e w' => e = .returned (.bool true) ∧ wx = w') := fun wx => by
    have := isExp_any oX wx
    rw [decide_eq_true hx] at this
    exact this
  clear H1 H2 hx
  go_enter Tryd.func21, Tryd.ntmps21
  go_wp2_with fail
  obtain ⟨W2, hW2⟩ : ∃ W2, W2 = w.alloc (.cells #[.bool on, .string oi, .string oj, .string oI, .int .i64 oV, .int .i64 oW, .string oG, .string oT, .int .i64 oX] 30) := ⟨_, rfl⟩
  obtain ⟨hz2, CA, -⟩ := nine_box w (.bool on) (.string oi) (.string oj) (.string oI) (.int .i64 oV) (.int .i64 oW) (.string oG) (.string oT) (.int .i64 oX) 30
  have hb2 : Below w.heap.size w W2 := by rw [hW2]; exact (Below.refl _ w).alloc (Nat.le_refl _) _
  rw [← hW2] at hz2 CA ⊢
  clear hW2
  (with_reducible refine (DP.out _).mono ?_)
  rintro e W3 ⟨rfl, hb3⟩
  obtain ⟨W4, hW4⟩ : ∃ W4, W4 = W3.alloc (.cells #[.bool pn, .string pi, .string pf] 27) := ⟨_, rfl⟩
  have ba : Below W3.heap.size W3 W4 := by rw [hW4]; exact (Below.refl _ _).alloc (Nat.le_refl _) _
  have CA3 := CA.keep hb3 (by omega)
  have hz3 : w.heap.size + 1 ≤ W3.heap.size := by have := hb3.size; omega
  have CA4 := CA3.keep ba (by omega)
  have hz4 : W3.heap.size + 1 ≤ W4.heap.size := by rw [hW4]; simp
  have CX : Cells3 W4 W3.heap.size (.bool pn) (.string pi) (.string pf) := by rw [hW4]; exact (one_box _ _ _ _ _).2.1
  have B4 := Lib.hid ((hb2.trans (hb3.mono hb2.size)).trans (ba.mono (by have := hb3.size; have := hb2.size; omega)))
  have HW4 := Lib.hid hW4
  clear hW4 ba CA CA3 hb2 hb3 hz2
  obtain ⟨a0, a1, a2, a3, a4, a5, a6, a7, a8⟩ := CA4
  obtain ⟨c0, c1, c2⟩ := CX
  have HA : Hid (Cells9 W4 w.heap.size (.bool on) (.string oi) (.string oj) (.string oI) (.int .i64 oV) (.int .i64 oW) (.string oG) (.string oT) (.int .i64 oX)) := ⟨a0, a1, a2, a3, a4, a5, a6, a7, a8⟩
  have HX : Hid (Cells3 W4 W3.heap.size (.bool pn) (.string pi) (.string pf)) := ⟨c0, c1, c2⟩
  go_wp2_with fail
  rw [← HW4.out]
  go_region_held3 (fun w' => w'.cell? ⟨w.heap.size, 0, none⟩ = some (.bool on) ∧ w'.cell? ⟨w.heap.size, 1, none⟩ = some (.string oi) ∧ w'.cell? ⟨w.heap.size, 2, none⟩ = some (.string oj) ∧ w'.cell? ⟨w.heap.size, 3, none⟩ = some (.string oI) ∧ w'.cell? ⟨w.heap.size, 4, none⟩ = some (.int .i64 oV) ∧ w'.cell? ⟨w.heap.size, 5, none⟩ = some (.int .i64 oW) ∧ w'.cell? ⟨w.heap.size, 6, none⟩ = some (.string oG) ∧ w'.cell? ⟨w.heap.size, 7, none⟩ = some (.string oT) ∧ w'.cell? ⟨w.heap.size, 8, none⟩ = some (.int .i64 oX) ∧ w'.cell? ⟨W3.heap.size, 0, none⟩ = some (.bool pn) ∧ w'.cell? ⟨W3.heap.size, 1, none⟩ = some (.string pi) ∧ w'.cell? ⟨W3.heap.size, 2, none⟩ = some (.string pf))
    (first
      | (with_reducible exact ⟨a0, a1, a2, a3, a4, a5, a6, a7, a8, c0, c1, c2⟩)
      | (with_reducible exact ⟨(drew_cell _ _).trans a0, (drew_cell _ _).trans a1, (drew_cell _ _).trans a2, (drew_cell _ _).trans a3, (drew_cell _ _).trans a4, (drew_cell _ _).trans a5, (drew_cell _ _).trans a6, (drew_cell _ _).trans a7, (drew_cell _ _).trans a8, (drew_cell _ _).trans c0, (drew_cell _ _).trans c1, (drew_cell _ _).trans c2⟩)
      | (have t := HA.out.keep (undrew hbA) (by omega); have u := HX.out.keep (undrew hbA) (by omega); obtain ⟨t0, t1, t2, t3, t4, t5, t6, t7, t8⟩ := t; exact ⟨t0, t1, t2, t3, t4, t5, t6, t7, t8, u.1, u.2.1, u.2.2⟩))
    (first
      | (go_at_call 17; (with_reducible refine (DE.out _).mono ?_); rintro e wE ⟨rfl, rfl⟩)
      | (go_at_call 19; (with_reducible refine (DO.out _).mono ?_); rintro e wA ⟨rfl, hbA⟩))
  go_wp2
  go_ret
  exact ⟨rfl, B4.out.trans ((undrew hbA).mono B4.out.size)⟩

set_option maxHeartbeats 4000000 in
set_option maxRecDepth 100000 in
theorem ocheck_d5 (on : Bool) (oi oj oI : ByteArray) (oV oW : Int) (oG oT : ByteArray) (oX : Int) (pn : Bool) (pi pf s1 s2 s3 : ByteArray) (s4 s5 : Int) (s6 s7 : ByteArray) (hx : 0 ≤ oX ∧ oX ≤ 40) (q : (oW == s5) = false)
    (H1 : ∀ wx : World, Calls Tryd.prog 40 #[.agg #[.bool on, .string oi, .string oj], .int .i64 oV] wx fun e w' => e = .returned (.tuple #[.agg #[.bool pn, .string pi, .string pf], .int .i64 0]) ∧ Below wx.heap.size wx w')
    (H2 : ∀ wx : World, Calls Tryd.prog 19 #[.agg #[.bool pn, .string pi, .string pf], .int .i64 oX] wx fun e w' => e = .returned (.agg #[.bool false, .string s1, .string s2, .string s3, .int .i64 s4, .int .i64 s5, .string s6, .string s7, .int .i64 oX]) ∧ Below wx.heap.size wx w') (w : World) :
    Calls Tryd.prog 21 #[.agg #[.bool on, .string oi, .string oj, .string oI, .int .i64 oV, .int .i64 oW, .string oG, .string oT, .int .i64 oX]] w fun e w' => e = .returned (.int .i64 40) ∧ Below w.heap.size w w' := by
  have DP := Lib.hid H1
  have DO := Lib.hid H2
  have DE : Hid (∀ wx : World, Calls Tryd.prog 17 #[.int .i64 oX] wx fun e w' => e = .returned (.bool true) ∧ wx = w') := fun wx => by
    have := isExp_any oX wx
    rw [decide_eq_true hx] at this
    exact this
  clear H1 H2 hx
  go_enter Tryd.func21, Tryd.ntmps21
  go_wp2_with fail
  obtain ⟨W2, hW2⟩ : ∃ W2, W2 = w.alloc (.cells #[.bool on, .string oi, .string oj, .string oI, .int .i64 oV, .int .i64 oW, .string oG, .string oT, .int .i64 oX] 30) := ⟨_, rfl⟩
  obtain ⟨hz2, CA, -⟩ := nine_box w (.bool on) (.string oi) (.string oj) (.string oI) (.int .i64 oV) (.int .i64 oW) (.string oG) (.string oT) (.int .i64 oX) 30
  have hb2 : Below w.heap.size w W2 := by rw [hW2]; exact (Below.refl _ w).alloc (Nat.le_refl _) _
  rw [← hW2] at hz2 CA ⊢
  clear hW2
  (with_reducible refine (DP.out _).mono ?_)
  rintro e W3 ⟨rfl, hb3⟩
  obtain ⟨W4, hW4⟩ : ∃ W4, W4 = W3.alloc (.cells #[.bool pn, .string pi, .string pf] 27) := ⟨_, rfl⟩
  have ba : Below W3.heap.size W3 W4 := by rw [hW4]; exact (Below.refl _ _).alloc (Nat.le_refl _) _
  have CA3 := CA.keep hb3 (by omega)
  have hz3 : w.heap.size + 1 ≤ W3.heap.size := by have := hb3.size; omega
  have CA4 := CA3.keep ba (by omega)
  have hz4 : W3.heap.size + 1 ≤ W4.heap.size := by rw [hW4]; simp
  have CX : Cells3 W4 W3.heap.size (.bool pn) (.string pi) (.string pf) := by rw [hW4]; exact (one_box _ _ _ _ _).2.1
  have B4 := Lib.hid ((hb2.trans (hb3.mono hb2.size)).trans (ba.mono (by have := hb3.size; have := hb2.size; omega)))
  have HW4 := Lib.hid hW4
  clear hW4 ba CA CA3 hb2 hb3 hz2
  obtain ⟨a0, a1, a2, a3, a4, a5, a6, a7, a8⟩ := CA4
  obtain ⟨c0, c1, c2⟩ := CX
  have HA : Hid (Cells9 W4 w.heap.size (.bool on) (.string oi) (.string oj) (.string oI) (.int .i64 oV) (.int .i64 oW) (.string oG) (.string oT) (.int .i64 oX)) := ⟨a0, a1, a2, a3, a4, a5, a6, a7, a8⟩
  have HX : Hid (Cells3 W4 W3.heap.size (.bool pn) (.string pi) (.string pf)) := ⟨c0, c1, c2⟩
  go_wp2_with fail
  rw [← HW4.out]
  go_region_held3 (fun w' => w'.cell? ⟨w.heap.size, 0, none⟩ = some (.bool on) ∧ w'.cell? ⟨w.heap.size, 1, none⟩ = some (.string oi) ∧ w'.cell? ⟨w.heap.size, 2, none⟩ = some (.string oj) ∧ w'.cell? ⟨w.heap.size, 3, none⟩ = some (.string oI) ∧ w'.cell? ⟨w.heap.size, 4, none⟩ = some (.int .i64 oV) ∧ w'.cell? ⟨w.heap.size, 5, none⟩ = some (.int .i64 oW) ∧ w'.cell? ⟨w.heap.size, 6, none⟩ = some (.string oG) ∧ w'.cell? ⟨w.heap.size, 7, none⟩ = some (.string oT) ∧ w'.cell? ⟨w.heap.size, 8, none⟩ = some (.int .i64 oX) ∧ w'.cell? ⟨W3.heap.size, 0, none⟩ = some (.bool pn) ∧ w'.cell? ⟨W3.heap.size, 1, none⟩ = some (.string pi) ∧ w'.cell? ⟨W3.heap.size, 2, none⟩ = some (.string pf))
    (first
      | (with_reducible exact ⟨a0, a1, a2, a3, a4, a5, a6, a7, a8, c0, c1, c2⟩)
      | (with_reducible exact ⟨(drew_cell _ _).trans a0, (drew_cell _ _).trans a1, (drew_cell _ _).trans a2, (drew_cell _ _).trans a3, (drew_cell _ _).trans a4, (drew_cell _ _).trans a5, (drew_cell _ _).trans a6, (drew_cell _ _).trans a7, (drew_cell _ _).trans a8, (drew_cell _ _).trans c0, (drew_cell _ _).trans c1, (drew_cell _ _).trans c2⟩)
      | (have t := HA.out.keep (undrew hbA) (by omega); have u := HX.out.keep (undrew hbA) (by omega); obtain ⟨t0, t1, t2, t3, t4, t5, t6, t7, t8⟩ := t; exact ⟨t0, t1, t2, t3, t4, t5, t6, t7, t8, u.1, u.2.1, u.2.2⟩))
    (first
      | (go_at_call 17; (with_reducible refine (DE.out _).mono ?_); rintro e wE ⟨rfl, rfl⟩)
      | (go_at_call 19; (with_reducible refine (DO.out _).mono ?_); rintro e wA ⟨rfl, hbA⟩))
  go_wp2
  go_ret
  exact ⟨rfl, B4.out.trans ((undrew hbA).mono B4.out.size)⟩

set_option maxHeartbeats 4000000 in
set_option maxRecDepth 100000 in
theorem ocheck_d6 (on : Bool) (oi oj oI : ByteArray) (oV oW : Int) (oG oT : ByteArray) (oX : Int) (pn : Bool) (pi pf s1 s2 s3 : ByteArray) (s4 s5 : Int) (s6 s7 : ByteArray) (hx : 0 ≤ oX ∧ oX ≤ 40) (q : (oG.toList == s6.toList) = false)
    (H1 : ∀ wx : World, Calls Tryd.prog 40 #[.agg #[.bool on, .string oi, .string oj], .int .i64 oV] wx fun e w' => e = .returned (.tuple #[.agg #[.bool pn, .string pi, .string pf], .int .i64 0]) ∧ Below wx.heap.size wx w')
    (H2 : ∀ wx : World, Calls Tryd.prog 19 #[.agg #[.bool pn, .string pi, .string pf], .int .i64 oX] wx fun e w' => e = .returned (.agg #[.bool false, .string s1, .string s2, .string s3, .int .i64 s4, .int .i64 s5, .string s6, .string s7, .int .i64 oX]) ∧ Below wx.heap.size wx w') (w : World) :
    Calls Tryd.prog 21 #[.agg #[.bool on, .string oi, .string oj, .string oI, .int .i64 oV, .int .i64 oW, .string oG, .string oT, .int .i64 oX]] w fun e w' => e = .returned (.int .i64 40) ∧ Below w.heap.size w w' := by
  have DP := Lib.hid H1
  have DO := Lib.hid H2
  have DE : Hid (∀ wx : World, Calls Tryd.prog 17 #[.int .i64 oX] wx fun e w' => e = .returned (.bool true) ∧ wx = w') := fun wx => by
    have := isExp_any oX wx
    rw [decide_eq_true hx] at this
    exact this
  clear H1 H2 hx
  go_enter Tryd.func21, Tryd.ntmps21
  go_wp2_with fail
  obtain ⟨W2, hW2⟩ : ∃ W2, W2 = w.alloc (.cells #[.bool on, .string oi, .string oj, .string oI, .int .i64 oV, .int .i64 oW, .string oG, .string oT, .int .i64 oX] 30) := ⟨_, rfl⟩
  obtain ⟨hz2, CA, -⟩ := nine_box w (.bool on) (.string oi) (.string oj) (.string oI) (.int .i64 oV) (.int .i64 oW) (.string oG) (.string oT) (.int .i64 oX) 30
  have hb2 : Below w.heap.size w W2 := by rw [hW2]; exact (Below.refl _ w).alloc (Nat.le_refl _) _
  rw [← hW2] at hz2 CA ⊢
  clear hW2
  (with_reducible refine (DP.out _).mono ?_)
  rintro e W3 ⟨rfl, hb3⟩
  obtain ⟨W4, hW4⟩ : ∃ W4, W4 = W3.alloc (.cells #[.bool pn, .string pi, .string pf] 27) := ⟨_, rfl⟩
  have ba : Below W3.heap.size W3 W4 := by rw [hW4]; exact (Below.refl _ _).alloc (Nat.le_refl _) _
  have CA3 := CA.keep hb3 (by omega)
  have hz3 : w.heap.size + 1 ≤ W3.heap.size := by have := hb3.size; omega
  have CA4 := CA3.keep ba (by omega)
  have hz4 : W3.heap.size + 1 ≤ W4.heap.size := by rw [hW4]; simp
  have CX : Cells3 W4 W3.heap.size (.bool pn) (.string pi) (.string pf) := by rw [hW4]; exact (one_box _ _ _ _ _).2.1
  have B4 := Lib.hid ((hb2.trans (hb3.mono hb2.size)).trans (ba.mono (by have := hb3.size; have := hb2.size; omega)))
  have HW4 := Lib.hid hW4
  clear hW4 ba CA CA3 hb2 hb3 hz2
  obtain ⟨a0, a1, a2, a3, a4, a5, a6, a7, a8⟩ := CA4
  obtain ⟨c0, c1, c2⟩ := CX
  have HA : Hid (Cells9 W4 w.heap.size (.bool on) (.string oi) (.string oj) (.string oI) (.int .i64 oV) (.int .i64 oW) (.string oG) (.string oT) (.int .i64 oX)) := ⟨a0, a1, a2, a3, a4, a5, a6, a7, a8⟩
  have HX : Hid (Cells3 W4 W3.heap.size (.bool pn) (.string pi) (.string pf)) := ⟨c0, c1, c2⟩
  go_wp2_with fail
  rw [← HW4.out]
  go_region_held3 (fun w' => w'.cell? ⟨w.heap.size, 0, none⟩ = some (.bool on) ∧ w'.cell? ⟨w.heap.size, 1, none⟩ = some (.string oi) ∧ w'.cell? ⟨w.heap.size, 2, none⟩ = some (.string oj) ∧ w'.cell? ⟨w.heap.size, 3, none⟩ = some (.string oI) ∧ w'.cell? ⟨w.heap.size, 4, none⟩ = some (.int .i64 oV) ∧ w'.cell? ⟨w.heap.size, 5, none⟩ = some (.int .i64 oW) ∧ w'.cell? ⟨w.heap.size, 6, none⟩ = some (.string oG) ∧ w'.cell? ⟨w.heap.size, 7, none⟩ = some (.string oT) ∧ w'.cell? ⟨w.heap.size, 8, none⟩ = some (.int .i64 oX) ∧ w'.cell? ⟨W3.heap.size, 0, none⟩ = some (.bool pn) ∧ w'.cell? ⟨W3.heap.size, 1, none⟩ = some (.string pi) ∧ w'.cell? ⟨W3.heap.size, 2, none⟩ = some (.string pf))
    (first
      | (with_reducible exact ⟨a0, a1, a2, a3, a4, a5, a6, a7, a8, c0, c1, c2⟩)
      | (with_reducible exact ⟨(drew_cell _ _).trans a0, (drew_cell _ _).trans a1, (drew_cell _ _).trans a2, (drew_cell _ _).trans a3, (drew_cell _ _).trans a4, (drew_cell _ _).trans a5, (drew_cell _ _).trans a6, (drew_cell _ _).trans a7, (drew_cell _ _).trans a8, (drew_cell _ _).trans c0, (drew_cell _ _).trans c1, (drew_cell _ _).trans c2⟩)
      | (have t := HA.out.keep (undrew hbA) (by omega); have u := HX.out.keep (undrew hbA) (by omega); obtain ⟨t0, t1, t2, t3, t4, t5, t6, t7, t8⟩ := t; exact ⟨t0, t1, t2, t3, t4, t5, t6, t7, t8, u.1, u.2.1, u.2.2⟩))
    (first
      | (go_at_call 17; (with_reducible refine (DE.out _).mono ?_); rintro e wE ⟨rfl, rfl⟩)
      | (go_at_call 19; (with_reducible refine (DO.out _).mono ?_); rintro e wA ⟨rfl, hbA⟩))
  go_wp2
  go_ret
  exact ⟨rfl, B4.out.trans ((undrew hbA).mono B4.out.size)⟩

set_option maxHeartbeats 4000000 in
set_option maxRecDepth 100000 in
theorem ocheck_d7 (on : Bool) (oi oj oI : ByteArray) (oV oW : Int) (oG oT : ByteArray) (oX : Int) (pn : Bool) (pi pf s1 s2 s3 : ByteArray) (s4 s5 : Int) (s6 s7 : ByteArray) (hx : 0 ≤ oX ∧ oX ≤ 40) (q : (oT.toList == s7.toList) = false)
    (H1 : ∀ wx : World, Calls Tryd.prog 40 #[.agg #[.bool on, .string oi, .string oj], .int .i64 oV] wx fun e w' => e = .returned (.tuple #[.agg #[.bool pn, .string pi, .string pf], .int .i64 0]) ∧ Below wx.heap.size wx w')
    (H2 : ∀ wx : World, Calls Tryd.prog 19 #[.agg #[.bool pn, .string pi, .string pf], .int .i64 oX] wx fun e w' => e = .returned (.agg #[.bool false, .string s1, .string s2, .string s3, .int .i64 s4, .int .i64 s5, .string s6, .string s7, .int .i64 oX]) ∧ Below wx.heap.size wx w') (w : World) :
    Calls Tryd.prog 21 #[.agg #[.bool on, .string oi, .string oj, .string oI, .int .i64 oV, .int .i64 oW, .string oG, .string oT, .int .i64 oX]] w fun e w' => e = .returned (.int .i64 40) ∧ Below w.heap.size w w' := by
  have DP := Lib.hid H1
  have DO := Lib.hid H2
  have DE : Hid (∀ wx : World, Calls Tryd.prog 17 #[.int .i64 oX] wx fun e w' => e = .returned (.bool true) ∧ wx = w') := fun wx => by
    have := isExp_any oX wx
    rw [decide_eq_true hx] at this
    exact this
  clear H1 H2 hx
  go_enter Tryd.func21, Tryd.ntmps21
  go_wp2_with fail
  obtain ⟨W2, hW2⟩ : ∃ W2, W2 = w.alloc (.cells #[.bool on, .string oi, .string oj, .string oI, .int .i64 oV, .int .i64 oW, .string oG, .string oT, .int .i64 oX] 30) := ⟨_, rfl⟩
  obtain ⟨hz2, CA, -⟩ := nine_box w (.bool on) (.string oi) (.string oj) (.string oI) (.int .i64 oV) (.int .i64 oW) (.string oG) (.string oT) (.int .i64 oX) 30
  have hb2 : Below w.heap.size w W2 := by rw [hW2]; exact (Below.refl _ w).alloc (Nat.le_refl _) _
  rw [← hW2] at hz2 CA ⊢
  clear hW2
  (with_reducible refine (DP.out _).mono ?_)
  rintro e W3 ⟨rfl, hb3⟩
  obtain ⟨W4, hW4⟩ : ∃ W4, W4 = W3.alloc (.cells #[.bool pn, .string pi, .string pf] 27) := ⟨_, rfl⟩
  have ba : Below W3.heap.size W3 W4 := by rw [hW4]; exact (Below.refl _ _).alloc (Nat.le_refl _) _
  have CA3 := CA.keep hb3 (by omega)
  have hz3 : w.heap.size + 1 ≤ W3.heap.size := by have := hb3.size; omega
  have CA4 := CA3.keep ba (by omega)
  have hz4 : W3.heap.size + 1 ≤ W4.heap.size := by rw [hW4]; simp
  have CX : Cells3 W4 W3.heap.size (.bool pn) (.string pi) (.string pf) := by rw [hW4]; exact (one_box _ _ _ _ _).2.1
  have B4 := Lib.hid ((hb2.trans (hb3.mono hb2.size)).trans (ba.mono (by have := hb3.size; have := hb2.size; omega)))
  have HW4 := Lib.hid hW4
  clear hW4 ba CA CA3 hb2 hb3 hz2
  obtain ⟨a0, a1, a2, a3, a4, a5, a6, a7, a8⟩ := CA4
  obtain ⟨c0, c1, c2⟩ := CX
  have HA : Hid (Cells9 W4 w.heap.size (.bool on) (.string oi) (.string oj) (.string oI) (.int .i64 oV) (.int .i64 oW) (.string oG) (.string oT) (.int .i64 oX)) := ⟨a0, a1, a2, a3, a4, a5, a6, a7, a8⟩
  have HX : Hid (Cells3 W4 W3.heap.size (.bool pn) (.string pi) (.string pf)) := ⟨c0, c1, c2⟩
  go_wp2_with fail
  rw [← HW4.out]
  go_region_held3 (fun w' => w'.cell? ⟨w.heap.size, 0, none⟩ = some (.bool on) ∧ w'.cell? ⟨w.heap.size, 1, none⟩ = some (.string oi) ∧ w'.cell? ⟨w.heap.size, 2, none⟩ = some (.string oj) ∧ w'.cell? ⟨w.heap.size, 3, none⟩ = some (.string oI) ∧ w'.cell? ⟨w.heap.size, 4, none⟩ = some (.int .i64 oV) ∧ w'.cell? ⟨w.heap.size, 5, none⟩ = some (.int .i64 oW) ∧ w'.cell? ⟨w.heap.size, 6, none⟩ = some (.string oG) ∧ w'.cell? ⟨w.heap.size, 7, none⟩ = some (.string oT) ∧ w'.cell? ⟨w.heap.size, 8, none⟩ = some (.int .i64 oX) ∧ w'.cell? ⟨W3.heap.size, 0, none⟩ = some (.bool pn) ∧ w'.cell? ⟨W3.heap.size, 1, none⟩ = some (.string pi) ∧ w'.cell? ⟨W3.heap.size, 2, none⟩ = some (.string pf))
    (first
      | (with_reducible exact ⟨a0, a1, a2, a3, a4, a5, a6, a7, a8, c0, c1, c2⟩)
      | (with_reducible exact ⟨(drew_cell _ _).trans a0, (drew_cell _ _).trans a1, (drew_cell _ _).trans a2, (drew_cell _ _).trans a3, (drew_cell _ _).trans a4, (drew_cell _ _).trans a5, (drew_cell _ _).trans a6, (drew_cell _ _).trans a7, (drew_cell _ _).trans a8, (drew_cell _ _).trans c0, (drew_cell _ _).trans c1, (drew_cell _ _).trans c2⟩)
      | (have t := HA.out.keep (undrew hbA) (by omega); have u := HX.out.keep (undrew hbA) (by omega); obtain ⟨t0, t1, t2, t3, t4, t5, t6, t7, t8⟩ := t; exact ⟨t0, t1, t2, t3, t4, t5, t6, t7, t8, u.1, u.2.1, u.2.2⟩))
    (first
      | (go_at_call 17; (with_reducible refine (DE.out _).mono ?_); rintro e wE ⟨rfl, rfl⟩)
      | (go_at_call 19; (with_reducible refine (DO.out _).mono ?_); rintro e wA ⟨rfl, hbA⟩))
  go_wp2
  go_ret
  exact ⟨rfl, B4.out.trans ((undrew hbA).mono B4.out.size)⟩
end
end Go.Proofs.YtmggdnnffdaffaaDoor
