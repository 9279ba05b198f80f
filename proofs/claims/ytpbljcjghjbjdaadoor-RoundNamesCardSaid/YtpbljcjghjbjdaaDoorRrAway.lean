/- The reference's away of layer 3. -/
import Derived.Test.YtpbljcjghjbjdaaDoorRrAdd
import Derived.Test.YtpbljcjghjbjdaaDoorRoM
namespace Go.Proofs.YtpbljcjghjbjdaaDoor
open Go.RowKit
attribute [local go_sem ↓] Go.wp_at_zero Go.wp_at_succ

theorem zero_text (R : Nat) : ((dStr (digs R)).toList == [48]) = decide (R = 0) := by
  have e : (⟨#[48]⟩ : ByteArray).toList = [48] := by rw [Lib.toList_data]
  by_cases h : R = 0
  · rw [h, ← txt0, e]; rfl
  · have := nat_str (a := R) (b := 0) h
    rw [← txt0, e] at this
    rw [this, decide_eq_false h]
theorem last_digit (Q p : Nat) (hp : p + 1 = (digs Q).length) : (digs Q).getD p 0 = Q % 10 := by
  have h1 : digs Q = (digs Q).take p ++ [(digs Q).getD p 0] := by
    rw [← take_at (digs Q) p (by omega), List.take_of_length_le (by omega)]
  have h2 := dVal_digs Q
  have h3 := getD_digs (digs_digs Q) p
  rw [h1, dVal_snoc] at h2
  omega

end Go.Proofs.YtpbljcjghjbjdaaDoor
