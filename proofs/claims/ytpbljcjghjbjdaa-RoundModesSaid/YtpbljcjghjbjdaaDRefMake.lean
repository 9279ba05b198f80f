/- Make of the reference. -/
import Derived.Test.YtpbljcjghjbjdaaDRef2
namespace Go.Proofs.Ytpbljcjghjbjdaa
open Go.RowKit
attribute [local go_sem ↓] Go.wp_at_zero Go.wp_at_succ

theorem zero_digs {N : Nat} : dStr (digs N) = dStr [0] ↔ N = 0 := by
  constructor
  · intro h
    have := dStr_inj (digs_digs N) (by intro x hx; simp at hx; omega) h
    have h2 := dVal_digs N
    rw [this] at h2
    exact h2.symm
  · rintro rfl
    unfold digs
    rw [digsR_small (by omega)]
    rfl
end Go.Proofs.Ytpbljcjghjbjdaa
