/- The reference's Minus. -/
import Derived.Test.YtpbljcjghjbjdaaDRefAt
import Derived.Test.YtpbljcjghjbjdaaDPrint
namespace Go.Proofs.Ytpbljcjghjbjdaa
open Go.RowKit
attribute [local go_sem ↓] Go.wp_at_zero Go.wp_at_succ

theorem byte_of {d : Nat} (h : d < 10) : Lib.byteCells [(48 + d).toUInt8] = [.int .u8 ((48 + d : Nat) : Int)] := by
  unfold Lib.byteCells
  simp
  omega
theorem dB_snoc (l : List Nat) (d : Nat) : dB (l ++ [d]) = dB l ++ [(48 + d).toUInt8] := by rw [dB_append]; rfl
theorem rev_rval (x : Nat) : rVal (digs x).reverse = x := by have := dVal_digs x; unfold dVal at this; exact this

end Go.Proofs.Ytpbljcjghjbjdaa
