/- The reference's turned of layer 3. -/
import Derived.Test.YtpbljcjghjbjdaaDoorRrAway
import Derived.Test.YtpbljcjghjbjdaaDoorRrQuo
namespace Go.Proofs.YtpbljcjghjbjdaaDoor
open Go.RowKit
attribute [local go_sem ↓] Go.wp_at_zero Go.wp_at_succ

theorem one_text : (⟨#[49]⟩ : ByteArray) = dStr [1] := rfl
end Go.Proofs.YtpbljcjghjbjdaaDoor
