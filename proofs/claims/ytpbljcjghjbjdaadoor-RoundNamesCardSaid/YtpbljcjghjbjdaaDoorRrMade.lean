/- The reference's Made of layer 3. -/
import Derived.Test.YtpbljcjghjbjdaaDoorRrAway
namespace Go.Proofs.YtpbljcjghjbjdaaDoor
open Go.RowKit
attribute [local go_sem ↓] Go.wp_at_zero Go.wp_at_succ

end Go.Proofs.YtpbljcjghjbjdaaDoor
