/- The reference's asked and Places of layer 3, way by way. -/
import Derived.Test.YtpbljcjghjbjdaaDoorRoChk
import Derived.Test.YtpbljcjghjbjdaaDoorDRef1
import Derived.Test.YtpbljcjghjbjdaaDoorRrMade
import Derived.Test.YtpbljcjghjbjdaaDoorRrTurn
import Derived.Deep.DeepCutAuto
namespace Go.Proofs.YtpbljcjghjbjdaaDoor
open Go.RowKit
attribute [local go_sem ↓] Go.wp_at_zero Go.wp_at_succ

end Go.Proofs.YtpbljcjghjbjdaaDoor
