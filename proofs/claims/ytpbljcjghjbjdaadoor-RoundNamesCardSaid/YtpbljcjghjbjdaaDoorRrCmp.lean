/- The reference's Lead, Noughts and cmp of layer 3. -/
import Derived.Test.YtpbljcjghjbjdaaDoorDRefOver
import Derived.Test.YtpbljcjghjbjdaaDoorRoM
namespace Go.Proofs.YtpbljcjghjbjdaaDoor
open Go.RowKit

theorem noughtB : Lib.byteCells [(48 : UInt8)] = [.int .u8 48] := rfl
end Go.Proofs.YtpbljcjghjbjdaaDoor
