/- Add and Sub of the program. -/
import Derived.Test.YtmggdnnffdaffaaDoorDSum
namespace Go.Proofs.YtmggdnnffdaffaaDoor
open Go.RowKit


end Go.Proofs.YtmggdnnffdaffaaDoor
