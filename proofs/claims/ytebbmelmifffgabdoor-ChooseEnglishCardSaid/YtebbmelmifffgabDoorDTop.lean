/- Add and Sub of the program. -/
import Derived.Test.YtebbmelmifffgabDoorDSum
namespace Go.Proofs.YtebbmelmifffgabDoor
open Go.RowKit


end Go.Proofs.YtebbmelmifffgabDoor
