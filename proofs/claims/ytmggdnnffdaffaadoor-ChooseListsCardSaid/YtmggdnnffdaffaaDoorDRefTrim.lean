/- Trim of the reference. -/
import Derived.Test.YtmggdnnffdaffaaDoorDRef1
import Derived.Test.YtmggdnnffdaffaaDoorDMoves
namespace Go.Proofs.YtmggdnnffdaffaaDoor
open Go.RowKit
attribute [local go_sem ↓] Go.wp_at_zero Go.wp_at_succ

def cellSize (wr : World) (p : Addr) : Nat := match wr.cell? p with | some (.string s) => s.size | _ => 0
end Go.Proofs.YtmggdnnffdaffaaDoor
