/- A world for OperandValues' and OperandShown's witnesses: the settled one, the library's tables as their initialisers lay them. -/
import Derived.Test.YtpbljcjghjbjdaaDoorCards
import Derived.Test.YtpbljcjghjbjdaaDoorTie
import Derived.ProofKit
import Derived.LaidLaws
import Derived.Deep.DeepHandedRow
namespace Go.Proofs.YtpbljcjghjbjdaaDoor
open Go.ChangeShapes Go.WideShapes Go.ChangeAt Go.RowKit

theorem ownV : ownKnob Tryd.prog.godebug = none := by kernel_rfl
theorem laidOutV : laidOutB Tryd.prog = true := by kernel_rfl
def tabCellsV (d : DataW Unit) : Array Value := match d with
  | .agg l => (l.map fun x => match x with | .lit (.int k z) => Value.int k z | _ => .bool false).toArray
  | _ => #[]
def putObjV (cs : Array Value) : Obj → Obj
  | .cells _ t frozen => .cells cs t frozen
  | o => o
noncomputable def valuesWorld (os : Os) : World :=
  let w0 := World.holding Tryd.prog os ⟨#[], #[], []⟩
  { w0 with heap := ((w0.heap.modify 5 (putObjV (tabCellsV Rows.laid_math_bits_deBruijn32tab))).modify 6 (putObjV (tabCellsV Rows.laid_math_bits_deBruijn64tab))).modify 4 (putObjV (tabCellsV Rows.laid_internal_strconv_uint64pow10)) }
end Go.Proofs.YtpbljcjghjbjdaaDoor
