/- What DecimalWhole's row gives: the table of powers; and a world for the witness. -/
import Derived.Test.YtpbljcjghjbjdaaDoorCards
import Derived.Test.YtpbljcjghjbjdaaDoorTie
import Derived.Test.YtpbljcjghjbjdaaDoorWhR
import Derived.ProofKit
import Derived.OpenShut
import Derived.LaidLaws
import Derived.Deep.DeepHandedRow
import Derived.Lib.LaidTab
namespace Go.Proofs.YtpbljcjghjbjdaaDoor
open Go.ChangeShapes Go.WideShapes Go.ChangeAt Go.RowKit

theorem pow_data {H : Type} : (Rows.laid_internal_strconv_uint64pow10 : DataW H) = Lib.tabData .u64 Lib.pow10Tab := by kernel_rfl
theorem tab10W (W : World) (h : laidMetH Tryd.prog Rows.decimalWholeRow.laid W) : Tab10 W := by
  obtain ⟨ps, ⟨_, _, _, _, _, _, _, _, _, _, ⟨_, _, _, _, _, _, _, _, _, _, ⟨g', t', cs, fuel, p, q, hg', ht', hvar, hd, _⟩, _⟩, _⟩, _⟩ := h
  obtain rfl := Option.some.inj ((show Tryd.prog.globalNamed "internal/strconv.uint64pow10" = some 4 by kernel_rfl).symm.trans hg')
  obtain rfl := Option.some.inj ((show (Tryd.prog.globals[4]?).map (·.type) = some 179 by kernel_rfl).symm.trans ht')
  rw [pow_data] at hd
  unfold Tab10 Lib.TabIs
  rw [hvar, ← Lib.cells_of_tab Tryd.underlying179 Tryd.underlying67 (by kernel_rfl) (by kernel_rfl) hd]
theorem ownW : ownKnob Tryd.prog.godebug = none := by kernel_rfl
def dataCells (d : DataW Unit) : Array Value := match d with
  | .agg l => (l.map fun x => match x with | .lit (.int k z) => Value.int k z | .lit (.string s) => .string ⟨s.toArray⟩ | _ => .bool false).toArray
  | _ => #[]
noncomputable def lowW : Nat := (World.holding Tryd.prog default ⟨#[], #[], []⟩).heap.size
def putObj (cs : Array Value) : Obj → Obj
  | .cells _ t frozen => .cells cs t frozen
  | o => o
/-- A world for the witness: the settled one, the tables and the two errors as their initialisers lay them. -/
noncomputable def wholeWorld (os : Os) : World :=
  let w0 := World.holding Tryd.prog os ⟨#[.cells #[.string ⟨#[118, 97, 108, 117, 101, 32, 111, 117, 116, 32, 111, 102, 32, 114, 97, 110, 103, 101]⟩] 194, .cells #[.string ⟨#[105, 110, 118, 97, 108, 105, 100, 32, 115, 121, 110, 116, 97, 120]⟩] 194], #[], []⟩
  { w0 with heap := ((((w0.heap.modify 5 (putObj (dataCells Rows.laid_math_bits_deBruijn32tab))).modify 6 (putObj (dataCells Rows.laid_math_bits_deBruijn64tab))).modify 4 (putObj (dataCells Rows.laid_internal_strconv_uint64pow10))).modify 3 (putObj #[.iface 192 (.pointer (some ⟨lowW, 0, none⟩))])).modify 2 (putObj #[.iface 192 (.pointer (some ⟨lowW + 1, 0, none⟩))]) }
end Go.Proofs.YtpbljcjghjbjdaaDoor
