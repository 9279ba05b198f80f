/- Print of the program. -/
import Derived.Test.YtmggdnnffdaffaaDoorDTop
import Derived.Test.YtmggdnnffdaffaaDoorRow
namespace Go.Proofs.YtmggdnnffdaffaaDoor
open Go.RowKit

/-- The text of a decimal. -/
def txS (d : Dc) : ByteArray := ⟨(txt d.rw).toArray⟩
theorem Row.nil (B : Nat) (w : World) : Row B (.slice none 0 0) [] w := ⟨rfl, .inl ⟨rfl, rfl⟩⟩

end Go.Proofs.YtmggdnnffdaffaaDoor
