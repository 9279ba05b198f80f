/- The reference's Check, Text and Print. -/
import Derived.Test.YtmggdnnffdaffaaDoorDPrint
namespace Go.Proofs.YtmggdnnffdaffaaDoor
open Go.RowKit

theorem ck_20 {n : Bool} {i f : ByteArray} (h : okB n i f = false) : (20 : Int) = ckE n i f := (ck_bad h).symm
theorem ok_size {n : Bool} {i f : ByteArray} (h : i.size = 0 ∨ 40 < i.size + f.size) : okB n i f = false := by
  unfold okB formB
  rcases h with h | h
  · rw [decide_eq_false (p := i.size ≠ 0) (by omega)]; simp
  · rw [decide_eq_false (p := i.size + f.size ≤ 40) (by omega)]; rfl

end Go.Proofs.YtmggdnnffdaffaaDoor
