/- told, and boxes that are written to. -/
import Derived.Test.YtmaljkjcibdbgaaDFine
import Derived.Test.YtmaljkjcibdbgaaDSum
namespace Go.Proofs.Ytmaljkjcibdbgaa
open Go.RowKit

set_option maxHeartbeats 1000000 in
set_option maxRecDepth 100000 in
theorem told_same (xn : Bool) (xi xf : ByteArray) (c : Int) (w : World) :
    Calls Try.prog 20 #[(.agg #[.bool xn, .string xi, .string xf]), .int .i64 c, (.agg #[.bool xn, .string xi, .string xf]), .int .i64 c] w fun e w' => e = .returned (.bool true) ∧ Below w.heap.size w w' := by
  have q1 : (xn == xn) = true := beq_self_eq_true _
  have q2 : (xi.toList == xi.toList) = true := beq_self_eq_true _
  have q3 : (xf.toList == xf.toList) = true := beq_self_eq_true _
  have q4 : (c == c) = true := beq_self_eq_true _
  go_enter Try.func20, Try.ntmps20
  go_wp2
  go_ret
  exact ⟨rfl, below_two w _ _⟩

theorem set_box {W : World} {b : Nat} {x0 x1 x2 : Value} (h : Cells3 W b x0 x1 x2) (y0 y1 y2 : Value) : Cells3 (((W.setCell ⟨b, 0, none⟩ y0).setCell ⟨b, 1, none⟩ y1).setCell ⟨b, 2, none⟩ y2) b y0 y1 y2 :=
  ⟨cell_set_far _ _ _ _ _ _ (by decide) (cell_set_far _ _ _ _ _ _ (by decide) (cell_set_same _ _ _ _ h.1)), cell_set_far _ _ _ _ _ _ (by decide) (cell_set_same _ _ _ _ (cell_set_far _ _ _ _ _ _ (by decide) h.2.1)), cell_set_same _ _ _ _ (cell_set_far _ _ _ _ _ _ (by decide) (cell_set_far _ _ _ _ _ _ (by decide) h.2.2))⟩
theorem far_box {W : World} {b c : Nat} {x0 x1 x2 : Value} (h : Cells3 W b x0 x1 x2) (hne : b ≠ c) (y0 y1 y2 : Value) : Cells3 (((W.setCell ⟨c, 0, none⟩ y0).setCell ⟨c, 1, none⟩ y1).setCell ⟨c, 2, none⟩ y2) b x0 x1 x2 :=
  ⟨(far3 _ _ _ _ _ _ _ hne).trans h.1, (far3 _ _ _ _ _ _ _ hne).trans h.2.1, (far3 _ _ _ _ _ _ _ hne).trans h.2.2⟩

end Go.Proofs.Ytmaljkjcibdbgaa
