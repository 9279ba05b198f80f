/- The reference's divided, Div, Rem. -/
import Derived.Test.YtpbljcjghjbjdaaDRefOver
import Derived.Test.YtpbljcjghjbjdaaDRefRaised
import Derived.Test.YtpbljcjghjbjdaaDRefMake
import Derived.Test.YtpbljcjghjbjdaaDRef1
import Derived.Test.YtpbljcjghjbjdaaDDiv
namespace Go.Proofs.Ytpbljcjghjbjdaa
open Go.RowKit

theorem first_fresh (c1 c2 e : Int) (h : firstE c1 c2 = e) (g : Nat) (wx : World) (hg : g = wx.heap.size) : Calls Try.prog 21 #[.slice (some ⟨g, 0, none⟩) 2 2] (wx.alloc (.cells #[.int .i64 c1, .int .i64 c2] 25)) fun r w' => r = .returned (.int .i64 e) ∧ Below wx.heap.size wx w' := by
  subst hg
  refine (refFirst_two c1 c2 wx.heap.size _ _ _ (heap_alloc_new wx _)).mono ?_
  rintro r w' ⟨rfl, rfl⟩
  exact ⟨by rw [h], (Below.refl _ _).alloc (Nat.le_refl _) _⟩

end Go.Proofs.Ytpbljcjghjbjdaa
