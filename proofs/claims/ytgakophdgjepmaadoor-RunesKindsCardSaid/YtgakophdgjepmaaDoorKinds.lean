/- RunesKinds: both sides tell the same of every number. -/
import Derived.Test.YtgakophdgjepmaaDoorAwake
namespace Go.Proofs.YtgakophdgjepmaaDoor
open Go.RowKit

set_option maxHeartbeats 1000000 in
set_option maxRecDepth 100000 in
theorem kinds_walk (r : Int) (w : World) (hT : TabW w) :
    Calls Tryd.prog 4 #[.int .i32 r] w fun e w' => e = .returned (.bool true) ∧ Below w.heap.size w w' := by
  have HT := Lib.hid hT
  clear hT
  have q1 : (spB r == spB r) = true := beq_self_eq_true _
  have q2 : (synB r == synB r) = true := beq_self_eq_true _
  go_enter Tryd.func4, Tryd.ntmps4
  go_wp2_with (first | (go_at_call 17; refine (space_any _ _).mono ?_; rintro e w' ⟨rfl, rfl⟩) | (go_at_call 18; refine (refSpace_any _ _).mono ?_; rintro e w' ⟨rfl, rfl⟩) | (go_at_call 19; refine (syntax_any _ _ HT.out).mono ?_))
  rintro e W1 ⟨rfl, b1⟩
  have hT1 := Lib.hid (HT.out.below b1 (Nat.le_refl _))
  have hs1 := b1.size
  go_wp2_with (first | (go_at_call 20; refine (refSyntax_any _ _).mono ?_))
  rintro e W2 ⟨rfl, b2⟩
  have hT2 := Lib.hid (hT1.out.below b2 (Nat.le_refl _))
  have hs2 := b2.size
  go_wp2_with (first | (go_at_call 16; refine (awake_any _ hT2.out).mono ?_))
  rintro e W3 ⟨rfl, b3⟩
  go_wp2
  go_ret
  exact ⟨rfl, b1.trans ((b2.mono hs1).trans (b3.mono (Nat.le_trans hs1 hs2)))⟩
end Go.Proofs.YtgakophdgjepmaaDoor
