/- RunesIdents: both sides tell the same of every text as a name. -/
import Derived.Test.YtgakophdgjepmaaDoorRefName
import Derived.Test.YtgakophdgjepmaaDoorAwake
namespace Go.Proofs.YtgakophdgjepmaaDoor
open Go.RowKit

set_option maxHeartbeats 1000000 in
set_option maxRecDepth 100000 in
theorem idents_walk (s : ByteArray) (w : World) (hs : s.size ≤ maxLen) (hT : TabW w) :
    Calls Tryd.prog 5 #[.string s] w fun e w' => e = .returned (.bool true) ∧ Below w.heap.size w w' := by
  have HT := Lib.hid hT
  clear hT
  have q1 : (identZ s == identZ s) = true := beq_self_eq_true _
  go_enter Tryd.func5, Tryd.ntmps5
  go_wp2_with (go_at_call 21; refine (ident_any _ _ HT.out).mono ?_)
  rintro e W1 ⟨rfl, b1⟩
  have hT1 := Lib.hid (HT.out.below b1 (Nat.le_refl _))
  have hs1 := b1.size
  go_wp2_with (go_at_call 22; refine (refIdent_any _ _ hs).mono ?_)
  rintro e W2 ⟨rfl, b2⟩
  have hT2 := Lib.hid (hT1.out.below b2 (Nat.le_refl _))
  have hs2 := b2.size
  go_wp2_with (go_at_call 16; refine (awake_any _ hT2.out).mono ?_)
  rintro e W3 ⟨rfl, b3⟩
  go_wp2
  go_ret
  exact ⟨rfl, b1.trans ((b2.mono hs1).trans (b3.mono (Nat.le_trans hs1 hs2)))⟩
end Go.Proofs.YtgakophdgjepmaaDoor
