/- RunesUnescapes: the two Unescapes tell the same. -/
import Derived.Test.YtgakophdgjepmaaDoorRefUnesc
namespace Go.Proofs.YtgakophdgjepmaaDoor
open Go.RowKit

/-- Unescape's three answers. -/
def unS (s : ByteArray) : ByteArray := ⟨(unescR s).1.toArray⟩
def unP (s : ByteArray) : Int := (unescR s).2.1
def unE (s : ByteArray) : Int := (unescR s).2.2
theorem unescape_three (s : ByteArray) (w : World) (hs : s.size ≤ maxLen) :
    Calls Tryd.prog 27 #[.string s] w fun e w' => e = .returned (.tuple #[.string (unS s), .int .i64 (unP s), .int .i64 (unE s)]) ∧ Below w.heap.size w w' := unescape_any s w hs
theorem refUnescape_three (s : ByteArray) (w : World) (hs : s.size ≤ maxLen) :
    Calls Tryd.prog 28 #[.string s] w fun e w' => e = .returned (.tuple #[.string (unS s), .int .i64 (unP s), .int .i64 (unE s)]) ∧ Below w.heap.size w w' := refUnescape_any s w hs

set_option maxHeartbeats 1000000 in
set_option maxRecDepth 100000 in
theorem unescapes_walk (s : ByteArray) (w : World) (hs : s.size ≤ maxLen) (hT : TabW w) :
    Calls Tryd.prog 8 #[.string s] w fun e w' => e = .returned (.bool true) ∧ Below w.heap.size w w' := by
  have HT := Lib.hid hT
  have HM := Lib.hid hs
  clear hT hs
  have q0 : ((unS s).toList == (unS s).toList) = true := beq_self_eq_true _
  have q1 : (unP s == unP s) = true := beq_self_eq_true _
  have q2 : (unE s == unE s) = true := beq_self_eq_true _
  go_enter Tryd.func8, Tryd.ntmps8
  go_wp2_with (go_at_call 27; refine (unescape_three s _ HM.out).mono ?_)
  rintro e W1 ⟨rfl, b1⟩
  have HT1 := Lib.hid (HT.out.below b1 (Nat.le_refl _))
  have hs1 := b1.size
  go_wp2_with (go_at_call 28; refine (refUnescape_three s _ HM.out).mono ?_)
  rintro e W2 ⟨rfl, b2⟩
  have HT2 := Lib.hid (HT1.out.below b2 (Nat.le_refl _))
  have hs2 := b2.size
  go_wp2_with (go_at_call 16; refine (awake_any _ HT2.out).mono ?_)
  rintro e W3 ⟨rfl, b3⟩
  go_wp2
  go_ret
  exact ⟨rfl, b1.trans ((b2.mono (by omega)).trans (b3.mono (by omega)))⟩
end Go.Proofs.YtgakophdgjepmaaDoor
