/- The reference's quo of layer 3. -/
import Derived.Test.YtpbljcjghjbjdaaDoorRrSub
namespace Go.Proofs.YtpbljcjghjbjdaaDoor
open Go.RowKit
attribute [local go_sem ↓] Go.wp_at_zero Go.wp_at_succ

theorem row_below {B : Nat} {v : Value} {l : List UInt8} {w w' : World} (h : Row B v l w) (hb : Below w.heap.size w w') : Row B v l w' := by
  rcases h.2 with ⟨rfl, h0⟩ | ⟨g, cap, cur, rfl, hBg, hg, hn, hm, hsz, htake⟩
  · exact ⟨h.1, .inl ⟨rfl, h0⟩⟩
  · exact ⟨h.1, .inr ⟨g, cap, cur, rfl, hBg, (hb.block g (Array.getElem?_eq_some_iff.1 hg).1).trans hg, hn, hm, hsz, htake⟩⟩

end Go.Proofs.YtpbljcjghjbjdaaDoor
