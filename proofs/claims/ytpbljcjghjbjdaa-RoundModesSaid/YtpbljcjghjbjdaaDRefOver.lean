/- The reference's Over. -/
import Derived.Test.YtpbljcjghjbjdaaDRefMinus
import Derived.Test.YtpbljcjghjbjdaaDRefCmp
namespace Go.Proofs.Ytpbljcjghjbjdaa
open Go.RowKit
attribute [local go_sem ↓] Go.wp_at_zero Go.wp_at_succ

theorem fresh_string (w : World) (l : List UInt8) (cs : Array Value) (n : Nat) (hcs : cs = (Lib.byteCells l).toArray) (hn : n = l.length) (hm : n ≤ maxLen) :
    (convert 70 9 (.slice (some ⟨w.heap.size, 0, none⟩) n n)).run Try.prog (w.alloc (.cells cs 5)) = .ok (.string ⟨l.toArray⟩) (w.alloc (.cells cs 5)) := by
  refine row_string (B := w.heap.size) ?_
  unfold Row
  have h := World.ownsRow_lit (base := w.heap.size) (e := 5) (size := 1) w cs n (Nat.le_refl _) hm (by rw [hcs, hn]; simp [Lib.byteCells])
  rw [← hn]
  have e : cs.toList = Lib.byteCells l := by rw [hcs]
  rw [← e]
  exact h
/-- A text of one digit that was just made. -/
theorem digit_string (w : World) (c : Nat) (hc : c < 10) (T : ByteArray) (hT : T = dStr [c]) :
    (convert 70 9 (.slice (some ⟨w.heap.size, 0, none⟩) 1 1)).run Try.prog (w.alloc (.cells #[.int .u8 (48 + (c : Int))] 5)) = .ok (.string T) (w.alloc (.cells #[.int .u8 (48 + (c : Int))] 5)) := by
  have := fresh_string w [(48 + c).toUInt8] #[.int .u8 (48 + (c : Int))] 1 (by rw [byte_of hc]; simp) rfl (by decide)
  rw [this, hT]
  rfl
theorem txt0 : (⟨#[48]⟩ : ByteArray) = dStr (digs 0) := by unfold digs; rw [digsR_small (by omega)]; rfl
theorem one_of {l : List Nat} {k : Nat} (h : k < l.length) : (l.take (k + 1)).drop k = [l.getD k 0] := by
  rw [take_at l k h, List.drop_append_of_le_length (by rw [List.length_take]; omega), List.drop_eq_nil_of_le (by rw [List.length_take]; omega)]
  rfl

end Go.Proofs.Ytpbljcjghjbjdaa
