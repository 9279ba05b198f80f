/- The bound of the second form, for one string. -/
import Derived.Test.YtgakophdgjepmaaDoorRows
namespace Go.Proofs.YtgakophdgjepmaaDoor
theorem small_string {H : Type} {s : ByteArray} (hk : Rows.uptoSmall H [.lit (.string s.data.toList)] = true) : s.size ≤ 1048576 := by
  have h : Rows.uptoBulkAll [DataW.lit (H := H) (.string s.data.toList)] ≤ 1048576 := of_decide_eq_true hk
  simp only [Rows.uptoBulkAll, Rows.uptoBulk] at h
  have e : s.data.toList.length = s.size := by simp
  omega
end Go.Proofs.YtgakophdgjepmaaDoor
