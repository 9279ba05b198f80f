/- The reference's at and turned. -/
import Derived.Test.YtpbljcjghjbjdaaDRef2
import Derived.Test.YtpbljcjghjbjdaaRow
import Derived.IntWalk
namespace Go.Proofs.Ytpbljcjghjbjdaa
open Go.RowKit

theorem rAt_rev {l : List Nat} {i p : Nat} (h : p + 1 + i = l.length) : rAt l.reverse i = l.getD p 0 := by
  unfold rAt
  rw [List.getD_eq_getElem?_getD, List.getD_eq_getElem?_getD, List.getElem?_reverse (by omega)]
  congr 2
  omega
theorem rAt_off {l : List Nat} {i : Nat} (h : l.length ≤ i) : rAt l.reverse i = 0 := by
  unfold rAt
  rw [List.getD_eq_getElem?_getD, List.getElem?_eq_none (by simpa using h)]
  rfl

/-- What a row of bytes holds, cell by cell. -/
theorem Row.open_ {B : Nat} {v : Value} {l : List UInt8} {w : World} (h : Row B v l w) (h1 : 1 ≤ l.length) :
    ∃ g cap, v = .slice (some ⟨g, 0, none⟩) l.length cap ∧ B ≤ g ∧ g < w.heap.size ∧ ∀ j b, l[j]? = some b → w.cell? ⟨g, j, none⟩ = some (.int .u8 (b.toNat : Int)) := by
  rcases h.2 with ⟨rfl, h0⟩ | ⟨g, cap, cur, rfl, hB, hg, hn, hm, hsz, htake⟩
  · omega
  · refine ⟨g, cap, rfl, hB, (Array.getElem?_eq_some_iff.1 hg).1, fun j b hj => ?_⟩
    rw [cell_of_row w g j _ _ _ hg, ← Array.getElem?_toList]
    have hjl := (List.getElem?_eq_some_iff.1 hj).1
    have e : cur.toList[j]? = (Lib.byteCells l)[j]? := by
      rw [← htake, List.getElem?_take, if_pos (by omega)]
    rw [e]
    unfold Lib.byteCells
    rw [List.getElem?_map, hj]
    simp
theorem dB_get {l : List Nat} (h : Digs l) {j : Nat} (hj : j < l.length) : ∃ b, (dB l)[j]? = some b ∧ b.toNat = 48 + l.getD j 0 := by
  unfold dB
  rw [List.getElem?_map, List.getElem?_eq_getElem hj, List.getD_eq_getElem?_getD, List.getElem?_eq_getElem hj]
  refine ⟨_, rfl, ?_⟩
  have := h _ (List.getElem_mem hj)
  simp
  omega

end Go.Proofs.Ytpbljcjghjbjdaa
