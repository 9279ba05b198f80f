/- Rows of ranges as an argument: what is read of them. -/
import Derived.Test.YtebbmelmifffgaaDoorRnA
import Derived.Test.YtebbmelmifffgaaDoorSliceArg
namespace Go.Proofs.YtebbmelmifffgaaDoor
open Go.ChangeShapes Go.WideShapes Go.ChangeAt Go.RowKit Go.Joins

theorem row_cells3 : Tryd.prog.cellsOf 88 = 3 := by kernel_rfl
theorem int_cells1 : Tryd.prog.cellsOf 3 = 1 := by kernel_rfl
theorem row_bytes3 : Tryd.prog.bytesOf 88 = 24 := by kernel_rfl
section
variable {H : Type} {enc : TypeId × Value → H} {w : World} {spare : Nat → Bool} {held : Bool}
set_option maxRecDepth 100000 in
theorem row_read {n : Nat} {cs : List Value} {y : DataW H × List MemPlace} (h : DataW.trod enc Tryd.prog w 0 spare held n 88 cs = some y) :
    ∃ a b c : Int, cs = [.int .i64 a, .int .i64 b, .int .i64 c] := by
  obtain ⟨xs, m, _, hx, hl, hlen, hi⟩ := DataW.trod_struct Tryd.underlying88 h
  rw [row_cells3] at hl
  match xs, hlen, cs, hl with
  | [y0, y1, y2], _, [c0, c1, c2], _ =>
    have i0 := hi 0 _ rfl
    have i1 := hi 1 _ rfl
    have i2 := hi 2 _ rfl
    simp [int_cells1] at i0 i1 i2
    obtain ⟨a, ha, -, -⟩ := DataW.trod_int Tryd.underlying3 i0
    obtain ⟨b, hb, -, -⟩ := DataW.trod_int Tryd.underlying3 i1
    obtain ⟨c, hc, -, -⟩ := DataW.trod_int Tryd.underlying3 i2
    simp only [List.cons.injEq, and_true] at ha hb hc
    exact ⟨a, b, c, by rw [ha, hb, hc]⟩
set_option maxRecDepth 100000 in
theorem rows_read {b0 : Nat} {v : Value} {d : DataW H} {q : List MemPlace} (hv : Value.okWide Tryd.prog w .any b0 48 v) (h : DataW.Trod enc Tryd.prog w 0 spare held 48 v d q) (hlt : ∀ x ∈ q, x.block < w.heap.size)
    (hw : ∀ n ∈ d.weights Tryd.prog 48, n ≤ reachBytes) :
    ∃ ad n cap l, v = .slice ad n cap ∧ RowsG w ad n l := by
  obtain ⟨a0, len, cap0, rfl⟩ := okWide_slice Tryd.underlying48 hv
  obtain ⟨fuel, hf⟩ := h
  obtain ⟨ad, n, cap, hc, -, hby, hE⟩ := slice_open Tryd.underlying48 row_cells3 (by decide) (c := .slice a0 len cap0) hf hlt hw
  rw [row_bytes3] at hby
  have hr := reachBytes_lt
  rcases hE with h0 | ⟨g, off, rfl, hg, hE⟩
  · exact ⟨ad, n, cap, [], hc, by rw [h0]; rfl, by omega, fun h => absurd h0 h⟩
  · have : ∀ k, ∃ x : Rw3, k < n → w.cell? ⟨g, off + k * 3, none⟩ = some (.int .i64 x.f) ∧ w.cell? ⟨g, off + k * 3 + 1, none⟩ = some (.int .i64 x.t) ∧ w.cell? ⟨g, off + k * 3 + 2, none⟩ = some (.int .i64 x.c) := fun k => by
      by_cases hk : k < n
      · obtain ⟨cs, y, m, -, hcs, hy, -, -⟩ := hE k hk
        obtain ⟨a, b, c, rfl⟩ := row_read hy
        exact ⟨⟨a, b, c⟩, fun _ => ⟨hcs 0 (by decide), hcs 1 (by decide), hcs 2 (by decide)⟩⟩
      · exact ⟨Rw3.nil, fun h => absurd h hk⟩
    obtain ⟨f, hf2⟩ := Classical.axiomOfChoice this
    refine ⟨_, n, cap, (List.range n).map f, hc, by simp, by omega, fun _ => ⟨g, off, rfl, hg, fun k hk => ?_⟩⟩
    rw [List.getD_eq_getElem?_getD, List.getElem?_map, List.getElem?_range hk]
    exact hf2 k hk
end
end Go.Proofs.YtebbmelmifffgaaDoor
