/- What the row's list gives: the package's table holds its spans; and a world for the witness. -/
import Derived.Test.YtgakophdgjepmaaDoorCards
import Derived.Test.YtgakophdgjepmaaDoorTie
import Derived.Test.YtgakophdgjepmaaDoorSyn
import Derived.ProofKit
import Derived.OpenShut
import Derived.Deep.DeepHandedRow
import Derived.Lib.LaidTab
namespace Go.Proofs.YtgakophdgjepmaaDoor
open Go.ChangeShapes Go.WideShapes Go.ChangeAt Go.RowKit

theorem pair_cells {H : Type} {enc : TypeId × Value → H} {w : World} {base : Nat} {sp : Nat → Bool} {held : Bool} {fuel : Nat} {cs : List Value} {lo hi : Int} {p : List MemPlace}
    (h : DataW.trod enc Tryd.prog w base sp held fuel 47 cs = some (.agg [.lit (.int .i32 lo), .lit (.int .i32 hi)], p)) : cs = [.int .i32 lo, .int .i32 hi] := by
  obtain ⟨y0, y1, n, hx, hl, h0, h1⟩ := trod_struct2 Tryd.underlying47 h
  obtain ⟨a, ha, hya, _⟩ := DataW.trod_int Tryd.underlying21 h0
  obtain ⟨b, hb, hyb, _⟩ := DataW.trod_int Tryd.underlying21 h1
  have hl' : cs.length = 2 := hl.trans (by kernel_rfl)
  have c1 : Tryd.prog.cellsOf 21 = 1 := by kernel_rfl
  simp only [Prod.mk.injEq, DataW.agg.injEq, List.cons.injEq, and_true] at hx
  rw [hya, hyb] at hx
  simp only [DataW.lit.injEq, Lit.int.injEq, true_and] at hx
  match cs, hl' with
  | [x, y], _ =>
    simp [c1] at ha hb
    rw [ha, hb, hx.1.1, hx.1.2]

def pairsOf : List Int → List (Int × Int)
  | a :: b :: t => (a, b) :: pairsOf t
  | _ => []
theorem flat_cells : ∀ (l : List (Int × Int)) (cs : List Value), cs.length = 2 * l.length → (∀ i (x : Int × Int), l[i]? = some x → (cs.drop (i * 2)).take 2 = [.int .i32 x.1, .int .i32 x.2]) → cs = l.flatMap fun x => [.int .i32 x.1, .int .i32 x.2]
  | [], cs, hl, _ => List.eq_nil_of_length_eq_zero (by simpa using hl)
  | x :: l, [], hl, _ => by simp at hl
  | x :: l, [y], hl, _ => by simp at hl; omega
  | x :: l, a :: b :: cs, hl, h => by
    have h0 := h 0 x rfl
    simp at h0
    have ih := flat_cells l cs (by simp at hl; omega) fun i z hz => by
      have := h (i + 1) z (by simpa using hz)
      rw [show (i + 1) * 2 = i * 2 + 2 by omega] at this
      simpa using this
    rw [List.flatMap_cons, ← ih, h0.1, h0.2]
    rfl
def spanData {H : Type} (x : Int × Int) : DataW H := .agg [.lit (.int .i32 x.1), .lit (.int .i32 x.2)]
theorem laid_pairs {H : Type} : (Rows.laid_idiom_runes_syntaxSpans : DataW H) = .agg ((pairsOf (lowSpans ++ highSpans)).map spanData) := rfl
theorem pairs_flat : ((pairsOf (lowSpans ++ highSpans)).flatMap fun x => [Value.int .i32 x.1, .int .i32 x.2]).toArray = tabCells := rfl

theorem tabW (W : World) (h : laidMetH Tryd.prog [("idiom/runes.syntaxSpans", Rows.laid_idiom_runes_syntaxSpans)] W) : TabW W := by
  obtain ⟨ps, ⟨g', t', cs, fuel, p, q, hg', ht', hvar, hd, _, _⟩, _⟩ := h
  obtain rfl := Option.some.inj ((show Tryd.prog.globalNamed "idiom/runes.syntaxSpans" = some 0 by kernel_rfl).symm.trans hg')
  obtain rfl := Option.some.inj ((show (Tryd.prog.globals[0]?).map (·.type) = some 48 by kernel_rfl).symm.trans ht')
  obtain ⟨xs, m, _, hx, hl, hn, hf⟩ := DataW.trod_array Tryd.underlying48 hd
  have c2 : Tryd.prog.cellsOf 47 = 2 := by kernel_rfl
  have c52 : Tryd.prog.cellsOf 48 = 52 := by kernel_rfl
  rw [c52] at hl
  simp only [c2] at hf
  rw [laid_pairs] at hx
  have hxs : (pairsOf (lowSpans ++ highSpans)).map spanData = xs.map (·.1) := by
    have := congrArg (fun x => x.1) hx
    simpa using this
  have hcs := flat_cells (pairsOf (lowSpans ++ highSpans)) cs.toList hl fun i x hi => by
    have hi26 : i < 26 := by
      have := (List.getElem?_eq_some_iff.1 hi).1
      exact this
    have h1 := hf i hi26
    have h2 : (xs.map (·.1))[i]? = some (spanData x) := by rw [← hxs, List.getElem?_map, hi]; rfl
    rw [List.getElem?_map] at h2
    obtain ⟨y, hy, hy2⟩ := Option.map_eq_some_iff.1 h2
    rw [hy] at h1
    obtain ⟨y1, y2⟩ := y
    simp only at hy2
    rw [hy2] at h1
    exact pair_cells h1
  unfold World.var? at hvar
  rw [show Tryd.prog.globalNamed "idiom/runes.syntaxSpans" = some 0 by kernel_rfl] at hvar
  simp only [Option.bind_some] at hvar
  unfold TabW
  split at hvar
  · rename_i c t fr hh
    refine ⟨t, fr, ?_⟩
    rw [hh]
    have e := Option.some.inj hvar
    rw [e, ← pairs_flat, ← hcs]
  · cases hvar
theorem own : ownKnob Tryd.prog.godebug = none := by kernel_rfl
/-- A world for the witness: the settled one, the table holding its spans. -/
noncomputable def laidWorld (os : Os) : World :=
  { World.holding Tryd.prog os ⟨#[], #[], []⟩ with heap := (World.holding Tryd.prog os ⟨#[], #[], []⟩).heap.modify 0 fun
      | .cells _ t frozen => .cells tabCells t frozen
      | o => o }
end Go.Proofs.YtgakophdgjepmaaDoor
