/- What the rows of layer 6 give: the package's table holds the categories' names; and a world for the witness. -/
import Derived.Test.YtmggdnnffdaffaaDoorCards
import Derived.Test.YtmggdnnffdaffaaDoorTie
import Derived.Test.YtmggdnnffdaffaaDoorMkF
import Derived.ProofKit
import Derived.OpenShut
import Derived.Deep.DeepHandedRow
import Derived.Lib.LaidTab
namespace Go.Proofs.YtmggdnnffdaffaaDoor
open Go.ChangeShapes Go.WideShapes Go.ChangeAt Go.RowKit

def catData {H : Type} (k : Nat) : DataW H := .lit (.string (nmC k).data.toList)
theorem laid_cats {H : Type} : (Rows.laid_idiom_choose_names : DataW H) = .agg ((List.range 6).map catData) := rfl
theorem cat_cell {H : Type} {enc : TypeId × Value → H} {w : World} {base : Nat} {sp : Nat → Bool} {held : Bool} {fuel k : Nat} {cs : List Value} {p : List MemPlace}
    (h : DataW.trod enc Tryd.prog w base sp held fuel 9 cs = some (catData k, p)) : cs = [.string (nmC k)] := by
  obtain ⟨s, hs, hd, _⟩ := DataW.trod_string Tryd.underlying9 h
  simp only [catData, Prod.mk.injEq, DataW.lit.injEq, Lit.string.injEq] at hd
  have e : s = nmC k := by
    cases s with
    | mk a =>
      cases hn : nmC k with
      | mk b =>
        rw [hn] at hd
        have : b = a := by simpa using hd.1
        rw [this]
  rw [hs, e]
theorem tabC (W : World) (h : laidMetH Tryd.prog [("idiom/choose.names", Rows.laid_idiom_choose_names)] W) : TabC W := by
  obtain ⟨ps, ⟨g', t', cs, fuel, p, q, hg', ht', hvar, hd, _, _⟩, _⟩ := h
  obtain rfl := Option.some.inj ((show Tryd.prog.globalNamed "idiom/choose.names" = some 0 by kernel_rfl).symm.trans hg')
  obtain rfl := Option.some.inj ((show (Tryd.prog.globals[0]?).map (·.type) = some 77 by kernel_rfl).symm.trans ht')
  obtain ⟨xs, m, _, hx, hl, hn, hf⟩ := DataW.trod_array Tryd.underlying77 hd
  have c1 : Tryd.prog.cellsOf 9 = 1 := by kernel_rfl
  have c6 : Tryd.prog.cellsOf 77 = 6 := by kernel_rfl
  rw [c6] at hl
  simp only [c1] at hf
  rw [laid_cats] at hx
  have hxs : (List.range 6).map catData = xs.map (·.1) := by
    have := congrArg (fun x => x.1) hx
    simpa using this
  unfold World.var? at hvar
  rw [show Tryd.prog.globalNamed "idiom/choose.names" = some 0 by kernel_rfl] at hvar
  simp only [Option.bind_some] at hvar
  split at hvar
  · rename_i c t fr hh
    have e := Option.some.inj hvar
    refine ⟨fun k hk => ?_, (Array.getElem?_eq_some_iff.1 hh).1⟩
    rw [cell_of_row W _ k _ _ _ hh, e]
    have h1 := hf k hk
    have h2 : (xs.map (·.1))[k]? = some (catData k) := by
      rw [← hxs, List.getElem?_map, List.getElem?_range hk]
      rfl
    rw [List.getElem?_map] at h2
    obtain ⟨y, hy, hy2⟩ := Option.map_eq_some_iff.1 h2
    rw [hy] at h1
    obtain ⟨y1, y2⟩ := y
    simp only at hy2
    rw [hy2] at h1
    have h3 := cat_cell h1
    have h4 : (cs.toList.drop (k * 1)).take 1 = [Value.string (nmC k)] := h3
    have h5 : cs.toList[k]? = some (Value.string (nmC k)) := by
      have := congrArg (fun l => l[0]?) h4
      simpa using this
    simpa using h5
  · cases hvar
theorem laidOutC : laidOutB Tryd.prog = true := by kernel_rfl
theorem ownC : ownKnob Tryd.prog.godebug = none := by kernel_rfl
/-- A world for the witness: the settled one, the table holding its words. -/
noncomputable def catsWorld (os : Os) : World :=
  { World.holding Tryd.prog os ⟨#[], #[], []⟩ with heap := (World.holding Tryd.prog os ⟨#[], #[], []⟩).heap.modify 0 fun
      | .cells _ t frozen => .cells #[.string (nmC 0), .string (nmC 1), .string (nmC 2), .string (nmC 3), .string (nmC 4), .string (nmC 5)] t frozen
      | o => o }
end Go.Proofs.YtmggdnnffdaffaaDoor
