/- What RoundNames' row gives: the package's table holds the modes' words; and a world for the witness. -/
import Derived.Test.YtpbljcjghjbjdaaDoorCards
import Derived.Test.YtpbljcjghjbjdaaDoorTie
import Derived.Test.YtpbljcjghjbjdaaDoorNmA
import Derived.ProofKit
import Derived.OpenShut
import Derived.Deep.DeepHandedRow
import Derived.Lib.LaidTab
namespace Go.Proofs.YtpbljcjghjbjdaaDoor
open Go.ChangeShapes Go.WideShapes Go.ChangeAt Go.RowKit

def nameData {H : Type} (k : Nat) : DataW H := .lit (.string (nmS (k + 1)).data.toList)
theorem laid_names {H : Type} : (Rows.laid_idiom_round_names : DataW H) = .agg ((List.range 8).map nameData) := rfl
theorem name_cell {H : Type} {enc : TypeId × Value → H} {w : World} {base : Nat} {sp : Nat → Bool} {held : Bool} {fuel k : Nat} {cs : List Value} {p : List MemPlace}
    (h : DataW.trod enc Tryd.prog w base sp held fuel 9 cs = some (nameData k, p)) : cs = [.string (nmS (k + 1))] := by
  obtain ⟨s, hs, hd, _⟩ := DataW.trod_string Tryd.underlying9 h
  simp only [nameData, Prod.mk.injEq, DataW.lit.injEq, Lit.string.injEq] at hd
  have e : s = nmS (k + 1) := by
    cases s with
    | mk a =>
      cases hn : nmS (k + 1) with
      | mk b =>
        rw [hn] at hd
        have : b = a := by simpa using hd.1
        rw [this]
  rw [hs, e]
theorem tabN (W : World) (h : laidMetH Tryd.prog [("idiom/round.names", Rows.laid_idiom_round_names)] W) : TabN W := by
  obtain ⟨ps, ⟨g', t', cs, fuel, p, q, hg', ht', hvar, hd, _, _⟩, _⟩ := h
  obtain rfl := Option.some.inj ((show Tryd.prog.globalNamed "idiom/round.names" = some 0 by kernel_rfl).symm.trans hg')
  obtain rfl := Option.some.inj ((show (Tryd.prog.globals[0]?).map (·.type) = some 82 by kernel_rfl).symm.trans ht')
  obtain ⟨xs, m, _, hx, hl, hn, hf⟩ := DataW.trod_array Tryd.underlying82 hd
  have c1 : Tryd.prog.cellsOf 9 = 1 := by kernel_rfl
  have c8 : Tryd.prog.cellsOf 82 = 8 := by kernel_rfl
  rw [c8] at hl
  simp only [c1] at hf
  rw [laid_names] at hx
  have hxs : (List.range 8).map nameData = xs.map (·.1) := by
    have := congrArg (fun x => x.1) hx
    simpa using this
  unfold World.var? at hvar
  rw [show Tryd.prog.globalNamed "idiom/round.names" = some 0 by kernel_rfl] at hvar
  simp only [Option.bind_some] at hvar
  split at hvar
  · rename_i c t fr hh
    have e := Option.some.inj hvar
    intro k hk
    rw [cell_of_row W _ k _ _ _ hh, e]
    have h1 := hf k hk
    have h2 : (xs.map (·.1))[k]? = some (nameData k) := by
      rw [← hxs, List.getElem?_map, List.getElem?_range hk]
      rfl
    rw [List.getElem?_map] at h2
    obtain ⟨y, hy, hy2⟩ := Option.map_eq_some_iff.1 h2
    rw [hy] at h1
    obtain ⟨y1, y2⟩ := y
    simp only at hy2
    rw [hy2] at h1
    have h3 := name_cell h1
    have h4 : (cs.toList.drop (k * 1)).take 1 = [Value.string (nmS (k + 1))] := h3
    have h5 : cs.toList[k]? = some (Value.string (nmS (k + 1))) := by
      have := congrArg (fun l => l[0]?) h4
      simpa using this
    simpa using h5
  · cases hvar
theorem ownN : ownKnob Tryd.prog.godebug = none := by kernel_rfl
/-- A world for the witness: the settled one, the table holding its words. -/
noncomputable def namesWorld (os : Os) : World :=
  { World.holding Tryd.prog os ⟨#[], #[], []⟩ with heap := (World.holding Tryd.prog os ⟨#[], #[], []⟩).heap.modify 0 fun
      | .cells _ t frozen => .cells #[.string (nmS 1), .string (nmS 2), .string (nmS 3), .string (nmS 4), .string (nmS 5), .string (nmS 6), .string (nmS 7), .string (nmS 8)] t frozen
      | o => o }
end Go.Proofs.YtpbljcjghjbjdaaDoor
