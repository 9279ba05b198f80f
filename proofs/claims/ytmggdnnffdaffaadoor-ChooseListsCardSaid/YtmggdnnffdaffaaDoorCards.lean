/-
  DERIVED. GIVEN WITH THE SEED: THE CARDS: each row of YtmggdnnffdaffaaDoorRows.lean that lists a variable, with what it lists TIED to the program's text (the seventh form; the later family's looks); each row that meets fmt, with fmt's text TOLD by the authors' own Lean function (tested against real Go, not proved from fmt's source: count such statements apart). THE CARD IS WHAT COUNTS. Prove the row's statement (the work); the ties are given (YtmggdnnffdaffaaDoorTie.lean); close each card by the builder's one call (the guide's Derived/Test/ToyasCard.lean, 'card_holds'). Laid BY PROGRAM, IN A SANDBOX (cutbox-door.mjs). By AI agents, Wed Nov 11 2026. No macro, syntax, notation, axiom, sorry.
-/
import Derived.Test.YtmggdnnffdaffaaDoorRows
import GoSem.ClaimSeven
namespace Go.Proofs.YtmggdnnffdaffaaDoor
namespace Rows

/-- THE TIED CARD OF 'idiomlaw06.ChooseLists'. -/
def chooseListsCard : Claim7 := { stood := { row := chooseListsRow, standIns := [], harness := (true, "51af3c3743542b0bcbe26ab2a3467f5264015b755036da938ac820603b19f6a7"), looks := false }, kinds := [], alts := [], laidByText := true, laidKinds := [.data], laidTests := true, laidLooks := .later }
def ChooseListsCardSaid : Prop := Claim7.holds Tryd.pinned (.plain (OpenSpec.ofChange chooseListsSpec)) chooseListsCard

/-- THE TIED CARD OF 'idiomlaw06.ChooseFirst'. -/
def chooseFirstCard : Claim7 := { stood := { row := chooseFirstRow, standIns := [], harness := (true, "51af3c3743542b0bcbe26ab2a3467f5264015b755036da938ac820603b19f6a7"), looks := false }, kinds := [], alts := [], laidByText := true, laidKinds := [.data], laidTests := true, laidLooks := .later }
def ChooseFirstCardSaid : Prop := Claim7.holds Tryd.pinned (.plain (OpenSpec.ofChange chooseFirstSpec)) chooseFirstCard

/-- THE TIED CARD OF 'idiomlaw06.ChooseGreat'. -/
def chooseGreatCard : Claim7 := { stood := { row := chooseGreatRow, standIns := [], harness := (true, "51af3c3743542b0bcbe26ab2a3467f5264015b755036da938ac820603b19f6a7"), looks := false }, kinds := [], alts := [], laidByText := true, laidKinds := [.data], laidTests := true, laidLooks := .later }
def ChooseGreatCardSaid : Prop := Claim7.holds Tryd.pinned (.plain (OpenSpec.ofChange chooseGreatSpec)) chooseGreatCard

/-- THE SECOND FORM's CARD OF 'idiomlaw06.ChooseLists'. -/
def chooseListsUptoCard : Claim7 := { stood := { row := chooseListsUptoRow, standIns := [], harness := (true, "51af3c3743542b0bcbe26ab2a3467f5264015b755036da938ac820603b19f6a7"), looks := false }, kinds := [], alts := [], laidByText := true, laidKinds := [.data], laidTests := true, laidLooks := .later }
def ChooseListsUptoCardSaid : Prop := Claim7.holds Tryd.pinned (.plain (OpenSpec.upto chooseListsSpec)) chooseListsUptoCard

/-- THE SECOND FORM's CARD OF 'idiomlaw06.ChooseFirst'. -/
def chooseFirstUptoCard : Claim7 := { stood := { row := chooseFirstUptoRow, standIns := [], harness := (true, "51af3c3743542b0bcbe26ab2a3467f5264015b755036da938ac820603b19f6a7"), looks := false }, kinds := [], alts := [], laidByText := true, laidKinds := [.data], laidTests := true, laidLooks := .later }
def ChooseFirstUptoCardSaid : Prop := Claim7.holds Tryd.pinned (.plain (OpenSpec.upto chooseFirstSpec)) chooseFirstUptoCard

/-- THE SECOND FORM's CARD OF 'idiomlaw06.ChooseGreat'. -/
def chooseGreatUptoCard : Claim7 := { stood := { row := chooseGreatUptoRow, standIns := [], harness := (true, "51af3c3743542b0bcbe26ab2a3467f5264015b755036da938ac820603b19f6a7"), looks := false }, kinds := [], alts := [], laidByText := true, laidKinds := [.data], laidTests := true, laidLooks := .later }
def ChooseGreatUptoCardSaid : Prop := Claim7.holds Tryd.pinned (.plain (OpenSpec.upto chooseGreatSpec)) chooseGreatUptoCard
end Rows
end Go.Proofs.YtmggdnnffdaffaaDoor
