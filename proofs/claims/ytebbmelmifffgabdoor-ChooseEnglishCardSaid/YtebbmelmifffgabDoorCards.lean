/-
  DERIVED. GIVEN WITH THE SEED: THE CARDS: each row of YtebbmelmifffgabDoorRows.lean that lists a variable, with what it lists TIED to the program's text (the seventh form; the later family's looks); each row that meets fmt, with fmt's text TOLD by the authors' own Lean function (tested against real Go, not proved from fmt's source: count such statements apart). THE CARD IS WHAT COUNTS. Prove the row's statement (the work); the ties are given (YtebbmelmifffgabDoorTie.lean); close each card by the builder's one call (the guide's Derived/Test/ToyasCard.lean, 'card_holds'). Laid BY PROGRAM, IN A SANDBOX (cutbox-door.mjs). By AI agents, Wed Nov 11 2026. No macro, syntax, notation, axiom, sorry.
-/
import Derived.Test.YtebbmelmifffgabDoorRows
import GoSem.ClaimSeven
namespace Go.Proofs.YtebbmelmifffgabDoor
namespace Rows

/-- THE TIED CARD OF 'idiomlaw06.ChooseLists'. -/
def chooseListsCard : Claim7 := { stood := { row := chooseListsRow, standIns := [], harness := (true, "399cce4804c83572fa95b09fb917f1436e375abfcb760ef63aec5c22cc7fdede"), looks := false }, kinds := [], alts := [], laidByText := true, laidKinds := [.data], laidTests := true, laidLooks := .later }
def ChooseListsCardSaid : Prop := Claim7.holds Tryd.pinned (.plain (OpenSpec.ofChange chooseListsSpec)) chooseListsCard

/-- THE TIED CARD OF 'idiomlaw06.ChooseEnglish'. -/
def chooseEnglishCard : Claim7 := { stood := { row := chooseEnglishRow, standIns := [], harness := (true, "399cce4804c83572fa95b09fb917f1436e375abfcb760ef63aec5c22cc7fdede"), looks := false }, kinds := [], alts := [], laidByText := true, laidKinds := [.data], laidTests := true, laidLooks := .later }
def ChooseEnglishCardSaid : Prop := Claim7.holds Tryd.pinned (.plain (OpenSpec.ofChange chooseEnglishSpec)) chooseEnglishCard

/-- THE TIED CARD OF 'idiomlaw06.ChooseGreat'. -/
def chooseGreatCard : Claim7 := { stood := { row := chooseGreatRow, standIns := [], harness := (true, "399cce4804c83572fa95b09fb917f1436e375abfcb760ef63aec5c22cc7fdede"), looks := false }, kinds := [], alts := [], laidByText := true, laidKinds := [.data], laidTests := true, laidLooks := .later }
def ChooseGreatCardSaid : Prop := Claim7.holds Tryd.pinned (.plain (OpenSpec.ofChange chooseGreatSpec)) chooseGreatCard

/-- THE SECOND FORM's CARD OF 'idiomlaw06.ChooseLists'. -/
def chooseListsUptoCard : Claim7 := { stood := { row := chooseListsUptoRow, standIns := [], harness := (true, "399cce4804c83572fa95b09fb917f1436e375abfcb760ef63aec5c22cc7fdede"), looks := false }, kinds := [], alts := [], laidByText := true, laidKinds := [.data], laidTests := true, laidLooks := .later }
def ChooseListsUptoCardSaid : Prop := Claim7.holds Tryd.pinned (.plain (OpenSpec.upto chooseListsSpec)) chooseListsUptoCard

/-- THE SECOND FORM's CARD OF 'idiomlaw06.ChooseEnglish'. -/
def chooseEnglishUptoCard : Claim7 := { stood := { row := chooseEnglishUptoRow, standIns := [], harness := (true, "399cce4804c83572fa95b09fb917f1436e375abfcb760ef63aec5c22cc7fdede"), looks := false }, kinds := [], alts := [], laidByText := true, laidKinds := [.data], laidTests := true, laidLooks := .later }
def ChooseEnglishUptoCardSaid : Prop := Claim7.holds Tryd.pinned (.plain (OpenSpec.upto chooseEnglishSpec)) chooseEnglishUptoCard

/-- THE SECOND FORM's CARD OF 'idiomlaw06.ChooseGreat'. -/
def chooseGreatUptoCard : Claim7 := { stood := { row := chooseGreatUptoRow, standIns := [], harness := (true, "399cce4804c83572fa95b09fb917f1436e375abfcb760ef63aec5c22cc7fdede"), looks := false }, kinds := [], alts := [], laidByText := true, laidKinds := [.data], laidTests := true, laidLooks := .later }
def ChooseGreatUptoCardSaid : Prop := Claim7.holds Tryd.pinned (.plain (OpenSpec.upto chooseGreatSpec)) chooseGreatUptoCard
end Rows
end Go.Proofs.YtebbmelmifffgabDoor
