/-
  DERIVED. GIVEN WITH THE SEED: THE CARDS: each row of YtebbmelmifffgaaDoorRows.lean that lists a variable, with what it lists TIED to the program's text (the seventh form; the later family's looks); each row that meets fmt, with fmt's text TOLD by the authors' own Lean function (tested against real Go, not proved from fmt's source: count such statements apart). THE CARD IS WHAT COUNTS. Prove the row's statement (the work); the ties are given (YtebbmelmifffgaaDoorTie.lean); close each card by the builder's one call (the guide's Derived/Test/ToyasCard.lean, 'card_holds'). Laid BY PROGRAM, IN A SANDBOX (cutbox-door.mjs). By AI agents, Wed Nov 11 2026. No macro, syntax, notation, axiom, sorry.
-/
import Derived.Test.YtebbmelmifffgaaDoorRows
import GoSem.ClaimSeven
namespace Go.Proofs.YtebbmelmifffgaaDoor
namespace Rows

/-- THE TIED CARD OF 'idiomlaw05.RuleChecks'. -/
def ruleChecksCard : Claim7 := { stood := { row := ruleChecksRow, standIns := [], harness := (true, "256287e2a0cf8d3d3cc8917bc47f6450631c1bff4b5c79d92648d34161c31b33"), looks := true }, kinds := [], alts := [], laidByText := true, laidKinds := [.data], laidTests := true, laidLooks := .later }
def RuleChecksCardSaid : Prop := Claim7.holds Tryd.pinned (.plain (OpenSpec.ofChange ruleChecksSpec)) ruleChecksCard

/-- THE TIED CARD OF 'idiomlaw05.RuleSpreads'. -/
def ruleSpreadsCard : Claim7 := { stood := { row := ruleSpreadsRow, standIns := [], harness := (true, "256287e2a0cf8d3d3cc8917bc47f6450631c1bff4b5c79d92648d34161c31b33"), looks := true }, kinds := [], alts := [], laidByText := true, laidKinds := [.data], laidTests := true, laidLooks := .later }
def RuleSpreadsCardSaid : Prop := Claim7.holds Tryd.pinned (.plain (OpenSpec.ofChange ruleSpreadsSpec)) ruleSpreadsCard

/-- THE TIED CARD OF 'idiomlaw05.RuleWords'. -/
def ruleWordsCard : Claim7 := { stood := { row := ruleWordsRow, standIns := [], harness := (true, "256287e2a0cf8d3d3cc8917bc47f6450631c1bff4b5c79d92648d34161c31b33"), looks := true }, kinds := [], alts := [], laidByText := true, laidKinds := [.data], laidTests := true, laidLooks := .later }
def RuleWordsCardSaid : Prop := Claim7.holds Tryd.pinned (.plain (OpenSpec.ofChange ruleWordsSpec)) ruleWordsCard

/-- THE TIED CARD OF 'idiomlaw06.ChooseNames'. -/
def chooseNamesCard : Claim7 := { stood := { row := chooseNamesRow, standIns := [], harness := (true, "256287e2a0cf8d3d3cc8917bc47f6450631c1bff4b5c79d92648d34161c31b33"), looks := true }, kinds := [], alts := [], laidByText := true, laidKinds := [.data], laidTests := true, laidLooks := .later }
def ChooseNamesCardSaid : Prop := Claim7.holds Tryd.pinned (.plain (OpenSpec.ofChange chooseNamesSpec)) chooseNamesCard

/-- THE TIED CARD OF 'idiomlaw06.ChooseRanges'. -/
def chooseRangesCard : Claim7 := { stood := { row := chooseRangesRow, standIns := [], harness := (true, "256287e2a0cf8d3d3cc8917bc47f6450631c1bff4b5c79d92648d34161c31b33"), looks := true }, kinds := [], alts := [], laidByText := true, laidKinds := [.data], laidTests := true, laidLooks := .later }
def ChooseRangesCardSaid : Prop := Claim7.holds Tryd.pinned (.plain (OpenSpec.ofChange chooseRangesSpec)) chooseRangesCard

/-- THE TIED CARD OF 'idiomlaw06.ChooseFirst'. -/
def chooseFirstCard : Claim7 := { stood := { row := chooseFirstRow, standIns := [], harness := (true, "256287e2a0cf8d3d3cc8917bc47f6450631c1bff4b5c79d92648d34161c31b33"), looks := true }, kinds := [], alts := [], laidByText := true, laidKinds := [.data], laidTests := true, laidLooks := .later }
def ChooseFirstCardSaid : Prop := Claim7.holds Tryd.pinned (.plain (OpenSpec.ofChange chooseFirstSpec)) chooseFirstCard

/-- THE SECOND FORM's CARD OF 'idiomlaw05.RuleChecks'. -/
def ruleChecksUptoCard : Claim7 := { stood := { row := ruleChecksUptoRow, standIns := [], harness := (true, "256287e2a0cf8d3d3cc8917bc47f6450631c1bff4b5c79d92648d34161c31b33"), looks := true }, kinds := [], alts := [], laidByText := true, laidKinds := [.data], laidTests := true, laidLooks := .later }
def RuleChecksUptoCardSaid : Prop := Claim7.holds Tryd.pinned (.plain (OpenSpec.upto ruleChecksSpec)) ruleChecksUptoCard

/-- THE SECOND FORM's CARD OF 'idiomlaw05.RuleSpreads'. -/
def ruleSpreadsUptoCard : Claim7 := { stood := { row := ruleSpreadsUptoRow, standIns := [], harness := (true, "256287e2a0cf8d3d3cc8917bc47f6450631c1bff4b5c79d92648d34161c31b33"), looks := true }, kinds := [], alts := [], laidByText := true, laidKinds := [.data], laidTests := true, laidLooks := .later }
def RuleSpreadsUptoCardSaid : Prop := Claim7.holds Tryd.pinned (.plain (OpenSpec.upto ruleSpreadsSpec)) ruleSpreadsUptoCard

/-- THE SECOND FORM's CARD OF 'idiomlaw05.RuleWords'. -/
def ruleWordsUptoCard : Claim7 := { stood := { row := ruleWordsUptoRow, standIns := [], harness := (true, "256287e2a0cf8d3d3cc8917bc47f6450631c1bff4b5c79d92648d34161c31b33"), looks := true }, kinds := [], alts := [], laidByText := true, laidKinds := [.data], laidTests := true, laidLooks := .later }
def RuleWordsUptoCardSaid : Prop := Claim7.holds Tryd.pinned (.plain (OpenSpec.upto ruleWordsSpec)) ruleWordsUptoCard

/-- THE SECOND FORM's CARD OF 'idiomlaw06.ChooseNames'. -/
def chooseNamesUptoCard : Claim7 := { stood := { row := chooseNamesUptoRow, standIns := [], harness := (true, "256287e2a0cf8d3d3cc8917bc47f6450631c1bff4b5c79d92648d34161c31b33"), looks := true }, kinds := [], alts := [], laidByText := true, laidKinds := [.data], laidTests := true, laidLooks := .later }
def ChooseNamesUptoCardSaid : Prop := Claim7.holds Tryd.pinned (.plain (OpenSpec.upto chooseNamesSpec)) chooseNamesUptoCard

/-- THE SECOND FORM's CARD OF 'idiomlaw06.ChooseRanges'. -/
def chooseRangesUptoCard : Claim7 := { stood := { row := chooseRangesUptoRow, standIns := [], harness := (true, "256287e2a0cf8d3d3cc8917bc47f6450631c1bff4b5c79d92648d34161c31b33"), looks := true }, kinds := [], alts := [], laidByText := true, laidKinds := [.data], laidTests := true, laidLooks := .later }
def ChooseRangesUptoCardSaid : Prop := Claim7.holds Tryd.pinned (.plain (OpenSpec.upto chooseRangesSpec)) chooseRangesUptoCard

/-- THE SECOND FORM's CARD OF 'idiomlaw06.ChooseFirst'. -/
def chooseFirstUptoCard : Claim7 := { stood := { row := chooseFirstUptoRow, standIns := [], harness := (true, "256287e2a0cf8d3d3cc8917bc47f6450631c1bff4b5c79d92648d34161c31b33"), looks := true }, kinds := [], alts := [], laidByText := true, laidKinds := [.data], laidTests := true, laidLooks := .later }
def ChooseFirstUptoCardSaid : Prop := Claim7.holds Tryd.pinned (.plain (OpenSpec.upto chooseFirstSpec)) chooseFirstUptoCard
end Rows
end Go.Proofs.YtebbmelmifffgaaDoor
