/-
  DERIVED. GIVEN WITH THE SEED: THE CARDS: each row of YtpbljcjghjbjdaaDoorRows.lean that lists a variable, with what it lists TIED to the program's text (the seventh form; the later family's looks); each row that meets fmt, with fmt's text TOLD by the authors' own Lean function (tested against real Go, not proved from fmt's source: count such statements apart). THE CARD IS WHAT COUNTS. Prove the row's statement (the work); the ties are given (YtpbljcjghjbjdaaDoorTie.lean); close each card by the builder's one call (the guide's Derived/Test/ToyasCard.lean, 'card_holds'). Laid BY PROGRAM, IN A SANDBOX (cutbox-door.mjs). By AI agents, Wed Nov 11 2026. No macro, syntax, notation, axiom, sorry.
-/
import Derived.Test.YtpbljcjghjbjdaaDoorRows
import GoSem.ClaimSeven
namespace Go.Proofs.YtpbljcjghjbjdaaDoor
namespace Rows

/-- THE TIED CARD OF 'idiomlaw02.DecimalWhole'. -/
def decimalWholeCard : Claim7 := { stood := { row := decimalWholeRow, standIns := [], harness := (true, "c0ef80ec6e5b63fa6da7e092d01408ad11526ed88941fb409c379783b8bf7d55"), looks := true }, kinds := [], alts := [], laidByText := true, laidKinds := [.data, .data, .data, .sentinel, .sentinel], laidTests := true, laidLooks := .later }
def DecimalWholeCardSaid : Prop := Claim7.holds Tryd.pinned (.plain (OpenSpec.ofChange decimalWholeSpec)) decimalWholeCard

/-- THE TIED CARD OF 'idiomlaw03.RoundNames'. -/
def roundNamesCard : Claim7 := { stood := { row := roundNamesRow, standIns := [], harness := (true, "c0ef80ec6e5b63fa6da7e092d01408ad11526ed88941fb409c379783b8bf7d55"), looks := true }, kinds := [], alts := [], laidByText := true, laidKinds := [.data], laidTests := true, laidLooks := .later }
def RoundNamesCardSaid : Prop := Claim7.holds Tryd.pinned (.plain (OpenSpec.ofChange roundNamesSpec)) roundNamesCard

/-- THE TIED CARD OF 'idiomlaw04.OperandValues'. -/
def operandValuesCard : Claim7 := { stood := { row := operandValuesRow, standIns := [], harness := (true, "c0ef80ec6e5b63fa6da7e092d01408ad11526ed88941fb409c379783b8bf7d55"), looks := true }, kinds := [], alts := [], laidByText := true, laidKinds := [.data, .data, .data], laidTests := true, laidLooks := .later }
def OperandValuesCardSaid : Prop := Claim7.holds Tryd.pinned (.plain (OpenSpec.ofChange operandValuesSpec)) operandValuesCard

/-- THE TIED CARD OF 'idiomlaw04.OperandShown'. -/
def operandShownCard : Claim7 := { stood := { row := operandShownRow, standIns := [], harness := (true, "c0ef80ec6e5b63fa6da7e092d01408ad11526ed88941fb409c379783b8bf7d55"), looks := true }, kinds := [], alts := [], laidByText := true, laidKinds := [.data, .data, .data], laidTests := true, laidLooks := .later }
def OperandShownCardSaid : Prop := Claim7.holds Tryd.pinned (.plain (OpenSpec.ofChange operandShownSpec)) operandShownCard

/-- THE TIED CARD OF 'idiomlaw05.RuleChecks'. -/
def ruleChecksCard : Claim7 := { stood := { row := ruleChecksRow, standIns := [], harness := (true, "c0ef80ec6e5b63fa6da7e092d01408ad11526ed88941fb409c379783b8bf7d55"), looks := true }, kinds := [], alts := [], laidByText := true, laidKinds := [.data], laidTests := true, laidLooks := .later }
def RuleChecksCardSaid : Prop := Claim7.holds Tryd.pinned (.plain (OpenSpec.ofChange ruleChecksSpec)) ruleChecksCard

/-- THE TIED CARD OF 'idiomlaw05.RuleSpreads'. -/
def ruleSpreadsCard : Claim7 := { stood := { row := ruleSpreadsRow, standIns := [], harness := (true, "c0ef80ec6e5b63fa6da7e092d01408ad11526ed88941fb409c379783b8bf7d55"), looks := true }, kinds := [], alts := [], laidByText := true, laidKinds := [.data], laidTests := true, laidLooks := .later }
def RuleSpreadsCardSaid : Prop := Claim7.holds Tryd.pinned (.plain (OpenSpec.ofChange ruleSpreadsSpec)) ruleSpreadsCard

/-- THE TIED CARD OF 'idiomlaw05.RuleWords'. -/
def ruleWordsCard : Claim7 := { stood := { row := ruleWordsRow, standIns := [], harness := (true, "c0ef80ec6e5b63fa6da7e092d01408ad11526ed88941fb409c379783b8bf7d55"), looks := true }, kinds := [], alts := [], laidByText := true, laidKinds := [.data], laidTests := true, laidLooks := .later }
def RuleWordsCardSaid : Prop := Claim7.holds Tryd.pinned (.plain (OpenSpec.ofChange ruleWordsSpec)) ruleWordsCard

/-- THE SECOND FORM's CARD OF 'idiomlaw02.DecimalWhole'. -/
def decimalWholeUptoCard : Claim7 := { stood := { row := decimalWholeUptoRow, standIns := [], harness := (true, "c0ef80ec6e5b63fa6da7e092d01408ad11526ed88941fb409c379783b8bf7d55"), looks := true }, kinds := [], alts := [], laidByText := true, laidKinds := [.data, .data, .data, .sentinel, .sentinel], laidTests := true, laidLooks := .later }
def DecimalWholeUptoCardSaid : Prop := Claim7.holds Tryd.pinned (.plain (OpenSpec.upto decimalWholeSpec)) decimalWholeUptoCard

/-- THE SECOND FORM's CARD OF 'idiomlaw03.RoundNames'. -/
def roundNamesUptoCard : Claim7 := { stood := { row := roundNamesUptoRow, standIns := [], harness := (true, "c0ef80ec6e5b63fa6da7e092d01408ad11526ed88941fb409c379783b8bf7d55"), looks := true }, kinds := [], alts := [], laidByText := true, laidKinds := [.data], laidTests := true, laidLooks := .later }
def RoundNamesUptoCardSaid : Prop := Claim7.holds Tryd.pinned (.plain (OpenSpec.upto roundNamesSpec)) roundNamesUptoCard

/-- THE SECOND FORM's CARD OF 'idiomlaw04.OperandValues'. -/
def operandValuesUptoCard : Claim7 := { stood := { row := operandValuesUptoRow, standIns := [], harness := (true, "c0ef80ec6e5b63fa6da7e092d01408ad11526ed88941fb409c379783b8bf7d55"), looks := true }, kinds := [], alts := [], laidByText := true, laidKinds := [.data, .data, .data], laidTests := true, laidLooks := .later }
def OperandValuesUptoCardSaid : Prop := Claim7.holds Tryd.pinned (.plain (OpenSpec.upto operandValuesSpec)) operandValuesUptoCard

/-- THE SECOND FORM's CARD OF 'idiomlaw04.OperandShown'. -/
def operandShownUptoCard : Claim7 := { stood := { row := operandShownUptoRow, standIns := [], harness := (true, "c0ef80ec6e5b63fa6da7e092d01408ad11526ed88941fb409c379783b8bf7d55"), looks := true }, kinds := [], alts := [], laidByText := true, laidKinds := [.data, .data, .data], laidTests := true, laidLooks := .later }
def OperandShownUptoCardSaid : Prop := Claim7.holds Tryd.pinned (.plain (OpenSpec.upto operandShownSpec)) operandShownUptoCard

/-- THE SECOND FORM's CARD OF 'idiomlaw05.RuleChecks'. -/
def ruleChecksUptoCard : Claim7 := { stood := { row := ruleChecksUptoRow, standIns := [], harness := (true, "c0ef80ec6e5b63fa6da7e092d01408ad11526ed88941fb409c379783b8bf7d55"), looks := true }, kinds := [], alts := [], laidByText := true, laidKinds := [.data], laidTests := true, laidLooks := .later }
def RuleChecksUptoCardSaid : Prop := Claim7.holds Tryd.pinned (.plain (OpenSpec.upto ruleChecksSpec)) ruleChecksUptoCard

/-- THE SECOND FORM's CARD OF 'idiomlaw05.RuleSpreads'. -/
def ruleSpreadsUptoCard : Claim7 := { stood := { row := ruleSpreadsUptoRow, standIns := [], harness := (true, "c0ef80ec6e5b63fa6da7e092d01408ad11526ed88941fb409c379783b8bf7d55"), looks := true }, kinds := [], alts := [], laidByText := true, laidKinds := [.data], laidTests := true, laidLooks := .later }
def RuleSpreadsUptoCardSaid : Prop := Claim7.holds Tryd.pinned (.plain (OpenSpec.upto ruleSpreadsSpec)) ruleSpreadsUptoCard

/-- THE SECOND FORM's CARD OF 'idiomlaw05.RuleWords'. -/
def ruleWordsUptoCard : Claim7 := { stood := { row := ruleWordsUptoRow, standIns := [], harness := (true, "c0ef80ec6e5b63fa6da7e092d01408ad11526ed88941fb409c379783b8bf7d55"), looks := true }, kinds := [], alts := [], laidByText := true, laidKinds := [.data], laidTests := true, laidLooks := .later }
def RuleWordsUptoCardSaid : Prop := Claim7.holds Tryd.pinned (.plain (OpenSpec.upto ruleWordsSpec)) ruleWordsUptoCard
end Rows
end Go.Proofs.YtpbljcjghjbjdaaDoor
