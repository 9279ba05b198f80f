/-
  NARROWER THAN 'FOR EVERY INPUT', by the rows' own cells (each row's printed sentence says how): RuleChecks: laid · RuleSpreads: laid · RuleWords: laid · ChooseNames: laid · ChooseRanges: laid · ChooseFirst: laid.
  DERIVED. THE GIVEN ROWS OF THIS SEAT. 6 by the template 'for every input the law returns true; each argument reads behind the call as it read before'; 0 by the template 'total and deterministic' (their statements: YtebbmelmifffgaaDoorTotals.lean).
  GIVEN WITH THE SEED: the statements are not yours to turn. If you find one false, say at which input.
  Laid BY PROGRAM, IN A SANDBOX (cutbox-rows.mjs): the forced cells as the released guide's own fill.sh prints them over the translation 6c50a1d99f841851… (all of the seat's roots in one cut). By AI agents, Wed Nov 11 2026. No macro, syntax, notation, axiom, sorry.
-/
import Derived.Test.YtebbmelmifffgaaDoorChecked
import GoSem.Claim
import GoSem.ClaimJoined
import GoSem.ClaimMapViews
import Derived.JoinedTies
import Derived.KernelRfl
namespace Go.Proofs.YtebbmelmifffgaaDoor
/- THE CELL 'sum', in the pinned program and in every row, IS THE sha256 OF THE DUMP (.gsa) THAT YtebbmelmifffgaaDoorProg.lean LOADS. Nothing in Lean hashes anything: it is a label: what it is worth is what the hold of that sum in a sandbox is worth. -/
noncomputable def Tryd.pinned : Pinned := { name := "ytebbmelmifffgaadoor", sum := "6c50a1d99f84185199972c7e29e0ab8a611255ea967301398e2cb9c5eb4fd0cb", checked := Tryd.checked }
namespace Rows
def none {H : Type} : Left H := { results := [], args := [] }

/- WHAT THE LISTED PACKAGE-LEVEL VARIABLES READ AS WHEN THE CALL BEGINS. Each datum BY PROGRAM (the guide's laid-datum.mjs) off the statement by which the dump's own 'gosem.cut.vars' lays the variable. In a bare row this is a premise. The card (YtebbmelmifffgaaDoorCards.lean) ties it to the program's text. -/
def laid_idiom_rule_symbols {H : Type} : DataW H := .agg [.lit (.string [46, 46, 46]), .lit (.string [46, 46]), .lit (.string [33, 61]), .lit (.string [226, 128, 166]), .lit (.string [64, 105, 110, 116, 101, 103, 101, 114]), .lit (.string [64, 100, 101, 99, 105, 109, 97, 108])]
def laid_idiom_choose_names {H : Type} : DataW H := .agg [.lit (.string [111, 116, 104, 101, 114]), .lit (.string [122, 101, 114, 111]), .lit (.string [111, 110, 101]), .lit (.string [116, 119, 111]), .lit (.string [102, 101, 119]), .lit (.string [109, 97, 110, 121])]

/-- 'idiomlaw05.RuleChecks': WHATEVER THE INPUT: true; the input reads as it did. -/
def ruleChecksSpec : ChangeSpec := { name := "ruleChecks", fn := fun _ => fun
  | [d] => { results := [.lit (.bool true)], args := [d] }
  | _ => none }
def ruleChecksRow : OpenClaim := { program := "ytebbmelmifffgaadoor", sum := "6c50a1d99f84185199972c7e29e0ab8a611255ea967301398e2cb9c5eb4fd0cb", func := "idiom/idiomlaw05.RuleChecks", spec := "ruleChecks", inPlace := ["internal/bytealg.IndexByteString", "internal/bytealg.IndexString"], unfollowed := true, recurses := true, named := ["internal/bytealg.MaxLen", "idiom/rule.symbols"], apart := false, laid := [("idiom/rule.symbols", laid_idiom_rule_symbols)] }
def RuleChecksSaid : Prop := ruleChecksRow.holds Tryd.pinned (OpenSpec.ofChange ruleChecksSpec)

/-- ITS FALSE NEIGHBOUR: 'it returns false'. Refute it at one input. -/
def ruleChecksWrong : ChangeSpec := { name := "ruleChecks", fn := fun _ => fun
  | [d] => { results := [.lit (.bool false)], args := [d] }
  | _ => none }
def RuleChecksWrongFalsely : Prop := ruleChecksRow.holds Tryd.pinned (OpenSpec.ofChange ruleChecksWrong)

/-- 'idiomlaw05.RuleSpreads': WHATEVER THE INPUT: true; the input reads as it did. -/
def ruleSpreadsSpec : ChangeSpec := { name := "ruleSpreads", fn := fun _ => fun
  | [d] => { results := [.lit (.bool true)], args := [d] }
  | _ => none }
def ruleSpreadsRow : OpenClaim := { program := "ytebbmelmifffgaadoor", sum := "6c50a1d99f84185199972c7e29e0ab8a611255ea967301398e2cb9c5eb4fd0cb", func := "idiom/idiomlaw05.RuleSpreads", spec := "ruleSpreads", inPlace := ["internal/bytealg.IndexByteString", "internal/bytealg.IndexString"], unfollowed := true, recurses := true, named := ["internal/bytealg.MaxLen", "idiom/rule.symbols"], apart := false, laid := [("idiom/rule.symbols", laid_idiom_rule_symbols)] }
def RuleSpreadsSaid : Prop := ruleSpreadsRow.holds Tryd.pinned (OpenSpec.ofChange ruleSpreadsSpec)

/-- ITS FALSE NEIGHBOUR: 'it returns false'. Refute it at one input. -/
def ruleSpreadsWrong : ChangeSpec := { name := "ruleSpreads", fn := fun _ => fun
  | [d] => { results := [.lit (.bool false)], args := [d] }
  | _ => none }
def RuleSpreadsWrongFalsely : Prop := ruleSpreadsRow.holds Tryd.pinned (OpenSpec.ofChange ruleSpreadsWrong)

/-- 'idiomlaw05.RuleWords': WHATEVER THE INPUT: true; the input reads as it did. -/
def ruleWordsSpec : ChangeSpec := { name := "ruleWords", fn := fun _ => fun
  | [d] => { results := [.lit (.bool true)], args := [d] }
  | _ => none }
def ruleWordsRow : OpenClaim := { program := "ytebbmelmifffgaadoor", sum := "6c50a1d99f84185199972c7e29e0ab8a611255ea967301398e2cb9c5eb4fd0cb", func := "idiom/idiomlaw05.RuleWords", spec := "ruleWords", unfollowed := true, recurses := true, named := ["idiom/rule.symbols"], apart := false, laid := [("idiom/rule.symbols", laid_idiom_rule_symbols)] }
def RuleWordsSaid : Prop := ruleWordsRow.holds Tryd.pinned (OpenSpec.ofChange ruleWordsSpec)

/-- ITS FALSE NEIGHBOUR: 'it returns false'. Refute it at one input. -/
def ruleWordsWrong : ChangeSpec := { name := "ruleWords", fn := fun _ => fun
  | [d] => { results := [.lit (.bool false)], args := [d] }
  | _ => none }
def RuleWordsWrongFalsely : Prop := ruleWordsRow.holds Tryd.pinned (OpenSpec.ofChange ruleWordsWrong)

/-- 'idiomlaw06.ChooseNames': WHATEVER THE INPUT: true; the input reads as it did. -/
def chooseNamesSpec : ChangeSpec := { name := "chooseNames", fn := fun _ => fun
  | [d1, d2] => { results := [.lit (.bool true)], args := [d1, d2] }
  | _ => none }
def chooseNamesRow : OpenClaim := { program := "ytebbmelmifffgaadoor", sum := "6c50a1d99f84185199972c7e29e0ab8a611255ea967301398e2cb9c5eb4fd0cb", func := "idiom/idiomlaw06.ChooseNames", spec := "chooseNames", inPlace := ["internal/bytealg.IndexByteString", "internal/bytealg.IndexString"], unfollowed := true, recurses := true, named := ["idiom/choose.names", "internal/bytealg.MaxLen"], apart := false, laid := [("idiom/choose.names", laid_idiom_choose_names)] }
def ChooseNamesSaid : Prop := chooseNamesRow.holds Tryd.pinned (OpenSpec.ofChange chooseNamesSpec)

/-- ITS FALSE NEIGHBOUR: 'it returns false'. Refute it at one input. -/
def chooseNamesWrong : ChangeSpec := { name := "chooseNames", fn := fun _ => fun
  | [d1, d2] => { results := [.lit (.bool false)], args := [d1, d2] }
  | _ => none }
def ChooseNamesWrongFalsely : Prop := chooseNamesRow.holds Tryd.pinned (OpenSpec.ofChange chooseNamesWrong)

/-- 'idiomlaw06.ChooseRanges': WHATEVER THE INPUT: true; the input reads as it did. -/
def chooseRangesSpec : ChangeSpec := { name := "chooseRanges", fn := fun _ => fun
  | [d1, d2, d3] => { results := [.lit (.bool true)], args := [d1, d2, d3] }
  | _ => none }
def chooseRangesRow : OpenClaim := { program := "ytebbmelmifffgaadoor", sum := "6c50a1d99f84185199972c7e29e0ab8a611255ea967301398e2cb9c5eb4fd0cb", func := "idiom/idiomlaw06.ChooseRanges", spec := "chooseRanges", inPlace := ["internal/bytealg.IndexByteString", "internal/bytealg.IndexString"], unfollowed := true, recurses := true, named := ["internal/bytealg.MaxLen", "idiom/choose.names"], apart := false, laid := [("idiom/choose.names", laid_idiom_choose_names)] }
def ChooseRangesSaid : Prop := chooseRangesRow.holds Tryd.pinned (OpenSpec.ofChange chooseRangesSpec)

/-- ITS FALSE NEIGHBOUR: 'it returns false'. Refute it at one input. -/
def chooseRangesWrong : ChangeSpec := { name := "chooseRanges", fn := fun _ => fun
  | [d1, d2, d3] => { results := [.lit (.bool false)], args := [d1, d2, d3] }
  | _ => none }
def ChooseRangesWrongFalsely : Prop := chooseRangesRow.holds Tryd.pinned (OpenSpec.ofChange chooseRangesWrong)

/-- 'idiomlaw06.ChooseFirst': WHATEVER THE INPUT: true; the input reads as it did. -/
def chooseFirstSpec : ChangeSpec := { name := "chooseFirst", fn := fun _ => fun
  | [d1, d2, d3] => { results := [.lit (.bool true)], args := [d1, d2, d3] }
  | _ => none }
def chooseFirstRow : OpenClaim := { program := "ytebbmelmifffgaadoor", sum := "6c50a1d99f84185199972c7e29e0ab8a611255ea967301398e2cb9c5eb4fd0cb", func := "idiom/idiomlaw06.ChooseFirst", spec := "chooseFirst", inPlace := ["internal/bytealg.IndexByteString", "internal/bytealg.IndexString"], unfollowed := true, recurses := true, named := ["internal/bytealg.MaxLen", "idiom/choose.names"], apart := false, laid := [("idiom/choose.names", laid_idiom_choose_names)] }
def ChooseFirstSaid : Prop := chooseFirstRow.holds Tryd.pinned (OpenSpec.ofChange chooseFirstSpec)

/-- ITS FALSE NEIGHBOUR: 'it returns false'. Refute it at one input. -/
def chooseFirstWrong : ChangeSpec := { name := "chooseFirst", fn := fun _ => fun
  | [d1, d2, d3] => { results := [.lit (.bool false)], args := [d1, d2, d3] }
  | _ => none }
def ChooseFirstWrongFalsely : Prop := chooseFirstRow.holds Tryd.pinned (OpenSpec.ofChange chooseFirstWrong)

/- THE SECOND FORM. 'bulk': how many values and letters a reading holds, each counted each time it is reached (what is shared counts as often as it is met; a slice's spare places count too). A statement '..UptoSaid' is the law's where the arguments, and the package variables that the reading takes, are together of bulk at most 1048576: NARROWER than '..Said'. Prove '..Said' where nothing that the law and all that it calls make is longer than what came in: it says more and counts as full. Else prove '..UptoSaid'. A law counts once. -/
mutual
def uptoBulk {H : Type} : DataW H → Nat
  | .lit (.string bytes) => bytes.length + 1
  | .lit _ => 1
  | .nil => 1
  | .ptr d => uptoBulk d + 1
  | .slice elems spare => uptoBulkAll elems + uptoBulkAll spare + 1
  | .agg parts => uptoBulkAll parts + 1
  | .iface _ d => uptoBulk d + 1
  | .map entries => uptoBulkEntries entries + 1
  | .held _ => 1
def uptoBulkAll {H : Type} : List (DataW H) → Nat
  | [] => 0
  | d :: r => uptoBulk d + uptoBulkAll r
def uptoBulkEntries {H : Type} : List (Lit × DataW H) → Nat
  | [] => 0
  | x :: r => uptoBulkEntry x + uptoBulkEntries r
def uptoBulkEntry {H : Type} : Lit × DataW H → Nat
  | (.string bytes, d) => bytes.length + uptoBulk d + 1
  | (_, d) => uptoBulk d + 1
 end
def uptoSmall : (H : Type) → List (DataW H) → Bool := fun _ ds => decide (uptoBulkAll ds ≤ 1048576)
def OpenSpec.upto (s : _root_.Go.ChangeSpec) : _root_.Go.OpenSpec := { _root_.Go.OpenSpec.ofChange s with cond := some uptoSmall }

/-- 'idiomlaw05.RuleChecks', WHERE WHAT IT READS IS OF BULK AT MOST 1048576: true; the input reads as it did. -/
def ruleChecksUptoRow : OpenClaim := { program := "ytebbmelmifffgaadoor", sum := "6c50a1d99f84185199972c7e29e0ab8a611255ea967301398e2cb9c5eb4fd0cb", func := "idiom/idiomlaw05.RuleChecks", spec := "ruleChecks", inPlace := ["internal/bytealg.IndexByteString", "internal/bytealg.IndexString"], unfollowed := true, recurses := true, named := ["internal/bytealg.MaxLen", "idiom/rule.symbols"], apart := false, laid := [("idiom/rule.symbols", laid_idiom_rule_symbols)], narrowed := true }
def RuleChecksUptoSaid : Prop := ruleChecksUptoRow.holds Tryd.pinned (OpenSpec.upto ruleChecksSpec)

/-- 'idiomlaw05.RuleSpreads', WHERE WHAT IT READS IS OF BULK AT MOST 1048576: true; the input reads as it did. -/
def ruleSpreadsUptoRow : OpenClaim := { program := "ytebbmelmifffgaadoor", sum := "6c50a1d99f84185199972c7e29e0ab8a611255ea967301398e2cb9c5eb4fd0cb", func := "idiom/idiomlaw05.RuleSpreads", spec := "ruleSpreads", inPlace := ["internal/bytealg.IndexByteString", "internal/bytealg.IndexString"], unfollowed := true, recurses := true, named := ["internal/bytealg.MaxLen", "idiom/rule.symbols"], apart := false, laid := [("idiom/rule.symbols", laid_idiom_rule_symbols)], narrowed := true }
def RuleSpreadsUptoSaid : Prop := ruleSpreadsUptoRow.holds Tryd.pinned (OpenSpec.upto ruleSpreadsSpec)

/-- 'idiomlaw05.RuleWords', WHERE WHAT IT READS IS OF BULK AT MOST 1048576: true; the input reads as it did. -/
def ruleWordsUptoRow : OpenClaim := { program := "ytebbmelmifffgaadoor", sum := "6c50a1d99f84185199972c7e29e0ab8a611255ea967301398e2cb9c5eb4fd0cb", func := "idiom/idiomlaw05.RuleWords", spec := "ruleWords", unfollowed := true, recurses := true, named := ["idiom/rule.symbols"], apart := false, laid := [("idiom/rule.symbols", laid_idiom_rule_symbols)], narrowed := true }
def RuleWordsUptoSaid : Prop := ruleWordsUptoRow.holds Tryd.pinned (OpenSpec.upto ruleWordsSpec)

/-- 'idiomlaw06.ChooseNames', WHERE WHAT IT READS IS OF BULK AT MOST 1048576: true; the input reads as it did. -/
def chooseNamesUptoRow : OpenClaim := { program := "ytebbmelmifffgaadoor", sum := "6c50a1d99f84185199972c7e29e0ab8a611255ea967301398e2cb9c5eb4fd0cb", func := "idiom/idiomlaw06.ChooseNames", spec := "chooseNames", inPlace := ["internal/bytealg.IndexByteString", "internal/bytealg.IndexString"], unfollowed := true, recurses := true, named := ["idiom/choose.names", "internal/bytealg.MaxLen"], apart := false, laid := [("idiom/choose.names", laid_idiom_choose_names)], narrowed := true }
def ChooseNamesUptoSaid : Prop := chooseNamesUptoRow.holds Tryd.pinned (OpenSpec.upto chooseNamesSpec)

/-- 'idiomlaw06.ChooseRanges', WHERE WHAT IT READS IS OF BULK AT MOST 1048576: true; the input reads as it did. -/
def chooseRangesUptoRow : OpenClaim := { program := "ytebbmelmifffgaadoor", sum := "6c50a1d99f84185199972c7e29e0ab8a611255ea967301398e2cb9c5eb4fd0cb", func := "idiom/idiomlaw06.ChooseRanges", spec := "chooseRanges", inPlace := ["internal/bytealg.IndexByteString", "internal/bytealg.IndexString"], unfollowed := true, recurses := true, named := ["internal/bytealg.MaxLen", "idiom/choose.names"], apart := false, laid := [("idiom/choose.names", laid_idiom_choose_names)], narrowed := true }
def ChooseRangesUptoSaid : Prop := chooseRangesUptoRow.holds Tryd.pinned (OpenSpec.upto chooseRangesSpec)

/-- 'idiomlaw06.ChooseFirst', WHERE WHAT IT READS IS OF BULK AT MOST 1048576: true; the input reads as it did. -/
def chooseFirstUptoRow : OpenClaim := { program := "ytebbmelmifffgaadoor", sum := "6c50a1d99f84185199972c7e29e0ab8a611255ea967301398e2cb9c5eb4fd0cb", func := "idiom/idiomlaw06.ChooseFirst", spec := "chooseFirst", inPlace := ["internal/bytealg.IndexByteString", "internal/bytealg.IndexString"], unfollowed := true, recurses := true, named := ["internal/bytealg.MaxLen", "idiom/choose.names"], apart := false, laid := [("idiom/choose.names", laid_idiom_choose_names)], narrowed := true }
def ChooseFirstUptoSaid : Prop := chooseFirstUptoRow.holds Tryd.pinned (OpenSpec.upto chooseFirstSpec)

end Rows
end Go.Proofs.YtebbmelmifffgaaDoor
