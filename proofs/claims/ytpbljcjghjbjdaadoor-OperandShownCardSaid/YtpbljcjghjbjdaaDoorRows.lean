/-
  NARROWER THAN 'FOR EVERY INPUT', by the rows' own cells (each row's printed sentence says how): DecimalWhole: laid · RoundNames: laid · OperandValues: laid · OperandShown: laid · RuleChecks: laid · RuleSpreads: laid · RuleWords: laid.
  DERIVED. THE GIVEN ROWS OF THIS SEAT. 7 by the template 'for every input the law returns true; each argument reads behind the call as it read before'; 0 by the template 'total and deterministic' (their statements: YtpbljcjghjbjdaaDoorTotals.lean).
  GIVEN WITH THE SEED: the statements are not yours to turn. If you find one false, say at which input.
  Laid BY PROGRAM, IN A SANDBOX (cutbox-rows.mjs): the forced cells as the released guide's own fill.sh prints them over the translation eb6b7296a5f8a893… (all of the seat's roots in one cut). By AI agents, Wed Nov 11 2026. No macro, syntax, notation, axiom, sorry.
-/
import Derived.Test.YtpbljcjghjbjdaaDoorChecked
import GoSem.Claim
import GoSem.ClaimJoined
import GoSem.ClaimMapViews
import Derived.JoinedTies
import Derived.KernelRfl
namespace Go.Proofs.YtpbljcjghjbjdaaDoor
/- THE CELL 'sum', in the pinned program and in every row, IS THE sha256 OF THE DUMP (.gsa) THAT YtpbljcjghjbjdaaDoorProg.lean LOADS. Nothing in Lean hashes anything: it is a label: what it is worth is what the hold of that sum in a sandbox is worth. -/
noncomputable def Tryd.pinned : Pinned := { name := "ytpbljcjghjbjdaadoor", sum := "eb6b7296a5f8a8936c726b44303a6837eed874360295c73851c0a847d0ae9c03", checked := Tryd.checked }
namespace Rows
def none {H : Type} : Left H := { results := [], args := [] }

/- WHAT THE LISTED PACKAGE-LEVEL VARIABLES READ AS WHEN THE CALL BEGINS. Each datum BY PROGRAM (the guide's laid-datum.mjs) off the statement by which the dump's own 'gosem.cut.vars' lays the variable. In a bare row this is a premise. The card (YtpbljcjghjbjdaaDoorCards.lean) ties it to the program's text. -/
def laid_math_bits_deBruijn32tab {H : Type} : DataW H := .agg [.lit (.int .u8 0), .lit (.int .u8 1), .lit (.int .u8 28), .lit (.int .u8 2), .lit (.int .u8 29), .lit (.int .u8 14), .lit (.int .u8 24), .lit (.int .u8 3), .lit (.int .u8 30), .lit (.int .u8 22), .lit (.int .u8 20), .lit (.int .u8 15), .lit (.int .u8 25), .lit (.int .u8 17), .lit (.int .u8 4), .lit (.int .u8 8), .lit (.int .u8 31), .lit (.int .u8 27), .lit (.int .u8 13), .lit (.int .u8 23), .lit (.int .u8 21), .lit (.int .u8 19), .lit (.int .u8 16), .lit (.int .u8 7), .lit (.int .u8 26), .lit (.int .u8 12), .lit (.int .u8 18), .lit (.int .u8 6), .lit (.int .u8 11), .lit (.int .u8 5), .lit (.int .u8 10), .lit (.int .u8 9)]
def laid_math_bits_deBruijn64tab {H : Type} : DataW H := .agg [.lit (.int .u8 0), .lit (.int .u8 1), .lit (.int .u8 56), .lit (.int .u8 2), .lit (.int .u8 57), .lit (.int .u8 49), .lit (.int .u8 28), .lit (.int .u8 3), .lit (.int .u8 61), .lit (.int .u8 58), .lit (.int .u8 42), .lit (.int .u8 50), .lit (.int .u8 38), .lit (.int .u8 29), .lit (.int .u8 17), .lit (.int .u8 4), .lit (.int .u8 62), .lit (.int .u8 47), .lit (.int .u8 59), .lit (.int .u8 36), .lit (.int .u8 45), .lit (.int .u8 43), .lit (.int .u8 51), .lit (.int .u8 22), .lit (.int .u8 53), .lit (.int .u8 39), .lit (.int .u8 33), .lit (.int .u8 30), .lit (.int .u8 24), .lit (.int .u8 18), .lit (.int .u8 12), .lit (.int .u8 5), .lit (.int .u8 63), .lit (.int .u8 55), .lit (.int .u8 48), .lit (.int .u8 27), .lit (.int .u8 60), .lit (.int .u8 41), .lit (.int .u8 37), .lit (.int .u8 16), .lit (.int .u8 46), .lit (.int .u8 35), .lit (.int .u8 44), .lit (.int .u8 21), .lit (.int .u8 52), .lit (.int .u8 32), .lit (.int .u8 23), .lit (.int .u8 11), .lit (.int .u8 54), .lit (.int .u8 26), .lit (.int .u8 40), .lit (.int .u8 15), .lit (.int .u8 34), .lit (.int .u8 20), .lit (.int .u8 31), .lit (.int .u8 10), .lit (.int .u8 25), .lit (.int .u8 14), .lit (.int .u8 19), .lit (.int .u8 9), .lit (.int .u8 13), .lit (.int .u8 8), .lit (.int .u8 7), .lit (.int .u8 6)]
def laid_internal_strconv_uint64pow10 {H : Type} : DataW H := .agg [.lit (.int .u64 1), .lit (.int .u64 10), .lit (.int .u64 100), .lit (.int .u64 1000), .lit (.int .u64 10000), .lit (.int .u64 100000), .lit (.int .u64 1000000), .lit (.int .u64 10000000), .lit (.int .u64 100000000), .lit (.int .u64 1000000000), .lit (.int .u64 10000000000), .lit (.int .u64 100000000000), .lit (.int .u64 1000000000000), .lit (.int .u64 10000000000000), .lit (.int .u64 100000000000000), .lit (.int .u64 1000000000000000), .lit (.int .u64 10000000000000000), .lit (.int .u64 100000000000000000), .lit (.int .u64 1000000000000000000), .lit (.int .u64 10000000000000000000)]
def laid_strconv_ErrRange {H : Type} : DataW H := .iface "*errors.errorString" (.ptr (.agg [.lit (.string [118, 97, 108, 117, 101, 32, 111, 117, 116, 32, 111, 102, 32, 114, 97, 110, 103, 101])]))
def laid_strconv_ErrSyntax {H : Type} : DataW H := .iface "*errors.errorString" (.ptr (.agg [.lit (.string [105, 110, 118, 97, 108, 105, 100, 32, 115, 121, 110, 116, 97, 120])]))
def laid_idiom_round_names {H : Type} : DataW H := .agg [.lit (.string [117, 112]), .lit (.string [100, 111, 119, 110]), .lit (.string [99, 101, 105, 108, 105, 110, 103]), .lit (.string [102, 108, 111, 111, 114]), .lit (.string [104, 97, 108, 102, 45, 117, 112]), .lit (.string [104, 97, 108, 102, 45, 100, 111, 119, 110]), .lit (.string [104, 97, 108, 102, 45, 101, 118, 101, 110]), .lit (.string [110, 111, 110, 101])]
def laid_idiom_rule_symbols {H : Type} : DataW H := .agg [.lit (.string [46, 46, 46]), .lit (.string [46, 46]), .lit (.string [33, 61]), .lit (.string [226, 128, 166]), .lit (.string [64, 105, 110, 116, 101, 103, 101, 114]), .lit (.string [64, 100, 101, 99, 105, 109, 97, 108])]

/-- 'idiomlaw02.DecimalWhole': WHATEVER THE INPUT: true; the input reads as it did. -/
def decimalWholeSpec : ChangeSpec := { name := "decimalWhole", fn := fun _ => fun
  | [d1, d2] => { results := [.lit (.bool true)], args := [d1, d2] }
  | _ => none }
def decimalWholeRow : OpenClaim := { program := "ytpbljcjghjbjdaadoor", sum := "eb6b7296a5f8a8936c726b44303a6837eed874360295c73851c0a847d0ae9c03", func := "idiom/idiomlaw02.DecimalWhole", spec := "decimalWhole", named := ["strconv.ErrSyntax", "strconv.ErrRange", "internal/strconv.uint64pow10", "math/bits.deBruijn32tab", "math/bits.deBruijn64tab"], apart := false, laid := [("math/bits.deBruijn32tab", laid_math_bits_deBruijn32tab), ("math/bits.deBruijn64tab", laid_math_bits_deBruijn64tab), ("internal/strconv.uint64pow10", laid_internal_strconv_uint64pow10), ("strconv.ErrRange", laid_strconv_ErrRange), ("strconv.ErrSyntax", laid_strconv_ErrSyntax)] }
def DecimalWholeSaid : Prop := decimalWholeRow.holds Tryd.pinned (OpenSpec.ofChange decimalWholeSpec)

/-- ITS FALSE NEIGHBOUR: 'it returns false'. Refute it at one input. -/
def decimalWholeWrong : ChangeSpec := { name := "decimalWhole", fn := fun _ => fun
  | [d1, d2] => { results := [.lit (.bool false)], args := [d1, d2] }
  | _ => none }
def DecimalWholeWrongFalsely : Prop := decimalWholeRow.holds Tryd.pinned (OpenSpec.ofChange decimalWholeWrong)

/-- 'idiomlaw03.RoundNames': WHATEVER THE INPUT: true; the input reads as it did. -/
def roundNamesSpec : ChangeSpec := { name := "roundNames", fn := fun _ => fun
  | [d1, d2] => { results := [.lit (.bool true)], args := [d1, d2] }
  | _ => none }
def roundNamesRow : OpenClaim := { program := "ytpbljcjghjbjdaadoor", sum := "eb6b7296a5f8a8936c726b44303a6837eed874360295c73851c0a847d0ae9c03", func := "idiom/idiomlaw03.RoundNames", spec := "roundNames", named := ["idiom/round.names"], apart := false, laid := [("idiom/round.names", laid_idiom_round_names)] }
def RoundNamesSaid : Prop := roundNamesRow.holds Tryd.pinned (OpenSpec.ofChange roundNamesSpec)

/-- ITS FALSE NEIGHBOUR: 'it returns false'. Refute it at one input. -/
def roundNamesWrong : ChangeSpec := { name := "roundNames", fn := fun _ => fun
  | [d1, d2] => { results := [.lit (.bool false)], args := [d1, d2] }
  | _ => none }
def RoundNamesWrongFalsely : Prop := roundNamesRow.holds Tryd.pinned (OpenSpec.ofChange roundNamesWrong)

/-- 'idiomlaw04.OperandValues': WHATEVER THE INPUT: true; the input reads as it did. -/
def operandValuesSpec : ChangeSpec := { name := "operandValues", fn := fun _ => fun
  | [d1, d2, d3, d4] => { results := [.lit (.bool true)], args := [d1, d2, d3, d4] }
  | _ => none }
def operandValuesRow : OpenClaim := { program := "ytpbljcjghjbjdaadoor", sum := "eb6b7296a5f8a8936c726b44303a6837eed874360295c73851c0a847d0ae9c03", func := "idiom/idiomlaw04.OperandValues", spec := "operandValues", named := ["internal/strconv.uint64pow10", "math/bits.deBruijn32tab", "math/bits.deBruijn64tab"], apart := false, laid := [("math/bits.deBruijn32tab", laid_math_bits_deBruijn32tab), ("math/bits.deBruijn64tab", laid_math_bits_deBruijn64tab), ("internal/strconv.uint64pow10", laid_internal_strconv_uint64pow10)] }
def OperandValuesSaid : Prop := operandValuesRow.holds Tryd.pinned (OpenSpec.ofChange operandValuesSpec)

/-- ITS FALSE NEIGHBOUR: 'it returns false'. Refute it at one input. -/
def operandValuesWrong : ChangeSpec := { name := "operandValues", fn := fun _ => fun
  | [d1, d2, d3, d4] => { results := [.lit (.bool false)], args := [d1, d2, d3, d4] }
  | _ => none }
def OperandValuesWrongFalsely : Prop := operandValuesRow.holds Tryd.pinned (OpenSpec.ofChange operandValuesWrong)

/-- 'idiomlaw04.OperandShown': WHATEVER THE INPUT: true; the input reads as it did. -/
def operandShownSpec : ChangeSpec := { name := "operandShown", fn := fun _ => fun
  | [d1, d2, d3, d4] => { results := [.lit (.bool true)], args := [d1, d2, d3, d4] }
  | _ => none }
def operandShownRow : OpenClaim := { program := "ytpbljcjghjbjdaadoor", sum := "eb6b7296a5f8a8936c726b44303a6837eed874360295c73851c0a847d0ae9c03", func := "idiom/idiomlaw04.OperandShown", spec := "operandShown", named := ["internal/strconv.uint64pow10", "math/bits.deBruijn32tab", "math/bits.deBruijn64tab"], apart := false, laid := [("math/bits.deBruijn32tab", laid_math_bits_deBruijn32tab), ("math/bits.deBruijn64tab", laid_math_bits_deBruijn64tab), ("internal/strconv.uint64pow10", laid_internal_strconv_uint64pow10)] }
def OperandShownSaid : Prop := operandShownRow.holds Tryd.pinned (OpenSpec.ofChange operandShownSpec)

/-- ITS FALSE NEIGHBOUR: 'it returns false'. Refute it at one input. -/
def operandShownWrong : ChangeSpec := { name := "operandShown", fn := fun _ => fun
  | [d1, d2, d3, d4] => { results := [.lit (.bool false)], args := [d1, d2, d3, d4] }
  | _ => none }
def OperandShownWrongFalsely : Prop := operandShownRow.holds Tryd.pinned (OpenSpec.ofChange operandShownWrong)

/-- 'idiomlaw05.RuleChecks': WHATEVER THE INPUT: true; the input reads as it did. -/
def ruleChecksSpec : ChangeSpec := { name := "ruleChecks", fn := fun _ => fun
  | [d] => { results := [.lit (.bool true)], args := [d] }
  | _ => none }
def ruleChecksRow : OpenClaim := { program := "ytpbljcjghjbjdaadoor", sum := "eb6b7296a5f8a8936c726b44303a6837eed874360295c73851c0a847d0ae9c03", func := "idiom/idiomlaw05.RuleChecks", spec := "ruleChecks", inPlace := ["internal/bytealg.IndexByteString", "internal/bytealg.IndexString"], unfollowed := true, recurses := true, named := ["internal/bytealg.MaxLen", "idiom/rule.symbols"], apart := false, laid := [("idiom/rule.symbols", laid_idiom_rule_symbols)] }
def RuleChecksSaid : Prop := ruleChecksRow.holds Tryd.pinned (OpenSpec.ofChange ruleChecksSpec)

/-- ITS FALSE NEIGHBOUR: 'it returns false'. Refute it at one input. -/
def ruleChecksWrong : ChangeSpec := { name := "ruleChecks", fn := fun _ => fun
  | [d] => { results := [.lit (.bool false)], args := [d] }
  | _ => none }
def RuleChecksWrongFalsely : Prop := ruleChecksRow.holds Tryd.pinned (OpenSpec.ofChange ruleChecksWrong)

/-- 'idiomlaw05.RuleSpreads': WHATEVER THE INPUT: true; the input reads as it did. -/
def ruleSpreadsSpec : ChangeSpec := { name := "ruleSpreads", fn := fun _ => fun
  | [d] => { results := [.lit (.bool true)], args := [d] }
  | _ => none }
def ruleSpreadsRow : OpenClaim := { program := "ytpbljcjghjbjdaadoor", sum := "eb6b7296a5f8a8936c726b44303a6837eed874360295c73851c0a847d0ae9c03", func := "idiom/idiomlaw05.RuleSpreads", spec := "ruleSpreads", inPlace := ["internal/bytealg.IndexByteString", "internal/bytealg.IndexString"], unfollowed := true, recurses := true, named := ["internal/bytealg.MaxLen", "idiom/rule.symbols"], apart := false, laid := [("idiom/rule.symbols", laid_idiom_rule_symbols)] }
def RuleSpreadsSaid : Prop := ruleSpreadsRow.holds Tryd.pinned (OpenSpec.ofChange ruleSpreadsSpec)

/-- ITS FALSE NEIGHBOUR: 'it returns false'. Refute it at one input. -/
def ruleSpreadsWrong : ChangeSpec := { name := "ruleSpreads", fn := fun _ => fun
  | [d] => { results := [.lit (.bool false)], args := [d] }
  | _ => none }
def RuleSpreadsWrongFalsely : Prop := ruleSpreadsRow.holds Tryd.pinned (OpenSpec.ofChange ruleSpreadsWrong)

/-- 'idiomlaw05.RuleWords': WHATEVER THE INPUT: true; the input reads as it did. -/
def ruleWordsSpec : ChangeSpec := { name := "ruleWords", fn := fun _ => fun
  | [d] => { results := [.lit (.bool true)], args := [d] }
  | _ => none }
def ruleWordsRow : OpenClaim := { program := "ytpbljcjghjbjdaadoor", sum := "eb6b7296a5f8a8936c726b44303a6837eed874360295c73851c0a847d0ae9c03", func := "idiom/idiomlaw05.RuleWords", spec := "ruleWords", unfollowed := true, recurses := true, named := ["idiom/rule.symbols"], apart := false, laid := [("idiom/rule.symbols", laid_idiom_rule_symbols)] }
def RuleWordsSaid : Prop := ruleWordsRow.holds Tryd.pinned (OpenSpec.ofChange ruleWordsSpec)

/-- ITS FALSE NEIGHBOUR: 'it returns false'. Refute it at one input. -/
def ruleWordsWrong : ChangeSpec := { name := "ruleWords", fn := fun _ => fun
  | [d] => { results := [.lit (.bool false)], args := [d] }
  | _ => none }
def RuleWordsWrongFalsely : Prop := ruleWordsRow.holds Tryd.pinned (OpenSpec.ofChange ruleWordsWrong)

/- THE SECOND FORM. 'bulk': how many values and letters a reading holds, each counted each time it is reached (what is shared counts as often as it is met; a slice's spare places count too). A statement '..UptoSaid' is the law's where the arguments, and the package variables that the reading takes, are together of bulk at most 1048576: NARROWER than '..Said'. Prove '..Said' where nothing that the law and all that it calls make is longer than what came in: it says more and counts as full. Else prove '..UptoSaid'. A law counts once. -/
mutual
def uptoBulk {H : Type} : DataW H → Nat
  | .lit (.string bytes) => bytes.length + 1
  | .lit _ => 1
  | .nil => 1
  | .ptr d => uptoBulk d + 1
  | .slice elems spare => uptoBulkAll elems + uptoBulkAll spare + 1
  | .agg parts => uptoBulkAll parts + 1
  | .iface _ d => uptoBulk d + 1
  | .map entries => uptoBulkEntries entries + 1
  | .held _ => 1
def uptoBulkAll {H : Type} : List (DataW H) → Nat
  | [] => 0
  | d :: r => uptoBulk d + uptoBulkAll r
def uptoBulkEntries {H : Type} : List (Lit × DataW H) → Nat
  | [] => 0
  | x :: r => uptoBulkEntry x + uptoBulkEntries r
def uptoBulkEntry {H : Type} : Lit × DataW H → Nat
  | (.string bytes, d) => bytes.length + uptoBulk d + 1
  | (_, d) => uptoBulk d + 1
 end
def uptoSmall : (H : Type) → List (DataW H) → Bool := fun _ ds => decide (uptoBulkAll ds ≤ 1048576)
def OpenSpec.upto (s : _root_.Go.ChangeSpec) : _root_.Go.OpenSpec := { _root_.Go.OpenSpec.ofChange s with cond := some uptoSmall }

/-- 'idiomlaw02.DecimalWhole', WHERE WHAT IT READS IS OF BULK AT MOST 1048576: true; the input reads as it did. -/
def decimalWholeUptoRow : OpenClaim := { program := "ytpbljcjghjbjdaadoor", sum := "eb6b7296a5f8a8936c726b44303a6837eed874360295c73851c0a847d0ae9c03", func := "idiom/idiomlaw02.DecimalWhole", spec := "decimalWhole", named := ["strconv.ErrSyntax", "strconv.ErrRange", "internal/strconv.uint64pow10", "math/bits.deBruijn32tab", "math/bits.deBruijn64tab"], apart := false, laid := [("math/bits.deBruijn32tab", laid_math_bits_deBruijn32tab), ("math/bits.deBruijn64tab", laid_math_bits_deBruijn64tab), ("internal/strconv.uint64pow10", laid_internal_strconv_uint64pow10), ("strconv.ErrRange", laid_strconv_ErrRange), ("strconv.ErrSyntax", laid_strconv_ErrSyntax)], narrowed := true }
def DecimalWholeUptoSaid : Prop := decimalWholeUptoRow.holds Tryd.pinned (OpenSpec.upto decimalWholeSpec)

/-- 'idiomlaw03.RoundNames', WHERE WHAT IT READS IS OF BULK AT MOST 1048576: true; the input reads as it did. -/
def roundNamesUptoRow : OpenClaim := { program := "ytpbljcjghjbjdaadoor", sum := "eb6b7296a5f8a8936c726b44303a6837eed874360295c73851c0a847d0ae9c03", func := "idiom/idiomlaw03.RoundNames", spec := "roundNames", named := ["idiom/round.names"], apart := false, laid := [("idiom/round.names", laid_idiom_round_names)], narrowed := true }
def RoundNamesUptoSaid : Prop := roundNamesUptoRow.holds Tryd.pinned (OpenSpec.upto roundNamesSpec)

/-- 'idiomlaw04.OperandValues', WHERE WHAT IT READS IS OF BULK AT MOST 1048576: true; the input reads as it did. -/
def operandValuesUptoRow : OpenClaim := { program := "ytpbljcjghjbjdaadoor", sum := "eb6b7296a5f8a8936c726b44303a6837eed874360295c73851c0a847d0ae9c03", func := "idiom/idiomlaw04.OperandValues", spec := "operandValues", named := ["internal/strconv.uint64pow10", "math/bits.deBruijn32tab", "math/bits.deBruijn64tab"], apart := false, laid := [("math/bits.deBruijn32tab", laid_math_bits_deBruijn32tab), ("math/bits.deBruijn64tab", laid_math_bits_deBruijn64tab), ("internal/strconv.uint64pow10", laid_internal_strconv_uint64pow10)], narrowed := true }
def OperandValuesUptoSaid : Prop := operandValuesUptoRow.holds Tryd.pinned (OpenSpec.upto operandValuesSpec)

/-- 'idiomlaw04.OperandShown', WHERE WHAT IT READS IS OF BULK AT MOST 1048576: true; the input reads as it did. -/
def operandShownUptoRow : OpenClaim := { program := "ytpbljcjghjbjdaadoor", sum := "eb6b7296a5f8a8936c726b44303a6837eed874360295c73851c0a847d0ae9c03", func := "idiom/idiomlaw04.OperandShown", spec := "operandShown", named := ["internal/strconv.uint64pow10", "math/bits.deBruijn32tab", "math/bits.deBruijn64tab"], apart := false, laid := [("math/bits.deBruijn32tab", laid_math_bits_deBruijn32tab), ("math/bits.deBruijn64tab", laid_math_bits_deBruijn64tab), ("internal/strconv.uint64pow10", laid_internal_strconv_uint64pow10)], narrowed := true }
def OperandShownUptoSaid : Prop := operandShownUptoRow.holds Tryd.pinned (OpenSpec.upto operandShownSpec)

/-- 'idiomlaw05.RuleChecks', WHERE WHAT IT READS IS OF BULK AT MOST 1048576: true; the input reads as it did. -/
def ruleChecksUptoRow : OpenClaim := { program := "ytpbljcjghjbjdaadoor", sum := "eb6b7296a5f8a8936c726b44303a6837eed874360295c73851c0a847d0ae9c03", func := "idiom/idiomlaw05.RuleChecks", spec := "ruleChecks", inPlace := ["internal/bytealg.IndexByteString", "internal/bytealg.IndexString"], unfollowed := true, recurses := true, named := ["internal/bytealg.MaxLen", "idiom/rule.symbols"], apart := false, laid := [("idiom/rule.symbols", laid_idiom_rule_symbols)], narrowed := true }
def RuleChecksUptoSaid : Prop := ruleChecksUptoRow.holds Tryd.pinned (OpenSpec.upto ruleChecksSpec)

/-- 'idiomlaw05.RuleSpreads', WHERE WHAT IT READS IS OF BULK AT MOST 1048576: true; the input reads as it did. -/
def ruleSpreadsUptoRow : OpenClaim := { program := "ytpbljcjghjbjdaadoor", sum := "eb6b7296a5f8a8936c726b44303a6837eed874360295c73851c0a847d0ae9c03", func := "idiom/idiomlaw05.RuleSpreads", spec := "ruleSpreads", inPlace := ["internal/bytealg.IndexByteString", "internal/bytealg.IndexString"], unfollowed := true, recurses := true, named := ["internal/bytealg.MaxLen", "idiom/rule.symbols"], apart := false, laid := [("idiom/rule.symbols", laid_idiom_rule_symbols)], narrowed := true }
def RuleSpreadsUptoSaid : Prop := ruleSpreadsUptoRow.holds Tryd.pinned (OpenSpec.upto ruleSpreadsSpec)

/-- 'idiomlaw05.RuleWords', WHERE WHAT IT READS IS OF BULK AT MOST 1048576: true; the input reads as it did. -/
def ruleWordsUptoRow : OpenClaim := { program := "ytpbljcjghjbjdaadoor", sum := "eb6b7296a5f8a8936c726b44303a6837eed874360295c73851c0a847d0ae9c03", func := "idiom/idiomlaw05.RuleWords", spec := "ruleWords", unfollowed := true, recurses := true, named := ["idiom/rule.symbols"], apart := false, laid := [("idiom/rule.symbols", laid_idiom_rule_symbols)], narrowed := true }
def RuleWordsUptoSaid : Prop := ruleWordsUptoRow.holds Tryd.pinned (OpenSpec.upto ruleWordsSpec)

end Rows
end Go.Proofs.YtpbljcjghjbjdaaDoor
