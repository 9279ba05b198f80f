/-
  No cell of these rows narrows 'for every input' (looked for: loops, veiled, ifaces, maps, wideKeys, modest, calm, conditions, laid).
  DERIVED. THE GIVEN ROWS OF THIS SEAT. 10 by the template 'for every input the law returns true; each argument reads behind the call as it read before'; 0 by the template 'total and deterministic' (their statements: YtmaljkjcibdbgaaTotals.lean).
  GIVEN WITH THE SEED: the statements are not yours to turn. If you find one false, say at which input.
  Laid BY PROGRAM, IN A SANDBOX (cutbox-rows.mjs): the forced cells as the released guide's own fill.sh prints them over the translation 7766ad4d5a9ebe5b… (all of the seat's roots in one cut). By AI agents, Wed Nov 11 2026. No macro, syntax, notation, axiom, sorry.
-/
import Derived.Test.YtmaljkjcibdbgaaChecked
import GoSem.Claim
import GoSem.ClaimJoined
import GoSem.ClaimMapViews
import Derived.JoinedTies
import Derived.KernelRfl
namespace Go.Proofs.Ytmaljkjcibdbgaa
/- THE CELL 'sum', in the pinned program and in every row, IS THE sha256 OF THE DUMP (.gsa) THAT YtmaljkjcibdbgaaProg.lean LOADS. Nothing in Lean hashes anything: it is a label: what it is worth is what the hold of that sum in a sandbox is worth. -/
noncomputable def Try.pinned : Pinned := { name := "ytmaljkjcibdbgaa", sum := "7766ad4d5a9ebe5b9ca9cc871385055dd6e96dc024da4f17309d9b49715d18db", checked := Try.checked }
namespace Rows
def none {H : Type} : Left H := { results := [], args := [] }

/-- 'idiomlaw02.DecimalReads': WHATEVER THE INPUT: true; the input reads as it did. -/
def decimalReadsSpec : ChangeSpec := { name := "decimalReads", fn := fun _ => fun
  | [d] => { results := [.lit (.bool true)], args := [d] }
  | _ => none }
def decimalReadsRow : OpenClaim := { program := "ytmaljkjcibdbgaa", sum := "7766ad4d5a9ebe5b9ca9cc871385055dd6e96dc024da4f17309d9b49715d18db", func := "idiom/idiomlaw02.DecimalReads", spec := "decimalReads", apart := false }
def DecimalReadsSaid : Prop := decimalReadsRow.holds Try.pinned (OpenSpec.ofChange decimalReadsSpec)

/-- ITS FALSE NEIGHBOUR: 'it returns false'. Refute it at one input. -/
def decimalReadsWrong : ChangeSpec := { name := "decimalReads", fn := fun _ => fun
  | [d] => { results := [.lit (.bool false)], args := [d] }
  | _ => none }
def DecimalReadsWrongFalsely : Prop := decimalReadsRow.holds Try.pinned (OpenSpec.ofChange decimalReadsWrong)

/-- 'idiomlaw02.DecimalSums': WHATEVER THE INPUT: true; the input reads as it did. -/
def decimalSumsSpec : ChangeSpec := { name := "decimalSums", fn := fun _ => fun
  | [d1, d2] => { results := [.lit (.bool true)], args := [d1, d2] }
  | _ => none }
def decimalSumsRow : OpenClaim := { program := "ytmaljkjcibdbgaa", sum := "7766ad4d5a9ebe5b9ca9cc871385055dd6e96dc024da4f17309d9b49715d18db", func := "idiom/idiomlaw02.DecimalSums", spec := "decimalSums", apart := false }
def DecimalSumsSaid : Prop := decimalSumsRow.holds Try.pinned (OpenSpec.ofChange decimalSumsSpec)

/-- ITS FALSE NEIGHBOUR: 'it returns false'. Refute it at one input. -/
def decimalSumsWrong : ChangeSpec := { name := "decimalSums", fn := fun _ => fun
  | [d1, d2] => { results := [.lit (.bool false)], args := [d1, d2] }
  | _ => none }
def DecimalSumsWrongFalsely : Prop := decimalSumsRow.holds Try.pinned (OpenSpec.ofChange decimalSumsWrong)

/-- 'idiomlaw02.DecimalDivides': WHATEVER THE INPUT: true; the input reads as it did. -/
def decimalDividesSpec : ChangeSpec := { name := "decimalDivides", fn := fun _ => fun
  | [d1, d2] => { results := [.lit (.bool true)], args := [d1, d2] }
  | _ => none }
def decimalDividesRow : OpenClaim := { program := "ytmaljkjcibdbgaa", sum := "7766ad4d5a9ebe5b9ca9cc871385055dd6e96dc024da4f17309d9b49715d18db", func := "idiom/idiomlaw02.DecimalDivides", spec := "decimalDivides", apart := false }
def DecimalDividesSaid : Prop := decimalDividesRow.holds Try.pinned (OpenSpec.ofChange decimalDividesSpec)

/-- ITS FALSE NEIGHBOUR: 'it returns false'. Refute it at one input. -/
def decimalDividesWrong : ChangeSpec := { name := "decimalDivides", fn := fun _ => fun
  | [d1, d2] => { results := [.lit (.bool false)], args := [d1, d2] }
  | _ => none }
def DecimalDividesWrongFalsely : Prop := decimalDividesRow.holds Try.pinned (OpenSpec.ofChange decimalDividesWrong)

/-- 'idiomlaw02.DecimalRest': WHATEVER THE INPUT: true; the input reads as it did. -/
def decimalRestSpec : ChangeSpec := { name := "decimalRest", fn := fun _ => fun
  | [d1, d2, d3] => { results := [.lit (.bool true)], args := [d1, d2, d3] }
  | _ => none }
def decimalRestRow : OpenClaim := { program := "ytmaljkjcibdbgaa", sum := "7766ad4d5a9ebe5b9ca9cc871385055dd6e96dc024da4f17309d9b49715d18db", func := "idiom/idiomlaw02.DecimalRest", spec := "decimalRest", apart := false }
def DecimalRestSaid : Prop := decimalRestRow.holds Try.pinned (OpenSpec.ofChange decimalRestSpec)

/-- ITS FALSE NEIGHBOUR: 'it returns false'. Refute it at one input. -/
def decimalRestWrong : ChangeSpec := { name := "decimalRest", fn := fun _ => fun
  | [d1, d2, d3] => { results := [.lit (.bool false)], args := [d1, d2, d3] }
  | _ => none }
def DecimalRestWrongFalsely : Prop := decimalRestRow.holds Try.pinned (OpenSpec.ofChange decimalRestWrong)

/-- 'idiomlaw03.RoundPlaces': WHATEVER THE INPUT: true; the input reads as it did. -/
def roundPlacesSpec : ChangeSpec := { name := "roundPlaces", fn := fun _ => fun
  | [d1, d2, d3] => { results := [.lit (.bool true)], args := [d1, d2, d3] }
  | _ => none }
def roundPlacesRow : OpenClaim := { program := "ytmaljkjcibdbgaa", sum := "7766ad4d5a9ebe5b9ca9cc871385055dd6e96dc024da4f17309d9b49715d18db", func := "idiom/idiomlaw03.RoundPlaces", spec := "roundPlaces", apart := false }
def RoundPlacesSaid : Prop := roundPlacesRow.holds Try.pinned (OpenSpec.ofChange roundPlacesSpec)

/-- ITS FALSE NEIGHBOUR: 'it returns false'. Refute it at one input. -/
def roundPlacesWrong : ChangeSpec := { name := "roundPlaces", fn := fun _ => fun
  | [d1, d2, d3] => { results := [.lit (.bool false)], args := [d1, d2, d3] }
  | _ => none }
def RoundPlacesWrongFalsely : Prop := roundPlacesRow.holds Try.pinned (OpenSpec.ofChange roundPlacesWrong)

/-- 'idiomlaw03.RoundFixes': WHATEVER THE INPUT: true; the input reads as it did. -/
def roundFixesSpec : ChangeSpec := { name := "roundFixes", fn := fun _ => fun
  | [d1, d2, d3] => { results := [.lit (.bool true)], args := [d1, d2, d3] }
  | _ => none }
def roundFixesRow : OpenClaim := { program := "ytmaljkjcibdbgaa", sum := "7766ad4d5a9ebe5b9ca9cc871385055dd6e96dc024da4f17309d9b49715d18db", func := "idiom/idiomlaw03.RoundFixes", spec := "roundFixes", apart := false }
def RoundFixesSaid : Prop := roundFixesRow.holds Try.pinned (OpenSpec.ofChange roundFixesSpec)

/-- ITS FALSE NEIGHBOUR: 'it returns false'. Refute it at one input. -/
def roundFixesWrong : ChangeSpec := { name := "roundFixes", fn := fun _ => fun
  | [d1, d2, d3] => { results := [.lit (.bool false)], args := [d1, d2, d3] }
  | _ => none }
def RoundFixesWrongFalsely : Prop := roundFixesRow.holds Try.pinned (OpenSpec.ofChange roundFixesWrong)

/-- 'idiomlaw03.RoundDigits': WHATEVER THE INPUT: true; the input reads as it did. -/
def roundDigitsSpec : ChangeSpec := { name := "roundDigits", fn := fun _ => fun
  | [d1, d2, d3] => { results := [.lit (.bool true)], args := [d1, d2, d3] }
  | _ => none }
def roundDigitsRow : OpenClaim := { program := "ytmaljkjcibdbgaa", sum := "7766ad4d5a9ebe5b9ca9cc871385055dd6e96dc024da4f17309d9b49715d18db", func := "idiom/idiomlaw03.RoundDigits", spec := "roundDigits", apart := false }
def RoundDigitsSaid : Prop := roundDigitsRow.holds Try.pinned (OpenSpec.ofChange roundDigitsSpec)

/-- ITS FALSE NEIGHBOUR: 'it returns false'. Refute it at one input. -/
def roundDigitsWrong : ChangeSpec := { name := "roundDigits", fn := fun _ => fun
  | [d1, d2, d3] => { results := [.lit (.bool false)], args := [d1, d2, d3] }
  | _ => none }
def RoundDigitsWrongFalsely : Prop := roundDigitsRow.holds Try.pinned (OpenSpec.ofChange roundDigitsWrong)

/-- 'idiomlaw03.RoundSteps': WHATEVER THE INPUT: true; the input reads as it did. -/
def roundStepsSpec : ChangeSpec := { name := "roundSteps", fn := fun _ => fun
  | [d1, d2, d3] => { results := [.lit (.bool true)], args := [d1, d2, d3] }
  | _ => none }
def roundStepsRow : OpenClaim := { program := "ytmaljkjcibdbgaa", sum := "7766ad4d5a9ebe5b9ca9cc871385055dd6e96dc024da4f17309d9b49715d18db", func := "idiom/idiomlaw03.RoundSteps", spec := "roundSteps", apart := false }
def RoundStepsSaid : Prop := roundStepsRow.holds Try.pinned (OpenSpec.ofChange roundStepsSpec)

/-- ITS FALSE NEIGHBOUR: 'it returns false'. Refute it at one input. -/
def roundStepsWrong : ChangeSpec := { name := "roundSteps", fn := fun _ => fun
  | [d1, d2, d3] => { results := [.lit (.bool false)], args := [d1, d2, d3] }
  | _ => none }
def RoundStepsWrongFalsely : Prop := roundStepsRow.holds Try.pinned (OpenSpec.ofChange roundStepsWrong)

/-- 'idiomlaw03.RoundNear': WHATEVER THE INPUT: true; the input reads as it did. -/
def roundNearSpec : ChangeSpec := { name := "roundNear", fn := fun _ => fun
  | [d1, d2, d3] => { results := [.lit (.bool true)], args := [d1, d2, d3] }
  | _ => none }
def roundNearRow : OpenClaim := { program := "ytmaljkjcibdbgaa", sum := "7766ad4d5a9ebe5b9ca9cc871385055dd6e96dc024da4f17309d9b49715d18db", func := "idiom/idiomlaw03.RoundNear", spec := "roundNear", apart := false }
def RoundNearSaid : Prop := roundNearRow.holds Try.pinned (OpenSpec.ofChange roundNearSpec)

/-- ITS FALSE NEIGHBOUR: 'it returns false'. Refute it at one input. -/
def roundNearWrong : ChangeSpec := { name := "roundNear", fn := fun _ => fun
  | [d1, d2, d3] => { results := [.lit (.bool false)], args := [d1, d2, d3] }
  | _ => none }
def RoundNearWrongFalsely : Prop := roundNearRow.holds Try.pinned (OpenSpec.ofChange roundNearWrong)

/-- 'idiomlaw03.RoundAgain': WHATEVER THE INPUT: true; the input reads as it did. -/
def roundAgainSpec : ChangeSpec := { name := "roundAgain", fn := fun _ => fun
  | [d1, d2, d3] => { results := [.lit (.bool true)], args := [d1, d2, d3] }
  | _ => none }
def roundAgainRow : OpenClaim := { program := "ytmaljkjcibdbgaa", sum := "7766ad4d5a9ebe5b9ca9cc871385055dd6e96dc024da4f17309d9b49715d18db", func := "idiom/idiomlaw03.RoundAgain", spec := "roundAgain", apart := false }
def RoundAgainSaid : Prop := roundAgainRow.holds Try.pinned (OpenSpec.ofChange roundAgainSpec)

/-- ITS FALSE NEIGHBOUR: 'it returns false'. Refute it at one input. -/
def roundAgainWrong : ChangeSpec := { name := "roundAgain", fn := fun _ => fun
  | [d1, d2, d3] => { results := [.lit (.bool false)], args := [d1, d2, d3] }
  | _ => none }
def RoundAgainWrongFalsely : Prop := roundAgainRow.holds Try.pinned (OpenSpec.ofChange roundAgainWrong)

/- THE SECOND FORM. 'bulk': how many values and letters a reading holds, each counted each time it is reached (what is shared counts as often as it is met; a slice's spare places count too). A statement '..UptoSaid' is the law's where the arguments, and the package variables that the reading takes, are together of bulk at most 1048576: NARROWER than '..Said'. Prove '..Said' where nothing that the law and all that it calls make is longer than what came in: it says more and counts as full. Else prove '..UptoSaid'. A law counts once. -/
mutual
def uptoBulk {H : Type} : DataW H → Nat
  | .lit (.string bytes) => bytes.length + 1
  | .lit _ => 1
  | .nil => 1
  | .ptr d => uptoBulk d + 1
  | .slice elems spare => uptoBulkAll elems + uptoBulkAll spare + 1
  | .agg parts => uptoBulkAll parts + 1
  | .iface _ d => uptoBulk d + 1
  | .map entries => uptoBulkEntries entries + 1
  | .held _ => 1
def uptoBulkAll {H : Type} : List (DataW H) → Nat
  | [] => 0
  | d :: r => uptoBulk d + uptoBulkAll r
def uptoBulkEntries {H : Type} : List (Lit × DataW H) → Nat
  | [] => 0
  | x :: r => uptoBulkEntry x + uptoBulkEntries r
def uptoBulkEntry {H : Type} : Lit × DataW H → Nat
  | (.string bytes, d) => bytes.length + uptoBulk d + 1
  | (_, d) => uptoBulk d + 1
 end
def uptoSmall : (H : Type) → List (DataW H) → Bool := fun _ ds => decide (uptoBulkAll ds ≤ 1048576)
def OpenSpec.upto (s : _root_.Go.ChangeSpec) : _root_.Go.OpenSpec := { _root_.Go.OpenSpec.ofChange s with cond := some uptoSmall }

/-- 'idiomlaw02.DecimalReads', WHERE WHAT IT READS IS OF BULK AT MOST 1048576: true; the input reads as it did. -/
def decimalReadsUptoRow : OpenClaim := { program := "ytmaljkjcibdbgaa", sum := "7766ad4d5a9ebe5b9ca9cc871385055dd6e96dc024da4f17309d9b49715d18db", func := "idiom/idiomlaw02.DecimalReads", spec := "decimalReads", apart := false, narrowed := true }
def DecimalReadsUptoSaid : Prop := decimalReadsUptoRow.holds Try.pinned (OpenSpec.upto decimalReadsSpec)

/-- 'idiomlaw02.DecimalSums', WHERE WHAT IT READS IS OF BULK AT MOST 1048576: true; the input reads as it did. -/
def decimalSumsUptoRow : OpenClaim := { program := "ytmaljkjcibdbgaa", sum := "7766ad4d5a9ebe5b9ca9cc871385055dd6e96dc024da4f17309d9b49715d18db", func := "idiom/idiomlaw02.DecimalSums", spec := "decimalSums", apart := false, narrowed := true }
def DecimalSumsUptoSaid : Prop := decimalSumsUptoRow.holds Try.pinned (OpenSpec.upto decimalSumsSpec)

/-- 'idiomlaw02.DecimalDivides', WHERE WHAT IT READS IS OF BULK AT MOST 1048576: true; the input reads as it did. -/
def decimalDividesUptoRow : OpenClaim := { program := "ytmaljkjcibdbgaa", sum := "7766ad4d5a9ebe5b9ca9cc871385055dd6e96dc024da4f17309d9b49715d18db", func := "idiom/idiomlaw02.DecimalDivides", spec := "decimalDivides", apart := false, narrowed := true }
def DecimalDividesUptoSaid : Prop := decimalDividesUptoRow.holds Try.pinned (OpenSpec.upto decimalDividesSpec)

/-- 'idiomlaw02.DecimalRest', WHERE WHAT IT READS IS OF BULK AT MOST 1048576: true; the input reads as it did. -/
def decimalRestUptoRow : OpenClaim := { program := "ytmaljkjcibdbgaa", sum := "7766ad4d5a9ebe5b9ca9cc871385055dd6e96dc024da4f17309d9b49715d18db", func := "idiom/idiomlaw02.DecimalRest", spec := "decimalRest", apart := false, narrowed := true }
def DecimalRestUptoSaid : Prop := decimalRestUptoRow.holds Try.pinned (OpenSpec.upto decimalRestSpec)

/-- 'idiomlaw03.RoundPlaces', WHERE WHAT IT READS IS OF BULK AT MOST 1048576: true; the input reads as it did. -/
def roundPlacesUptoRow : OpenClaim := { program := "ytmaljkjcibdbgaa", sum := "7766ad4d5a9ebe5b9ca9cc871385055dd6e96dc024da4f17309d9b49715d18db", func := "idiom/idiomlaw03.RoundPlaces", spec := "roundPlaces", apart := false, narrowed := true }
def RoundPlacesUptoSaid : Prop := roundPlacesUptoRow.holds Try.pinned (OpenSpec.upto roundPlacesSpec)

/-- 'idiomlaw03.RoundFixes', WHERE WHAT IT READS IS OF BULK AT MOST 1048576: true; the input reads as it did. -/
def roundFixesUptoRow : OpenClaim := { program := "ytmaljkjcibdbgaa", sum := "7766ad4d5a9ebe5b9ca9cc871385055dd6e96dc024da4f17309d9b49715d18db", func := "idiom/idiomlaw03.RoundFixes", spec := "roundFixes", apart := false, narrowed := true }
def RoundFixesUptoSaid : Prop := roundFixesUptoRow.holds Try.pinned (OpenSpec.upto roundFixesSpec)

/-- 'idiomlaw03.RoundDigits', WHERE WHAT IT READS IS OF BULK AT MOST 1048576: true; the input reads as it did. -/
def roundDigitsUptoRow : OpenClaim := { program := "ytmaljkjcibdbgaa", sum := "7766ad4d5a9ebe5b9ca9cc871385055dd6e96dc024da4f17309d9b49715d18db", func := "idiom/idiomlaw03.RoundDigits", spec := "roundDigits", apart := false, narrowed := true }
def RoundDigitsUptoSaid : Prop := roundDigitsUptoRow.holds Try.pinned (OpenSpec.upto roundDigitsSpec)

/-- 'idiomlaw03.RoundSteps', WHERE WHAT IT READS IS OF BULK AT MOST 1048576: true; the input reads as it did. -/
def roundStepsUptoRow : OpenClaim := { program := "ytmaljkjcibdbgaa", sum := "7766ad4d5a9ebe5b9ca9cc871385055dd6e96dc024da4f17309d9b49715d18db", func := "idiom/idiomlaw03.RoundSteps", spec := "roundSteps", apart := false, narrowed := true }
def RoundStepsUptoSaid : Prop := roundStepsUptoRow.holds Try.pinned (OpenSpec.upto roundStepsSpec)

/-- 'idiomlaw03.RoundNear', WHERE WHAT IT READS IS OF BULK AT MOST 1048576: true; the input reads as it did. -/
def roundNearUptoRow : OpenClaim := { program := "ytmaljkjcibdbgaa", sum := "7766ad4d5a9ebe5b9ca9cc871385055dd6e96dc024da4f17309d9b49715d18db", func := "idiom/idiomlaw03.RoundNear", spec := "roundNear", apart := false, narrowed := true }
def RoundNearUptoSaid : Prop := roundNearUptoRow.holds Try.pinned (OpenSpec.upto roundNearSpec)

/-- 'idiomlaw03.RoundAgain', WHERE WHAT IT READS IS OF BULK AT MOST 1048576: true; the input reads as it did. -/
def roundAgainUptoRow : OpenClaim := { program := "ytmaljkjcibdbgaa", sum := "7766ad4d5a9ebe5b9ca9cc871385055dd6e96dc024da4f17309d9b49715d18db", func := "idiom/idiomlaw03.RoundAgain", spec := "roundAgain", apart := false, narrowed := true }
def RoundAgainUptoSaid : Prop := roundAgainUptoRow.holds Try.pinned (OpenSpec.upto roundAgainSpec)

end Rows
end Go.Proofs.Ytmaljkjcibdbgaa
