/-
  No cell of these rows narrows 'for every input' (looked for: loops, veiled, ifaces, maps, wideKeys, modest, calm, conditions, laid).
  DERIVED. THE GIVEN ROWS OF THIS SEAT. 10 by the template 'for every input the law returns true; each argument reads behind the call as it read before'; 0 by the template 'total and deterministic' (their statements: YtcdmanhhddcmcaaTotals.lean).
  GIVEN WITH THE SEED: the statements are not yours to turn. If you find one false, say at which input.
  Laid BY PROGRAM, IN A SANDBOX (cutbox-rows.mjs): the forced cells as the released guide's own fill.sh prints them over the translation 68bd9245f86efed2… (all of the seat's roots in one cut). By AI agents, Wed Nov 11 2026. No macro, syntax, notation, axiom, sorry.
-/
import Derived.Test.YtcdmanhhddcmcaaChecked
import GoSem.Claim
import GoSem.ClaimJoined
import GoSem.ClaimMapViews
import Derived.JoinedTies
import Derived.KernelRfl
namespace Go.Proofs.Ytcdmanhhddcmcaa
/- THE CELL 'sum', in the pinned program and in every row, IS THE sha256 OF THE DUMP (.gsa) THAT YtcdmanhhddcmcaaProg.lean LOADS. Nothing in Lean hashes anything: it is a label: what it is worth is what the hold of that sum in a sandbox is worth. -/
noncomputable def Try.pinned : Pinned := { name := "ytcdmanhhddcmcaa", sum := "68bd9245f86efed20aa03be0d6b624d525e7f648ce598b3a8b7648fdafdf94f2", checked := Try.checked }
namespace Rows
def none {H : Type} : Left H := { results := [], args := [] }

/-- 'idiomlaw04.OperandMakes': WHATEVER THE INPUT: true; the input reads as it did. -/
def operandMakesSpec : ChangeSpec := { name := "operandMakes", fn := fun _ => fun
  | [d1, d2, d3] => { results := [.lit (.bool true)], args := [d1, d2, d3] }
  | _ => none }
def operandMakesRow : OpenClaim := { program := "ytcdmanhhddcmcaa", sum := "68bd9245f86efed20aa03be0d6b624d525e7f648ce598b3a8b7648fdafdf94f2", func := "idiom/idiomlaw04.OperandMakes", spec := "operandMakes", apart := false }
def OperandMakesSaid : Prop := operandMakesRow.holds Try.pinned (OpenSpec.ofChange operandMakesSpec)

/-- ITS FALSE NEIGHBOUR: 'it returns false'. Refute it at one input. -/
def operandMakesWrong : ChangeSpec := { name := "operandMakes", fn := fun _ => fun
  | [d1, d2, d3] => { results := [.lit (.bool false)], args := [d1, d2, d3] }
  | _ => none }
def OperandMakesWrongFalsely : Prop := operandMakesRow.holds Try.pinned (OpenSpec.ofChange operandMakesWrong)

/-- 'idiomlaw04.OperandSame': WHATEVER THE INPUT: true; the input reads as it did. -/
def operandSameSpec : ChangeSpec := { name := "operandSame", fn := fun _ => fun
  | [d1, d2] => { results := [.lit (.bool true)], args := [d1, d2] }
  | _ => none }
def operandSameRow : OpenClaim := { program := "ytcdmanhhddcmcaa", sum := "68bd9245f86efed20aa03be0d6b624d525e7f648ce598b3a8b7648fdafdf94f2", func := "idiom/idiomlaw04.OperandSame", spec := "operandSame", apart := false }
def OperandSameSaid : Prop := operandSameRow.holds Try.pinned (OpenSpec.ofChange operandSameSpec)

/-- ITS FALSE NEIGHBOUR: 'it returns false'. Refute it at one input. -/
def operandSameWrong : ChangeSpec := { name := "operandSame", fn := fun _ => fun
  | [d1, d2] => { results := [.lit (.bool false)], args := [d1, d2] }
  | _ => none }
def OperandSameWrongFalsely : Prop := operandSameRow.holds Try.pinned (OpenSpec.ofChange operandSameWrong)

/-- 'idiomlaw04.OperandParts': WHATEVER THE INPUT: true; the input reads as it did. -/
def operandPartsSpec : ChangeSpec := { name := "operandParts", fn := fun _ => fun
  | [d1, d2] => { results := [.lit (.bool true)], args := [d1, d2] }
  | _ => none }
def operandPartsRow : OpenClaim := { program := "ytcdmanhhddcmcaa", sum := "68bd9245f86efed20aa03be0d6b624d525e7f648ce598b3a8b7648fdafdf94f2", func := "idiom/idiomlaw04.OperandParts", spec := "operandParts", apart := false }
def OperandPartsSaid : Prop := operandPartsRow.holds Try.pinned (OpenSpec.ofChange operandPartsSpec)

/-- ITS FALSE NEIGHBOUR: 'it returns false'. Refute it at one input. -/
def operandPartsWrong : ChangeSpec := { name := "operandParts", fn := fun _ => fun
  | [d1, d2] => { results := [.lit (.bool false)], args := [d1, d2] }
  | _ => none }
def OperandPartsWrongFalsely : Prop := operandPartsRow.holds Try.pinned (OpenSpec.ofChange operandPartsWrong)

/-- 'idiomlaw04.OperandNoughts': WHATEVER THE INPUT: true; the input reads as it did. -/
def operandNoughtsSpec : ChangeSpec := { name := "operandNoughts", fn := fun _ => fun
  | [d1, d2] => { results := [.lit (.bool true)], args := [d1, d2] }
  | _ => none }
def operandNoughtsRow : OpenClaim := { program := "ytcdmanhhddcmcaa", sum := "68bd9245f86efed20aa03be0d6b624d525e7f648ce598b3a8b7648fdafdf94f2", func := "idiom/idiomlaw04.OperandNoughts", spec := "operandNoughts", apart := false }
def OperandNoughtsSaid : Prop := operandNoughtsRow.holds Try.pinned (OpenSpec.ofChange operandNoughtsSpec)

/-- ITS FALSE NEIGHBOUR: 'it returns false'. Refute it at one input. -/
def operandNoughtsWrong : ChangeSpec := { name := "operandNoughts", fn := fun _ => fun
  | [d1, d2] => { results := [.lit (.bool false)], args := [d1, d2] }
  | _ => none }
def OperandNoughtsWrongFalsely : Prop := operandNoughtsRow.holds Try.pinned (OpenSpec.ofChange operandNoughtsWrong)

/-- 'idiomlaw04.OperandLists': WHATEVER THE INPUT: true; the input reads as it did. -/
def operandListsSpec : ChangeSpec := { name := "operandLists", fn := fun _ => fun
  | [d1, d2] => { results := [.lit (.bool true)], args := [d1, d2] }
  | _ => none }
def operandListsRow : OpenClaim := { program := "ytcdmanhhddcmcaa", sum := "68bd9245f86efed20aa03be0d6b624d525e7f648ce598b3a8b7648fdafdf94f2", func := "idiom/idiomlaw04.OperandLists", spec := "operandLists", apart := false }
def OperandListsSaid : Prop := operandListsRow.holds Try.pinned (OpenSpec.ofChange operandListsSpec)

/-- ITS FALSE NEIGHBOUR: 'it returns false'. Refute it at one input. -/
def operandListsWrong : ChangeSpec := { name := "operandLists", fn := fun _ => fun
  | [d1, d2] => { results := [.lit (.bool false)], args := [d1, d2] }
  | _ => none }
def OperandListsWrongFalsely : Prop := operandListsRow.holds Try.pinned (OpenSpec.ofChange operandListsWrong)

/-- 'idiomlaw04.OperandWhole': WHATEVER THE INPUT: true; the input reads as it did. -/
def operandWholeSpec : ChangeSpec := { name := "operandWhole", fn := fun _ => fun
  | [d] => { results := [.lit (.bool true)], args := [d] }
  | _ => none }
def operandWholeRow : OpenClaim := { program := "ytcdmanhhddcmcaa", sum := "68bd9245f86efed20aa03be0d6b624d525e7f648ce598b3a8b7648fdafdf94f2", func := "idiom/idiomlaw04.OperandWhole", spec := "operandWhole", apart := false }
def OperandWholeSaid : Prop := operandWholeRow.holds Try.pinned (OpenSpec.ofChange operandWholeSpec)

/-- ITS FALSE NEIGHBOUR: 'it returns false'. Refute it at one input. -/
def operandWholeWrong : ChangeSpec := { name := "operandWhole", fn := fun _ => fun
  | [d] => { results := [.lit (.bool false)], args := [d] }
  | _ => none }
def OperandWholeWrongFalsely : Prop := operandWholeRow.holds Try.pinned (OpenSpec.ofChange operandWholeWrong)

/-- 'idiomlaw04.OperandLost': WHATEVER THE INPUT: true; the input reads as it did. -/
def operandLostSpec : ChangeSpec := { name := "operandLost", fn := fun _ => fun
  | [d1, d2, d3, d4] => { results := [.lit (.bool true)], args := [d1, d2, d3, d4] }
  | _ => none }
def operandLostRow : OpenClaim := { program := "ytcdmanhhddcmcaa", sum := "68bd9245f86efed20aa03be0d6b624d525e7f648ce598b3a8b7648fdafdf94f2", func := "idiom/idiomlaw04.OperandLost", spec := "operandLost", apart := false }
def OperandLostSaid : Prop := operandLostRow.holds Try.pinned (OpenSpec.ofChange operandLostSpec)

/-- ITS FALSE NEIGHBOUR: 'it returns false'. Refute it at one input. -/
def operandLostWrong : ChangeSpec := { name := "operandLost", fn := fun _ => fun
  | [d1, d2, d3, d4] => { results := [.lit (.bool false)], args := [d1, d2, d3, d4] }
  | _ => none }
def OperandLostWrongFalsely : Prop := operandLostRow.holds Try.pinned (OpenSpec.ofChange operandLostWrong)

/-- 'idiomlaw03.RoundDigits': WHATEVER THE INPUT: true; the input reads as it did. -/
def roundDigitsSpec : ChangeSpec := { name := "roundDigits", fn := fun _ => fun
  | [d1, d2, d3] => { results := [.lit (.bool true)], args := [d1, d2, d3] }
  | _ => none }
def roundDigitsRow : OpenClaim := { program := "ytcdmanhhddcmcaa", sum := "68bd9245f86efed20aa03be0d6b624d525e7f648ce598b3a8b7648fdafdf94f2", func := "idiom/idiomlaw03.RoundDigits", spec := "roundDigits", apart := false }
def RoundDigitsSaid : Prop := roundDigitsRow.holds Try.pinned (OpenSpec.ofChange roundDigitsSpec)

/-- ITS FALSE NEIGHBOUR: 'it returns false'. Refute it at one input. -/
def roundDigitsWrong : ChangeSpec := { name := "roundDigits", fn := fun _ => fun
  | [d1, d2, d3] => { results := [.lit (.bool false)], args := [d1, d2, d3] }
  | _ => none }
def RoundDigitsWrongFalsely : Prop := roundDigitsRow.holds Try.pinned (OpenSpec.ofChange roundDigitsWrong)

/-- 'idiomlaw03.RoundAgain': WHATEVER THE INPUT: true; the input reads as it did. -/
def roundAgainSpec : ChangeSpec := { name := "roundAgain", fn := fun _ => fun
  | [d1, d2, d3] => { results := [.lit (.bool true)], args := [d1, d2, d3] }
  | _ => none }
def roundAgainRow : OpenClaim := { program := "ytcdmanhhddcmcaa", sum := "68bd9245f86efed20aa03be0d6b624d525e7f648ce598b3a8b7648fdafdf94f2", func := "idiom/idiomlaw03.RoundAgain", spec := "roundAgain", apart := false }
def RoundAgainSaid : Prop := roundAgainRow.holds Try.pinned (OpenSpec.ofChange roundAgainSpec)

/-- ITS FALSE NEIGHBOUR: 'it returns false'. Refute it at one input. -/
def roundAgainWrong : ChangeSpec := { name := "roundAgain", fn := fun _ => fun
  | [d1, d2, d3] => { results := [.lit (.bool false)], args := [d1, d2, d3] }
  | _ => none }
def RoundAgainWrongFalsely : Prop := roundAgainRow.holds Try.pinned (OpenSpec.ofChange roundAgainWrong)

/-- 'idiomlaw03.RoundModes': WHATEVER THE INPUT: true; the input reads as it did. -/
def roundModesSpec : ChangeSpec := { name := "roundModes", fn := fun _ => fun
  | [d1, d2] => { results := [.lit (.bool true)], args := [d1, d2] }
  | _ => none }
def roundModesRow : OpenClaim := { program := "ytcdmanhhddcmcaa", sum := "68bd9245f86efed20aa03be0d6b624d525e7f648ce598b3a8b7648fdafdf94f2", func := "idiom/idiomlaw03.RoundModes", spec := "roundModes", apart := false }
def RoundModesSaid : Prop := roundModesRow.holds Try.pinned (OpenSpec.ofChange roundModesSpec)

/-- ITS FALSE NEIGHBOUR: 'it returns false'. Refute it at one input. -/
def roundModesWrong : ChangeSpec := { name := "roundModes", fn := fun _ => fun
  | [d1, d2] => { results := [.lit (.bool false)], args := [d1, d2] }
  | _ => none }
def RoundModesWrongFalsely : Prop := roundModesRow.holds Try.pinned (OpenSpec.ofChange roundModesWrong)

/- THE SECOND FORM. 'bulk': how many values and letters a reading holds, each counted each time it is reached (what is shared counts as often as it is met; a slice's spare places count too). A statement '..UptoSaid' is the law's where the arguments, and the package variables that the reading takes, are together of bulk at most 1048576: NARROWER than '..Said'. Prove '..Said' where nothing that the law and all that it calls make is longer than what came in: it says more and counts as full. Else prove '..UptoSaid'. A law counts once. -/
mutual
def uptoBulk {H : Type} : DataW H → Nat
  | .lit (.string bytes) => bytes.length + 1
  | .lit _ => 1
  | .nil => 1
  | .ptr d => uptoBulk d + 1
  | .slice elems spare => uptoBulkAll elems + uptoBulkAll spare + 1
  | .agg parts => uptoBulkAll parts + 1
  | .iface _ d => uptoBulk d + 1
  | .map entries => uptoBulkEntries entries + 1
  | .held _ => 1
def uptoBulkAll {H : Type} : List (DataW H) → Nat
  | [] => 0
  | d :: r => uptoBulk d + uptoBulkAll r
def uptoBulkEntries {H : Type} : List (Lit × DataW H) → Nat
  | [] => 0
  | x :: r => uptoBulkEntry x + uptoBulkEntries r
def uptoBulkEntry {H : Type} : Lit × DataW H → Nat
  | (.string bytes, d) => bytes.length + uptoBulk d + 1
  | (_, d) => uptoBulk d + 1
 end
def uptoSmall : (H : Type) → List (DataW H) → Bool := fun _ ds => decide (uptoBulkAll ds ≤ 1048576)
def OpenSpec.upto (s : _root_.Go.ChangeSpec) : _root_.Go.OpenSpec := { _root_.Go.OpenSpec.ofChange s with cond := some uptoSmall }

/-- 'idiomlaw04.OperandMakes', WHERE WHAT IT READS IS OF BULK AT MOST 1048576: true; the input reads as it did. -/
def operandMakesUptoRow : OpenClaim := { program := "ytcdmanhhddcmcaa", sum := "68bd9245f86efed20aa03be0d6b624d525e7f648ce598b3a8b7648fdafdf94f2", func := "idiom/idiomlaw04.OperandMakes", spec := "operandMakes", apart := false, narrowed := true }
def OperandMakesUptoSaid : Prop := operandMakesUptoRow.holds Try.pinned (OpenSpec.upto operandMakesSpec)

/-- 'idiomlaw04.OperandSame', WHERE WHAT IT READS IS OF BULK AT MOST 1048576: true; the input reads as it did. -/
def operandSameUptoRow : OpenClaim := { program := "ytcdmanhhddcmcaa", sum := "68bd9245f86efed20aa03be0d6b624d525e7f648ce598b3a8b7648fdafdf94f2", func := "idiom/idiomlaw04.OperandSame", spec := "operandSame", apart := false, narrowed := true }
def OperandSameUptoSaid : Prop := operandSameUptoRow.holds Try.pinned (OpenSpec.upto operandSameSpec)

/-- 'idiomlaw04.OperandParts', WHERE WHAT IT READS IS OF BULK AT MOST 1048576: true; the input reads as it did. -/
def operandPartsUptoRow : OpenClaim := { program := "ytcdmanhhddcmcaa", sum := "68bd9245f86efed20aa03be0d6b624d525e7f648ce598b3a8b7648fdafdf94f2", func := "idiom/idiomlaw04.OperandParts", spec := "operandParts", apart := false, narrowed := true }
def OperandPartsUptoSaid : Prop := operandPartsUptoRow.holds Try.pinned (OpenSpec.upto operandPartsSpec)

/-- 'idiomlaw04.OperandNoughts', WHERE WHAT IT READS IS OF BULK AT MOST 1048576: true; the input reads as it did. -/
def operandNoughtsUptoRow : OpenClaim := { program := "ytcdmanhhddcmcaa", sum := "68bd9245f86efed20aa03be0d6b624d525e7f648ce598b3a8b7648fdafdf94f2", func := "idiom/idiomlaw04.OperandNoughts", spec := "operandNoughts", apart := false, narrowed := true }
def OperandNoughtsUptoSaid : Prop := operandNoughtsUptoRow.holds Try.pinned (OpenSpec.upto operandNoughtsSpec)

/-- 'idiomlaw04.OperandLists', WHERE WHAT IT READS IS OF BULK AT MOST 1048576: true; the input reads as it did. -/
def operandListsUptoRow : OpenClaim := { program := "ytcdmanhhddcmcaa", sum := "68bd9245f86efed20aa03be0d6b624d525e7f648ce598b3a8b7648fdafdf94f2", func := "idiom/idiomlaw04.OperandLists", spec := "operandLists", apart := false, narrowed := true }
def OperandListsUptoSaid : Prop := operandListsUptoRow.holds Try.pinned (OpenSpec.upto operandListsSpec)

/-- 'idiomlaw04.OperandWhole', WHERE WHAT IT READS IS OF BULK AT MOST 1048576: true; the input reads as it did. -/
def operandWholeUptoRow : OpenClaim := { program := "ytcdmanhhddcmcaa", sum := "68bd9245f86efed20aa03be0d6b624d525e7f648ce598b3a8b7648fdafdf94f2", func := "idiom/idiomlaw04.OperandWhole", spec := "operandWhole", apart := false, narrowed := true }
def OperandWholeUptoSaid : Prop := operandWholeUptoRow.holds Try.pinned (OpenSpec.upto operandWholeSpec)

/-- 'idiomlaw04.OperandLost', WHERE WHAT IT READS IS OF BULK AT MOST 1048576: true; the input reads as it did. -/
def operandLostUptoRow : OpenClaim := { program := "ytcdmanhhddcmcaa", sum := "68bd9245f86efed20aa03be0d6b624d525e7f648ce598b3a8b7648fdafdf94f2", func := "idiom/idiomlaw04.OperandLost", spec := "operandLost", apart := false, narrowed := true }
def OperandLostUptoSaid : Prop := operandLostUptoRow.holds Try.pinned (OpenSpec.upto operandLostSpec)

/-- 'idiomlaw03.RoundDigits', WHERE WHAT IT READS IS OF BULK AT MOST 1048576: true; the input reads as it did. -/
def roundDigitsUptoRow : OpenClaim := { program := "ytcdmanhhddcmcaa", sum := "68bd9245f86efed20aa03be0d6b624d525e7f648ce598b3a8b7648fdafdf94f2", func := "idiom/idiomlaw03.RoundDigits", spec := "roundDigits", apart := false, narrowed := true }
def RoundDigitsUptoSaid : Prop := roundDigitsUptoRow.holds Try.pinned (OpenSpec.upto roundDigitsSpec)

/-- 'idiomlaw03.RoundAgain', WHERE WHAT IT READS IS OF BULK AT MOST 1048576: true; the input reads as it did. -/
def roundAgainUptoRow : OpenClaim := { program := "ytcdmanhhddcmcaa", sum := "68bd9245f86efed20aa03be0d6b624d525e7f648ce598b3a8b7648fdafdf94f2", func := "idiom/idiomlaw03.RoundAgain", spec := "roundAgain", apart := false, narrowed := true }
def RoundAgainUptoSaid : Prop := roundAgainUptoRow.holds Try.pinned (OpenSpec.upto roundAgainSpec)

/-- 'idiomlaw03.RoundModes', WHERE WHAT IT READS IS OF BULK AT MOST 1048576: true; the input reads as it did. -/
def roundModesUptoRow : OpenClaim := { program := "ytcdmanhhddcmcaa", sum := "68bd9245f86efed20aa03be0d6b624d525e7f648ce598b3a8b7648fdafdf94f2", func := "idiom/idiomlaw03.RoundModes", spec := "roundModes", apart := false, narrowed := true }
def RoundModesUptoSaid : Prop := roundModesUptoRow.holds Try.pinned (OpenSpec.upto roundModesSpec)

end Rows
end Go.Proofs.Ytcdmanhhddcmcaa
