/-
  No cell of these rows narrows 'for every input' (looked for: loops, veiled, ifaces, maps, wideKeys, modest, calm, conditions, laid).
  DERIVED. THE GIVEN ROWS OF THIS SEAT. 11 by the template 'for every input the law returns true; each argument reads behind the call as it read before'; 0 by the template 'total and deterministic' (their statements: YtohppejblbeemaaTotals.lean).
  GIVEN WITH THE SEED: the statements are not yours to turn. If you find one false, say at which input.
  Laid BY PROGRAM, IN A SANDBOX (cutbox-rows.mjs): the forced cells as the released guide's own fill.sh prints them over the translation 92420ffc2e6bfbe0… (all of the seat's roots in one cut). By AI agents, Wed Nov 11 2026. No macro, syntax, notation, axiom, sorry.
-/
import Derived.Test.YtohppejblbeemaaChecked
import GoSem.Claim
import GoSem.ClaimJoined
import GoSem.ClaimMapViews
import Derived.JoinedTies
import Derived.KernelRfl
namespace Go.Proofs.Ytohppejblbeemaa
/- THE CELL 'sum', in the pinned program and in every row, IS THE sha256 OF THE DUMP (.gsa) THAT YtohppejblbeemaaProg.lean LOADS. Nothing in Lean hashes anything: it is a label: what it is worth is what the hold of that sum in a sandbox is worth. -/
noncomputable def Try.pinned : Pinned := { name := "ytohppejblbeemaa", sum := "92420ffc2e6bfbe045b8a9bd2b70ca3c276e63258279936a2b2a164deaf8c157", checked := Try.checked }
namespace Rows
def none {H : Type} : Left H := { results := [], args := [] }

/-- 'idiomlaw02.DecimalChecks': WHATEVER THE INPUT: true; the input reads as it did. -/
def decimalChecksSpec : ChangeSpec := { name := "decimalChecks", fn := fun _ => fun
  | [d] => { results := [.lit (.bool true)], args := [d] }
  | _ => none }
def decimalChecksRow : OpenClaim := { program := "ytohppejblbeemaa", sum := "92420ffc2e6bfbe045b8a9bd2b70ca3c276e63258279936a2b2a164deaf8c157", func := "idiom/idiomlaw02.DecimalChecks", spec := "decimalChecks", apart := false }
def DecimalChecksSaid : Prop := decimalChecksRow.holds Try.pinned (OpenSpec.ofChange decimalChecksSpec)

/-- ITS FALSE NEIGHBOUR: 'it returns false'. Refute it at one input. -/
def decimalChecksWrong : ChangeSpec := { name := "decimalChecks", fn := fun _ => fun
  | [d] => { results := [.lit (.bool false)], args := [d] }
  | _ => none }
def DecimalChecksWrongFalsely : Prop := decimalChecksRow.holds Try.pinned (OpenSpec.ofChange decimalChecksWrong)

/-- 'idiomlaw02.DecimalReads': WHATEVER THE INPUT: true; the input reads as it did. -/
def decimalReadsSpec : ChangeSpec := { name := "decimalReads", fn := fun _ => fun
  | [d] => { results := [.lit (.bool true)], args := [d] }
  | _ => none }
def decimalReadsRow : OpenClaim := { program := "ytohppejblbeemaa", sum := "92420ffc2e6bfbe045b8a9bd2b70ca3c276e63258279936a2b2a164deaf8c157", func := "idiom/idiomlaw02.DecimalReads", spec := "decimalReads", apart := false }
def DecimalReadsSaid : Prop := decimalReadsRow.holds Try.pinned (OpenSpec.ofChange decimalReadsSpec)

/-- ITS FALSE NEIGHBOUR: 'it returns false'. Refute it at one input. -/
def decimalReadsWrong : ChangeSpec := { name := "decimalReads", fn := fun _ => fun
  | [d] => { results := [.lit (.bool false)], args := [d] }
  | _ => none }
def DecimalReadsWrongFalsely : Prop := decimalReadsRow.holds Try.pinned (OpenSpec.ofChange decimalReadsWrong)

/-- 'idiomlaw02.DecimalSums': WHATEVER THE INPUT: true; the input reads as it did. -/
def decimalSumsSpec : ChangeSpec := { name := "decimalSums", fn := fun _ => fun
  | [d1, d2] => { results := [.lit (.bool true)], args := [d1, d2] }
  | _ => none }
def decimalSumsRow : OpenClaim := { program := "ytohppejblbeemaa", sum := "92420ffc2e6bfbe045b8a9bd2b70ca3c276e63258279936a2b2a164deaf8c157", func := "idiom/idiomlaw02.DecimalSums", spec := "decimalSums", apart := false }
def DecimalSumsSaid : Prop := decimalSumsRow.holds Try.pinned (OpenSpec.ofChange decimalSumsSpec)

/-- ITS FALSE NEIGHBOUR: 'it returns false'. Refute it at one input. -/
def decimalSumsWrong : ChangeSpec := { name := "decimalSums", fn := fun _ => fun
  | [d1, d2] => { results := [.lit (.bool false)], args := [d1, d2] }
  | _ => none }
def DecimalSumsWrongFalsely : Prop := decimalSumsRow.holds Try.pinned (OpenSpec.ofChange decimalSumsWrong)

/-- 'idiomlaw02.DecimalDivides': WHATEVER THE INPUT: true; the input reads as it did. -/
def decimalDividesSpec : ChangeSpec := { name := "decimalDivides", fn := fun _ => fun
  | [d1, d2] => { results := [.lit (.bool true)], args := [d1, d2] }
  | _ => none }
def decimalDividesRow : OpenClaim := { program := "ytohppejblbeemaa", sum := "92420ffc2e6bfbe045b8a9bd2b70ca3c276e63258279936a2b2a164deaf8c157", func := "idiom/idiomlaw02.DecimalDivides", spec := "decimalDivides", apart := false }
def DecimalDividesSaid : Prop := decimalDividesRow.holds Try.pinned (OpenSpec.ofChange decimalDividesSpec)

/-- ITS FALSE NEIGHBOUR: 'it returns false'. Refute it at one input. -/
def decimalDividesWrong : ChangeSpec := { name := "decimalDivides", fn := fun _ => fun
  | [d1, d2] => { results := [.lit (.bool false)], args := [d1, d2] }
  | _ => none }
def DecimalDividesWrongFalsely : Prop := decimalDividesRow.holds Try.pinned (OpenSpec.ofChange decimalDividesWrong)

/-- 'idiomlaw02.DecimalMoves': WHATEVER THE INPUT: true; the input reads as it did. -/
def decimalMovesSpec : ChangeSpec := { name := "decimalMoves", fn := fun _ => fun
  | [d1, d2] => { results := [.lit (.bool true)], args := [d1, d2] }
  | _ => none }
def decimalMovesRow : OpenClaim := { program := "ytohppejblbeemaa", sum := "92420ffc2e6bfbe045b8a9bd2b70ca3c276e63258279936a2b2a164deaf8c157", func := "idiom/idiomlaw02.DecimalMoves", spec := "decimalMoves", apart := false }
def DecimalMovesSaid : Prop := decimalMovesRow.holds Try.pinned (OpenSpec.ofChange decimalMovesSpec)

/-- ITS FALSE NEIGHBOUR: 'it returns false'. Refute it at one input. -/
def decimalMovesWrong : ChangeSpec := { name := "decimalMoves", fn := fun _ => fun
  | [d1, d2] => { results := [.lit (.bool false)], args := [d1, d2] }
  | _ => none }
def DecimalMovesWrongFalsely : Prop := decimalMovesRow.holds Try.pinned (OpenSpec.ofChange decimalMovesWrong)

/-- 'idiomlaw02.DecimalBack': WHATEVER THE INPUT: true; the input reads as it did. -/
def decimalBackSpec : ChangeSpec := { name := "decimalBack", fn := fun _ => fun
  | [d1, d2] => { results := [.lit (.bool true)], args := [d1, d2] }
  | _ => none }
def decimalBackRow : OpenClaim := { program := "ytohppejblbeemaa", sum := "92420ffc2e6bfbe045b8a9bd2b70ca3c276e63258279936a2b2a164deaf8c157", func := "idiom/idiomlaw02.DecimalBack", spec := "decimalBack", apart := false }
def DecimalBackSaid : Prop := decimalBackRow.holds Try.pinned (OpenSpec.ofChange decimalBackSpec)

/-- ITS FALSE NEIGHBOUR: 'it returns false'. Refute it at one input. -/
def decimalBackWrong : ChangeSpec := { name := "decimalBack", fn := fun _ => fun
  | [d1, d2] => { results := [.lit (.bool false)], args := [d1, d2] }
  | _ => none }
def DecimalBackWrongFalsely : Prop := decimalBackRow.holds Try.pinned (OpenSpec.ofChange decimalBackWrong)

/-- 'idiomlaw02.DecimalOrder': WHATEVER THE INPUT: true; the input reads as it did. -/
def decimalOrderSpec : ChangeSpec := { name := "decimalOrder", fn := fun _ => fun
  | [d1, d2, d3] => { results := [.lit (.bool true)], args := [d1, d2, d3] }
  | _ => none }
def decimalOrderRow : OpenClaim := { program := "ytohppejblbeemaa", sum := "92420ffc2e6bfbe045b8a9bd2b70ca3c276e63258279936a2b2a164deaf8c157", func := "idiom/idiomlaw02.DecimalOrder", spec := "decimalOrder", apart := false }
def DecimalOrderSaid : Prop := decimalOrderRow.holds Try.pinned (OpenSpec.ofChange decimalOrderSpec)

/-- ITS FALSE NEIGHBOUR: 'it returns false'. Refute it at one input. -/
def decimalOrderWrong : ChangeSpec := { name := "decimalOrder", fn := fun _ => fun
  | [d1, d2, d3] => { results := [.lit (.bool false)], args := [d1, d2, d3] }
  | _ => none }
def DecimalOrderWrongFalsely : Prop := decimalOrderRow.holds Try.pinned (OpenSpec.ofChange decimalOrderWrong)

/-- 'idiomlaw02.DecimalRing': WHATEVER THE INPUT: true; the input reads as it did. -/
def decimalRingSpec : ChangeSpec := { name := "decimalRing", fn := fun _ => fun
  | [d1, d2, d3] => { results := [.lit (.bool true)], args := [d1, d2, d3] }
  | _ => none }
def decimalRingRow : OpenClaim := { program := "ytohppejblbeemaa", sum := "92420ffc2e6bfbe045b8a9bd2b70ca3c276e63258279936a2b2a164deaf8c157", func := "idiom/idiomlaw02.DecimalRing", spec := "decimalRing", apart := false }
def DecimalRingSaid : Prop := decimalRingRow.holds Try.pinned (OpenSpec.ofChange decimalRingSpec)

/-- ITS FALSE NEIGHBOUR: 'it returns false'. Refute it at one input. -/
def decimalRingWrong : ChangeSpec := { name := "decimalRing", fn := fun _ => fun
  | [d1, d2, d3] => { results := [.lit (.bool false)], args := [d1, d2, d3] }
  | _ => none }
def DecimalRingWrongFalsely : Prop := decimalRingRow.holds Try.pinned (OpenSpec.ofChange decimalRingWrong)

/-- 'idiomlaw02.DecimalRest': WHATEVER THE INPUT: true; the input reads as it did. -/
def decimalRestSpec : ChangeSpec := { name := "decimalRest", fn := fun _ => fun
  | [d1, d2, d3] => { results := [.lit (.bool true)], args := [d1, d2, d3] }
  | _ => none }
def decimalRestRow : OpenClaim := { program := "ytohppejblbeemaa", sum := "92420ffc2e6bfbe045b8a9bd2b70ca3c276e63258279936a2b2a164deaf8c157", func := "idiom/idiomlaw02.DecimalRest", spec := "decimalRest", apart := false }
def DecimalRestSaid : Prop := decimalRestRow.holds Try.pinned (OpenSpec.ofChange decimalRestSpec)

/-- ITS FALSE NEIGHBOUR: 'it returns false'. Refute it at one input. -/
def decimalRestWrong : ChangeSpec := { name := "decimalRest", fn := fun _ => fun
  | [d1, d2, d3] => { results := [.lit (.bool false)], args := [d1, d2, d3] }
  | _ => none }
def DecimalRestWrongFalsely : Prop := decimalRestRow.holds Try.pinned (OpenSpec.ofChange decimalRestWrong)

/-- 'idiomlaw02.DecimalShifts': WHATEVER THE INPUT: true; the input reads as it did. -/
def decimalShiftsSpec : ChangeSpec := { name := "decimalShifts", fn := fun _ => fun
  | [d1, d2, d3] => { results := [.lit (.bool true)], args := [d1, d2, d3] }
  | _ => none }
def decimalShiftsRow : OpenClaim := { program := "ytohppejblbeemaa", sum := "92420ffc2e6bfbe045b8a9bd2b70ca3c276e63258279936a2b2a164deaf8c157", func := "idiom/idiomlaw02.DecimalShifts", spec := "decimalShifts", apart := false }
def DecimalShiftsSaid : Prop := decimalShiftsRow.holds Try.pinned (OpenSpec.ofChange decimalShiftsSpec)

/-- ITS FALSE NEIGHBOUR: 'it returns false'. Refute it at one input. -/
def decimalShiftsWrong : ChangeSpec := { name := "decimalShifts", fn := fun _ => fun
  | [d1, d2, d3] => { results := [.lit (.bool false)], args := [d1, d2, d3] }
  | _ => none }
def DecimalShiftsWrongFalsely : Prop := decimalShiftsRow.holds Try.pinned (OpenSpec.ofChange decimalShiftsWrong)

/-- 'idiomlaw02.DecimalInts': WHATEVER THE INPUT: true; the input reads as it did. -/
def decimalIntsSpec : ChangeSpec := { name := "decimalInts", fn := fun _ => fun
  | [d1, d2] => { results := [.lit (.bool true)], args := [d1, d2] }
  | _ => none }
def decimalIntsRow : OpenClaim := { program := "ytohppejblbeemaa", sum := "92420ffc2e6bfbe045b8a9bd2b70ca3c276e63258279936a2b2a164deaf8c157", func := "idiom/idiomlaw02.DecimalInts", spec := "decimalInts", apart := false }
def DecimalIntsSaid : Prop := decimalIntsRow.holds Try.pinned (OpenSpec.ofChange decimalIntsSpec)

/-- ITS FALSE NEIGHBOUR: 'it returns false'. Refute it at one input. -/
def decimalIntsWrong : ChangeSpec := { name := "decimalInts", fn := fun _ => fun
  | [d1, d2] => { results := [.lit (.bool false)], args := [d1, d2] }
  | _ => none }
def DecimalIntsWrongFalsely : Prop := decimalIntsRow.holds Try.pinned (OpenSpec.ofChange decimalIntsWrong)

/- THE SECOND FORM. 'bulk': how many values and letters a reading holds, each counted each time it is reached (what is shared counts as often as it is met; a slice's spare places count too). A statement '..UptoSaid' is the law's where the arguments, and the package variables that the reading takes, are together of bulk at most 1048576: NARROWER than '..Said'. Prove '..Said' where nothing that the law and all that it calls make is longer than what came in: it says more and counts as full. Else prove '..UptoSaid'. A law counts once. -/
mutual
def uptoBulk {H : Type} : DataW H → Nat
  | .lit (.string bytes) => bytes.length + 1
  | .lit _ => 1
  | .nil => 1
  | .ptr d => uptoBulk d + 1
  | .slice elems spare => uptoBulkAll elems + uptoBulkAll spare + 1
  | .agg parts => uptoBulkAll parts + 1
  | .iface _ d => uptoBulk d + 1
  | .map entries => uptoBulkEntries entries + 1
  | .held _ => 1
def uptoBulkAll {H : Type} : List (DataW H) → Nat
  | [] => 0
  | d :: r => uptoBulk d + uptoBulkAll r
def uptoBulkEntries {H : Type} : List (Lit × DataW H) → Nat
  | [] => 0
  | x :: r => uptoBulkEntry x + uptoBulkEntries r
def uptoBulkEntry {H : Type} : Lit × DataW H → Nat
  | (.string bytes, d) => bytes.length + uptoBulk d + 1
  | (_, d) => uptoBulk d + 1
 end
def uptoSmall : (H : Type) → List (DataW H) → Bool := fun _ ds => decide (uptoBulkAll ds ≤ 1048576)
def OpenSpec.upto (s : _root_.Go.ChangeSpec) : _root_.Go.OpenSpec := { _root_.Go.OpenSpec.ofChange s with cond := some uptoSmall }

/-- 'idiomlaw02.DecimalChecks', WHERE WHAT IT READS IS OF BULK AT MOST 1048576: true; the input reads as it did. -/
def decimalChecksUptoRow : OpenClaim := { program := "ytohppejblbeemaa", sum := "92420ffc2e6bfbe045b8a9bd2b70ca3c276e63258279936a2b2a164deaf8c157", func := "idiom/idiomlaw02.DecimalChecks", spec := "decimalChecks", apart := false, narrowed := true }
def DecimalChecksUptoSaid : Prop := decimalChecksUptoRow.holds Try.pinned (OpenSpec.upto decimalChecksSpec)

/-- 'idiomlaw02.DecimalReads', WHERE WHAT IT READS IS OF BULK AT MOST 1048576: true; the input reads as it did. -/
def decimalReadsUptoRow : OpenClaim := { program := "ytohppejblbeemaa", sum := "92420ffc2e6bfbe045b8a9bd2b70ca3c276e63258279936a2b2a164deaf8c157", func := "idiom/idiomlaw02.DecimalReads", spec := "decimalReads", apart := false, narrowed := true }
def DecimalReadsUptoSaid : Prop := decimalReadsUptoRow.holds Try.pinned (OpenSpec.upto decimalReadsSpec)

/-- 'idiomlaw02.DecimalSums', WHERE WHAT IT READS IS OF BULK AT MOST 1048576: true; the input reads as it did. -/
def decimalSumsUptoRow : OpenClaim := { program := "ytohppejblbeemaa", sum := "92420ffc2e6bfbe045b8a9bd2b70ca3c276e63258279936a2b2a164deaf8c157", func := "idiom/idiomlaw02.DecimalSums", spec := "decimalSums", apart := false, narrowed := true }
def DecimalSumsUptoSaid : Prop := decimalSumsUptoRow.holds Try.pinned (OpenSpec.upto decimalSumsSpec)

/-- 'idiomlaw02.DecimalDivides', WHERE WHAT IT READS IS OF BULK AT MOST 1048576: true; the input reads as it did. -/
def decimalDividesUptoRow : OpenClaim := { program := "ytohppejblbeemaa", sum := "92420ffc2e6bfbe045b8a9bd2b70ca3c276e63258279936a2b2a164deaf8c157", func := "idiom/idiomlaw02.DecimalDivides", spec := "decimalDivides", apart := false, narrowed := true }
def DecimalDividesUptoSaid : Prop := decimalDividesUptoRow.holds Try.pinned (OpenSpec.upto decimalDividesSpec)

/-- 'idiomlaw02.DecimalMoves', WHERE WHAT IT READS IS OF BULK AT MOST 1048576: true; the input reads as it did. -/
def decimalMovesUptoRow : OpenClaim := { program := "ytohppejblbeemaa", sum := "92420ffc2e6bfbe045b8a9bd2b70ca3c276e63258279936a2b2a164deaf8c157", func := "idiom/idiomlaw02.DecimalMoves", spec := "decimalMoves", apart := false, narrowed := true }
def DecimalMovesUptoSaid : Prop := decimalMovesUptoRow.holds Try.pinned (OpenSpec.upto decimalMovesSpec)

/-- 'idiomlaw02.DecimalBack', WHERE WHAT IT READS IS OF BULK AT MOST 1048576: true; the input reads as it did. -/
def decimalBackUptoRow : OpenClaim := { program := "ytohppejblbeemaa", sum := "92420ffc2e6bfbe045b8a9bd2b70ca3c276e63258279936a2b2a164deaf8c157", func := "idiom/idiomlaw02.DecimalBack", spec := "decimalBack", apart := false, narrowed := true }
def DecimalBackUptoSaid : Prop := decimalBackUptoRow.holds Try.pinned (OpenSpec.upto decimalBackSpec)

/-- 'idiomlaw02.DecimalOrder', WHERE WHAT IT READS IS OF BULK AT MOST 1048576: true; the input reads as it did. -/
def decimalOrderUptoRow : OpenClaim := { program := "ytohppejblbeemaa", sum := "92420ffc2e6bfbe045b8a9bd2b70ca3c276e63258279936a2b2a164deaf8c157", func := "idiom/idiomlaw02.DecimalOrder", spec := "decimalOrder", apart := false, narrowed := true }
def DecimalOrderUptoSaid : Prop := decimalOrderUptoRow.holds Try.pinned (OpenSpec.upto decimalOrderSpec)

/-- 'idiomlaw02.DecimalRing', WHERE WHAT IT READS IS OF BULK AT MOST 1048576: true; the input reads as it did. -/
def decimalRingUptoRow : OpenClaim := { program := "ytohppejblbeemaa", sum := "92420ffc2e6bfbe045b8a9bd2b70ca3c276e63258279936a2b2a164deaf8c157", func := "idiom/idiomlaw02.DecimalRing", spec := "decimalRing", apart := false, narrowed := true }
def DecimalRingUptoSaid : Prop := decimalRingUptoRow.holds Try.pinned (OpenSpec.upto decimalRingSpec)

/-- 'idiomlaw02.DecimalRest', WHERE WHAT IT READS IS OF BULK AT MOST 1048576: true; the input reads as it did. -/
def decimalRestUptoRow : OpenClaim := { program := "ytohppejblbeemaa", sum := "92420ffc2e6bfbe045b8a9bd2b70ca3c276e63258279936a2b2a164deaf8c157", func := "idiom/idiomlaw02.DecimalRest", spec := "decimalRest", apart := false, narrowed := true }
def DecimalRestUptoSaid : Prop := decimalRestUptoRow.holds Try.pinned (OpenSpec.upto decimalRestSpec)

/-- 'idiomlaw02.DecimalShifts', WHERE WHAT IT READS IS OF BULK AT MOST 1048576: true; the input reads as it did. -/
def decimalShiftsUptoRow : OpenClaim := { program := "ytohppejblbeemaa", sum := "92420ffc2e6bfbe045b8a9bd2b70ca3c276e63258279936a2b2a164deaf8c157", func := "idiom/idiomlaw02.DecimalShifts", spec := "decimalShifts", apart := false, narrowed := true }
def DecimalShiftsUptoSaid : Prop := decimalShiftsUptoRow.holds Try.pinned (OpenSpec.upto decimalShiftsSpec)

/-- 'idiomlaw02.DecimalInts', WHERE WHAT IT READS IS OF BULK AT MOST 1048576: true; the input reads as it did. -/
def decimalIntsUptoRow : OpenClaim := { program := "ytohppejblbeemaa", sum := "92420ffc2e6bfbe045b8a9bd2b70ca3c276e63258279936a2b2a164deaf8c157", func := "idiom/idiomlaw02.DecimalInts", spec := "decimalInts", apart := false, narrowed := true }
def DecimalIntsUptoSaid : Prop := decimalIntsUptoRow.holds Try.pinned (OpenSpec.upto decimalIntsSpec)

end Rows
end Go.Proofs.Ytohppejblbeemaa
