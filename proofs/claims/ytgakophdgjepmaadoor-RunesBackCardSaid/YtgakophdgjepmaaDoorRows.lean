/-
  NARROWER THAN 'FOR EVERY INPUT', by the rows' own cells (each row's printed sentence says how): RunesValid: laid · RunesKinds: laid · RunesIdents: laid · RunesTrims: laid · RunesEscapes: laid · RunesUnescapes: laid · RunesBack: laid · RunesRepairs: laid · RunesFills: laid.
  DERIVED. THE GIVEN ROWS OF THIS SEAT. 9 by the template 'for every input the law returns true; each argument reads behind the call as it read before'; 0 by the template 'total and deterministic' (their statements: YtgakophdgjepmaaDoorTotals.lean).
  GIVEN WITH THE SEED: the statements are not yours to turn. If you find one false, say at which input.
  Laid BY PROGRAM, IN A SANDBOX (cutbox-rows.mjs): the forced cells as the released guide's own fill.sh prints them over the translation 952709001a7dcd9d… (all of the seat's roots in one cut). By AI agents, Wed Nov 11 2026. No macro, syntax, notation, axiom, sorry.
-/
import Derived.Test.YtgakophdgjepmaaDoorChecked
import GoSem.Claim
import GoSem.ClaimJoined
import GoSem.ClaimMapViews
import Derived.JoinedTies
import Derived.KernelRfl
namespace Go.Proofs.YtgakophdgjepmaaDoor
/- THE CELL 'sum', in the pinned program and in every row, IS THE sha256 OF THE DUMP (.gsa) THAT YtgakophdgjepmaaDoorProg.lean LOADS. Nothing in Lean hashes anything: it is a label: what it is worth is what the hold of that sum in a sandbox is worth. -/
noncomputable def Tryd.pinned : Pinned := { name := "ytgakophdgjepmaadoor", sum := "952709001a7dcd9da06dbcd6803f3f515afbea29099c43017f8092fee3a0a343", checked := Tryd.checked }
namespace Rows
def none {H : Type} : Left H := { results := [], args := [] }

/- WHAT THE LISTED PACKAGE-LEVEL VARIABLES READ AS WHEN THE CALL BEGINS. Each datum BY PROGRAM (the guide's laid-datum.mjs) off the statement by which the dump's own 'gosem.cut.vars' lays the variable. In a bare row this is a premise. The card (YtgakophdgjepmaaDoorCards.lean) ties it to the program's text. -/
def laid_idiom_runes_syntaxSpans {H : Type} : DataW H := .agg [.agg [.lit (.int .i32 33), .lit (.int .i32 47)], .agg [.lit (.int .i32 58), .lit (.int .i32 64)], .agg [.lit (.int .i32 91), .lit (.int .i32 94)], .agg [.lit (.int .i32 96), .lit (.int .i32 96)], .agg [.lit (.int .i32 123), .lit (.int .i32 126)], .agg [.lit (.int .i32 161), .lit (.int .i32 167)], .agg [.lit (.int .i32 169), .lit (.int .i32 169)], .agg [.lit (.int .i32 171), .lit (.int .i32 172)], .agg [.lit (.int .i32 174), .lit (.int .i32 174)], .agg [.lit (.int .i32 176), .lit (.int .i32 177)], .agg [.lit (.int .i32 182), .lit (.int .i32 182)], .agg [.lit (.int .i32 187), .lit (.int .i32 187)], .agg [.lit (.int .i32 191), .lit (.int .i32 191)], .agg [.lit (.int .i32 215), .lit (.int .i32 215)], .agg [.lit (.int .i32 247), .lit (.int .i32 247)], .agg [.lit (.int .i32 8208), .lit (.int .i32 8231)], .agg [.lit (.int .i32 8240), .lit (.int .i32 8254)], .agg [.lit (.int .i32 8257), .lit (.int .i32 8275)], .agg [.lit (.int .i32 8277), .lit (.int .i32 8286)], .agg [.lit (.int .i32 8592), .lit (.int .i32 11263)], .agg [.lit (.int .i32 11776), .lit (.int .i32 11903)], .agg [.lit (.int .i32 12289), .lit (.int .i32 12291)], .agg [.lit (.int .i32 12296), .lit (.int .i32 12320)], .agg [.lit (.int .i32 12336), .lit (.int .i32 12336)], .agg [.lit (.int .i32 64830), .lit (.int .i32 64831)], .agg [.lit (.int .i32 65093), .lit (.int .i32 65094)]]

/-- 'idiomlaw01.RunesValid': WHATEVER THE INPUT: true; the input reads as it did. -/
def runesValidSpec : ChangeSpec := { name := "runesValid", fn := fun _ => fun
  | [d] => { results := [.lit (.bool true)], args := [d] }
  | _ => none }
def runesValidRow : OpenClaim := { program := "ytgakophdgjepmaadoor", sum := "952709001a7dcd9da06dbcd6803f3f515afbea29099c43017f8092fee3a0a343", func := "idiom/idiomlaw01.RunesValid", spec := "runesValid", inPlace := ["internal/abi.NoEscape"], named := ["idiom/runes.syntaxSpans"], apart := false, laid := [("idiom/runes.syntaxSpans", laid_idiom_runes_syntaxSpans)] }
def RunesValidSaid : Prop := runesValidRow.holds Tryd.pinned (OpenSpec.ofChange runesValidSpec)

/-- ITS FALSE NEIGHBOUR: 'it returns false'. Refute it at one input. -/
def runesValidWrong : ChangeSpec := { name := "runesValid", fn := fun _ => fun
  | [d] => { results := [.lit (.bool false)], args := [d] }
  | _ => none }
def RunesValidWrongFalsely : Prop := runesValidRow.holds Tryd.pinned (OpenSpec.ofChange runesValidWrong)

/-- 'idiomlaw01.RunesKinds': WHATEVER THE INPUT: true; the input reads as it did. -/
def runesKindsSpec : ChangeSpec := { name := "runesKinds", fn := fun _ => fun
  | [d] => { results := [.lit (.bool true)], args := [d] }
  | _ => none }
def runesKindsRow : OpenClaim := { program := "ytgakophdgjepmaadoor", sum := "952709001a7dcd9da06dbcd6803f3f515afbea29099c43017f8092fee3a0a343", func := "idiom/idiomlaw01.RunesKinds", spec := "runesKinds", inPlace := ["internal/abi.NoEscape"], named := ["idiom/runes.syntaxSpans"], apart := false, laid := [("idiom/runes.syntaxSpans", laid_idiom_runes_syntaxSpans)] }
def RunesKindsSaid : Prop := runesKindsRow.holds Tryd.pinned (OpenSpec.ofChange runesKindsSpec)

/-- ITS FALSE NEIGHBOUR: 'it returns false'. Refute it at one input. -/
def runesKindsWrong : ChangeSpec := { name := "runesKinds", fn := fun _ => fun
  | [d] => { results := [.lit (.bool false)], args := [d] }
  | _ => none }
def RunesKindsWrongFalsely : Prop := runesKindsRow.holds Tryd.pinned (OpenSpec.ofChange runesKindsWrong)

/-- 'idiomlaw01.RunesIdents': WHATEVER THE INPUT: true; the input reads as it did. -/
def runesIdentsSpec : ChangeSpec := { name := "runesIdents", fn := fun _ => fun
  | [d] => { results := [.lit (.bool true)], args := [d] }
  | _ => none }
def runesIdentsRow : OpenClaim := { program := "ytgakophdgjepmaadoor", sum := "952709001a7dcd9da06dbcd6803f3f515afbea29099c43017f8092fee3a0a343", func := "idiom/idiomlaw01.RunesIdents", spec := "runesIdents", inPlace := ["internal/abi.NoEscape"], named := ["idiom/runes.syntaxSpans"], apart := false, laid := [("idiom/runes.syntaxSpans", laid_idiom_runes_syntaxSpans)] }
def RunesIdentsSaid : Prop := runesIdentsRow.holds Tryd.pinned (OpenSpec.ofChange runesIdentsSpec)

/-- ITS FALSE NEIGHBOUR: 'it returns false'. Refute it at one input. -/
def runesIdentsWrong : ChangeSpec := { name := "runesIdents", fn := fun _ => fun
  | [d] => { results := [.lit (.bool false)], args := [d] }
  | _ => none }
def RunesIdentsWrongFalsely : Prop := runesIdentsRow.holds Tryd.pinned (OpenSpec.ofChange runesIdentsWrong)

/-- 'idiomlaw01.RunesTrims': WHATEVER THE INPUT: true; the input reads as it did. -/
def runesTrimsSpec : ChangeSpec := { name := "runesTrims", fn := fun _ => fun
  | [d] => { results := [.lit (.bool true)], args := [d] }
  | _ => none }
def runesTrimsRow : OpenClaim := { program := "ytgakophdgjepmaadoor", sum := "952709001a7dcd9da06dbcd6803f3f515afbea29099c43017f8092fee3a0a343", func := "idiom/idiomlaw01.RunesTrims", spec := "runesTrims", inPlace := ["internal/abi.NoEscape"], named := ["idiom/runes.syntaxSpans"], apart := false, laid := [("idiom/runes.syntaxSpans", laid_idiom_runes_syntaxSpans)] }
def RunesTrimsSaid : Prop := runesTrimsRow.holds Tryd.pinned (OpenSpec.ofChange runesTrimsSpec)

/-- ITS FALSE NEIGHBOUR: 'it returns false'. Refute it at one input. -/
def runesTrimsWrong : ChangeSpec := { name := "runesTrims", fn := fun _ => fun
  | [d] => { results := [.lit (.bool false)], args := [d] }
  | _ => none }
def RunesTrimsWrongFalsely : Prop := runesTrimsRow.holds Tryd.pinned (OpenSpec.ofChange runesTrimsWrong)

/-- 'idiomlaw01.RunesEscapes': WHATEVER THE INPUT: true; the input reads as it did. -/
def runesEscapesSpec : ChangeSpec := { name := "runesEscapes", fn := fun _ => fun
  | [d] => { results := [.lit (.bool true)], args := [d] }
  | _ => none }
def runesEscapesRow : OpenClaim := { program := "ytgakophdgjepmaadoor", sum := "952709001a7dcd9da06dbcd6803f3f515afbea29099c43017f8092fee3a0a343", func := "idiom/idiomlaw01.RunesEscapes", spec := "runesEscapes", inPlace := ["internal/abi.NoEscape"], named := ["idiom/runes.syntaxSpans"], apart := false, laid := [("idiom/runes.syntaxSpans", laid_idiom_runes_syntaxSpans)] }
def RunesEscapesSaid : Prop := runesEscapesRow.holds Tryd.pinned (OpenSpec.ofChange runesEscapesSpec)

/-- ITS FALSE NEIGHBOUR: 'it returns false'. Refute it at one input. -/
def runesEscapesWrong : ChangeSpec := { name := "runesEscapes", fn := fun _ => fun
  | [d] => { results := [.lit (.bool false)], args := [d] }
  | _ => none }
def RunesEscapesWrongFalsely : Prop := runesEscapesRow.holds Tryd.pinned (OpenSpec.ofChange runesEscapesWrong)

/-- 'idiomlaw01.RunesUnescapes': WHATEVER THE INPUT: true; the input reads as it did. -/
def runesUnescapesSpec : ChangeSpec := { name := "runesUnescapes", fn := fun _ => fun
  | [d] => { results := [.lit (.bool true)], args := [d] }
  | _ => none }
def runesUnescapesRow : OpenClaim := { program := "ytgakophdgjepmaadoor", sum := "952709001a7dcd9da06dbcd6803f3f515afbea29099c43017f8092fee3a0a343", func := "idiom/idiomlaw01.RunesUnescapes", spec := "runesUnescapes", inPlace := ["internal/abi.NoEscape"], named := ["idiom/runes.syntaxSpans"], apart := false, laid := [("idiom/runes.syntaxSpans", laid_idiom_runes_syntaxSpans)] }
def RunesUnescapesSaid : Prop := runesUnescapesRow.holds Tryd.pinned (OpenSpec.ofChange runesUnescapesSpec)

/-- ITS FALSE NEIGHBOUR: 'it returns false'. Refute it at one input. -/
def runesUnescapesWrong : ChangeSpec := { name := "runesUnescapes", fn := fun _ => fun
  | [d] => { results := [.lit (.bool false)], args := [d] }
  | _ => none }
def RunesUnescapesWrongFalsely : Prop := runesUnescapesRow.holds Tryd.pinned (OpenSpec.ofChange runesUnescapesWrong)

/-- 'idiomlaw01.RunesBack': WHATEVER THE INPUT: true; the input reads as it did. -/
def runesBackSpec : ChangeSpec := { name := "runesBack", fn := fun _ => fun
  | [d] => { results := [.lit (.bool true)], args := [d] }
  | _ => none }
def runesBackRow : OpenClaim := { program := "ytgakophdgjepmaadoor", sum := "952709001a7dcd9da06dbcd6803f3f515afbea29099c43017f8092fee3a0a343", func := "idiom/idiomlaw01.RunesBack", spec := "runesBack", inPlace := ["internal/abi.NoEscape"], named := ["idiom/runes.syntaxSpans"], apart := false, laid := [("idiom/runes.syntaxSpans", laid_idiom_runes_syntaxSpans)] }
def RunesBackSaid : Prop := runesBackRow.holds Tryd.pinned (OpenSpec.ofChange runesBackSpec)

/-- ITS FALSE NEIGHBOUR: 'it returns false'. Refute it at one input. -/
def runesBackWrong : ChangeSpec := { name := "runesBack", fn := fun _ => fun
  | [d] => { results := [.lit (.bool false)], args := [d] }
  | _ => none }
def RunesBackWrongFalsely : Prop := runesBackRow.holds Tryd.pinned (OpenSpec.ofChange runesBackWrong)

/-- 'idiomlaw01.RunesRepairs': WHATEVER THE INPUT: true; the input reads as it did. -/
def runesRepairsSpec : ChangeSpec := { name := "runesRepairs", fn := fun _ => fun
  | [d] => { results := [.lit (.bool true)], args := [d] }
  | _ => none }
def runesRepairsRow : OpenClaim := { program := "ytgakophdgjepmaadoor", sum := "952709001a7dcd9da06dbcd6803f3f515afbea29099c43017f8092fee3a0a343", func := "idiom/idiomlaw01.RunesRepairs", spec := "runesRepairs", inPlace := ["internal/abi.NoEscape"], named := ["idiom/runes.syntaxSpans"], apart := false, laid := [("idiom/runes.syntaxSpans", laid_idiom_runes_syntaxSpans)] }
def RunesRepairsSaid : Prop := runesRepairsRow.holds Tryd.pinned (OpenSpec.ofChange runesRepairsSpec)

/-- ITS FALSE NEIGHBOUR: 'it returns false'. Refute it at one input. -/
def runesRepairsWrong : ChangeSpec := { name := "runesRepairs", fn := fun _ => fun
  | [d] => { results := [.lit (.bool false)], args := [d] }
  | _ => none }
def RunesRepairsWrongFalsely : Prop := runesRepairsRow.holds Tryd.pinned (OpenSpec.ofChange runesRepairsWrong)

/-- 'idiomlaw01.RunesFills': WHATEVER THE INPUT: true; the input reads as it did. -/
def runesFillsSpec : ChangeSpec := { name := "runesFills", fn := fun _ => fun
  | [d1, d2] => { results := [.lit (.bool true)], args := [d1, d2] }
  | _ => none }
def runesFillsRow : OpenClaim := { program := "ytgakophdgjepmaadoor", sum := "952709001a7dcd9da06dbcd6803f3f515afbea29099c43017f8092fee3a0a343", func := "idiom/idiomlaw01.RunesFills", spec := "runesFills", inPlace := ["internal/abi.NoEscape"], named := ["idiom/runes.syntaxSpans"], apart := false, laid := [("idiom/runes.syntaxSpans", laid_idiom_runes_syntaxSpans)] }
def RunesFillsSaid : Prop := runesFillsRow.holds Tryd.pinned (OpenSpec.ofChange runesFillsSpec)

/-- ITS FALSE NEIGHBOUR: 'it returns false'. Refute it at one input. -/
def runesFillsWrong : ChangeSpec := { name := "runesFills", fn := fun _ => fun
  | [d1, d2] => { results := [.lit (.bool false)], args := [d1, d2] }
  | _ => none }
def RunesFillsWrongFalsely : Prop := runesFillsRow.holds Tryd.pinned (OpenSpec.ofChange runesFillsWrong)

/- THE SECOND FORM. 'bulk': how many values and letters a reading holds, each counted each time it is reached (what is shared counts as often as it is met; a slice's spare places count too). A statement '..UptoSaid' is the law's where the arguments, and the package variables that the reading takes, are together of bulk at most 1048576: NARROWER than '..Said'. Prove '..Said' where nothing that the law and all that it calls make is longer than what came in: it says more and counts as full. Else prove '..UptoSaid'. A law counts once. -/
mutual
def uptoBulk {H : Type} : DataW H → Nat
  | .lit (.string bytes) => bytes.length + 1
  | .lit _ => 1
  | .nil => 1
  | .ptr d => uptoBulk d + 1
  | .slice elems spare => uptoBulkAll elems + uptoBulkAll spare + 1
  | .agg parts => uptoBulkAll parts + 1
  | .iface _ d => uptoBulk d + 1
  | .map entries => uptoBulkEntries entries + 1
  | .held _ => 1
def uptoBulkAll {H : Type} : List (DataW H) → Nat
  | [] => 0
  | d :: r => uptoBulk d + uptoBulkAll r
def uptoBulkEntries {H : Type} : List (Lit × DataW H) → Nat
  | [] => 0
  | x :: r => uptoBulkEntry x + uptoBulkEntries r
def uptoBulkEntry {H : Type} : Lit × DataW H → Nat
  | (.string bytes, d) => bytes.length + uptoBulk d + 1
  | (_, d) => uptoBulk d + 1
 end
def uptoSmall : (H : Type) → List (DataW H) → Bool := fun _ ds => decide (uptoBulkAll ds ≤ 1048576)
def OpenSpec.upto (s : _root_.Go.ChangeSpec) : _root_.Go.OpenSpec := { _root_.Go.OpenSpec.ofChange s with cond := some uptoSmall }

/-- 'idiomlaw01.RunesValid', WHERE WHAT IT READS IS OF BULK AT MOST 1048576: true; the input reads as it did. -/
def runesValidUptoRow : OpenClaim := { program := "ytgakophdgjepmaadoor", sum := "952709001a7dcd9da06dbcd6803f3f515afbea29099c43017f8092fee3a0a343", func := "idiom/idiomlaw01.RunesValid", spec := "runesValid", inPlace := ["internal/abi.NoEscape"], named := ["idiom/runes.syntaxSpans"], apart := false, laid := [("idiom/runes.syntaxSpans", laid_idiom_runes_syntaxSpans)], narrowed := true }
def RunesValidUptoSaid : Prop := runesValidUptoRow.holds Tryd.pinned (OpenSpec.upto runesValidSpec)

/-- 'idiomlaw01.RunesKinds', WHERE WHAT IT READS IS OF BULK AT MOST 1048576: true; the input reads as it did. -/
def runesKindsUptoRow : OpenClaim := { program := "ytgakophdgjepmaadoor", sum := "952709001a7dcd9da06dbcd6803f3f515afbea29099c43017f8092fee3a0a343", func := "idiom/idiomlaw01.RunesKinds", spec := "runesKinds", inPlace := ["internal/abi.NoEscape"], named := ["idiom/runes.syntaxSpans"], apart := false, laid := [("idiom/runes.syntaxSpans", laid_idiom_runes_syntaxSpans)], narrowed := true }
def RunesKindsUptoSaid : Prop := runesKindsUptoRow.holds Tryd.pinned (OpenSpec.upto runesKindsSpec)

/-- 'idiomlaw01.RunesIdents', WHERE WHAT IT READS IS OF BULK AT MOST 1048576: true; the input reads as it did. -/
def runesIdentsUptoRow : OpenClaim := { program := "ytgakophdgjepmaadoor", sum := "952709001a7dcd9da06dbcd6803f3f515afbea29099c43017f8092fee3a0a343", func := "idiom/idiomlaw01.RunesIdents", spec := "runesIdents", inPlace := ["internal/abi.NoEscape"], named := ["idiom/runes.syntaxSpans"], apart := false, laid := [("idiom/runes.syntaxSpans", laid_idiom_runes_syntaxSpans)], narrowed := true }
def RunesIdentsUptoSaid : Prop := runesIdentsUptoRow.holds Tryd.pinned (OpenSpec.upto runesIdentsSpec)

/-- 'idiomlaw01.RunesTrims', WHERE WHAT IT READS IS OF BULK AT MOST 1048576: true; the input reads as it did. -/
def runesTrimsUptoRow : OpenClaim := { program := "ytgakophdgjepmaadoor", sum := "952709001a7dcd9da06dbcd6803f3f515afbea29099c43017f8092fee3a0a343", func := "idiom/idiomlaw01.RunesTrims", spec := "runesTrims", inPlace := ["internal/abi.NoEscape"], named := ["idiom/runes.syntaxSpans"], apart := false, laid := [("idiom/runes.syntaxSpans", laid_idiom_runes_syntaxSpans)], narrowed := true }
def RunesTrimsUptoSaid : Prop := runesTrimsUptoRow.holds Tryd.pinned (OpenSpec.upto runesTrimsSpec)

/-- 'idiomlaw01.RunesEscapes', WHERE WHAT IT READS IS OF BULK AT MOST 1048576: true; the input reads as it did. -/
def runesEscapesUptoRow : OpenClaim := { program := "ytgakophdgjepmaadoor", sum := "952709001a7dcd9da06dbcd6803f3f515afbea29099c43017f8092fee3a0a343", func := "idiom/idiomlaw01.RunesEscapes", spec := "runesEscapes", inPlace := ["internal/abi.NoEscape"], named := ["idiom/runes.syntaxSpans"], apart := false, laid := [("idiom/runes.syntaxSpans", laid_idiom_runes_syntaxSpans)], narrowed := true }
def RunesEscapesUptoSaid : Prop := runesEscapesUptoRow.holds Tryd.pinned (OpenSpec.upto runesEscapesSpec)

/-- 'idiomlaw01.RunesUnescapes', WHERE WHAT IT READS IS OF BULK AT MOST 1048576: true; the input reads as it did. -/
def runesUnescapesUptoRow : OpenClaim := { program := "ytgakophdgjepmaadoor", sum := "952709001a7dcd9da06dbcd6803f3f515afbea29099c43017f8092fee3a0a343", func := "idiom/idiomlaw01.RunesUnescapes", spec := "runesUnescapes", inPlace := ["internal/abi.NoEscape"], named := ["idiom/runes.syntaxSpans"], apart := false, laid := [("idiom/runes.syntaxSpans", laid_idiom_runes_syntaxSpans)], narrowed := true }
def RunesUnescapesUptoSaid : Prop := runesUnescapesUptoRow.holds Tryd.pinned (OpenSpec.upto runesUnescapesSpec)

/-- 'idiomlaw01.RunesBack', WHERE WHAT IT READS IS OF BULK AT MOST 1048576: true; the input reads as it did. -/
def runesBackUptoRow : OpenClaim := { program := "ytgakophdgjepmaadoor", sum := "952709001a7dcd9da06dbcd6803f3f515afbea29099c43017f8092fee3a0a343", func := "idiom/idiomlaw01.RunesBack", spec := "runesBack", inPlace := ["internal/abi.NoEscape"], named := ["idiom/runes.syntaxSpans"], apart := false, laid := [("idiom/runes.syntaxSpans", laid_idiom_runes_syntaxSpans)], narrowed := true }
def RunesBackUptoSaid : Prop := runesBackUptoRow.holds Tryd.pinned (OpenSpec.upto runesBackSpec)

/-- 'idiomlaw01.RunesRepairs', WHERE WHAT IT READS IS OF BULK AT MOST 1048576: true; the input reads as it did. -/
def runesRepairsUptoRow : OpenClaim := { program := "ytgakophdgjepmaadoor", sum := "952709001a7dcd9da06dbcd6803f3f515afbea29099c43017f8092fee3a0a343", func := "idiom/idiomlaw01.RunesRepairs", spec := "runesRepairs", inPlace := ["internal/abi.NoEscape"], named := ["idiom/runes.syntaxSpans"], apart := false, laid := [("idiom/runes.syntaxSpans", laid_idiom_runes_syntaxSpans)], narrowed := true }
def RunesRepairsUptoSaid : Prop := runesRepairsUptoRow.holds Tryd.pinned (OpenSpec.upto runesRepairsSpec)

/-- 'idiomlaw01.RunesFills', WHERE WHAT IT READS IS OF BULK AT MOST 1048576: true; the input reads as it did. -/
def runesFillsUptoRow : OpenClaim := { program := "ytgakophdgjepmaadoor", sum := "952709001a7dcd9da06dbcd6803f3f515afbea29099c43017f8092fee3a0a343", func := "idiom/idiomlaw01.RunesFills", spec := "runesFills", inPlace := ["internal/abi.NoEscape"], named := ["idiom/runes.syntaxSpans"], apart := false, laid := [("idiom/runes.syntaxSpans", laid_idiom_runes_syntaxSpans)], narrowed := true }
def RunesFillsUptoSaid : Prop := runesFillsUptoRow.holds Tryd.pinned (OpenSpec.upto runesFillsSpec)

end Rows
end Go.Proofs.YtgakophdgjepmaaDoor
