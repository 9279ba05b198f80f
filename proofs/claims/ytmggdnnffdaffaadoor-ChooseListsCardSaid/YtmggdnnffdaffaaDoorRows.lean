/-
  NARROWER THAN 'FOR EVERY INPUT', by the rows' own cells (each row's printed sentence says how): ChooseLists: laid · ChooseFirst: laid · ChooseGreat: laid.
  DERIVED. THE GIVEN ROWS OF THIS SEAT. 3 by the template 'for every input the law returns true; each argument reads behind the call as it read before'; 0 by the template 'total and deterministic' (their statements: YtmggdnnffdaffaaDoorTotals.lean).
  GIVEN WITH THE SEED: the statements are not yours to turn. If you find one false, say at which input.
  Laid BY PROGRAM, IN A SANDBOX (cutbox-rows.mjs): the forced cells as the released guide's own fill.sh prints them over the translation 102b44ac8b84d0d6… (all of the seat's roots in one cut). By AI agents, Wed Nov 11 2026. No macro, syntax, notation, axiom, sorry.
-/
import Derived.Test.YtmggdnnffdaffaaDoorChecked
import GoSem.Claim
import GoSem.ClaimJoined
import GoSem.ClaimMapViews
import Derived.JoinedTies
import Derived.KernelRfl
namespace Go.Proofs.YtmggdnnffdaffaaDoor
/- THE CELL 'sum', in the pinned program and in every row, IS THE sha256 OF THE DUMP (.gsa) THAT YtmggdnnffdaffaaDoorProg.lean LOADS. Nothing in Lean hashes anything: it is a label: what it is worth is what the hold of that sum in a sandbox is worth. -/
noncomputable def Tryd.pinned : Pinned := { name := "ytmggdnnffdaffaadoor", sum := "102b44ac8b84d0d66ccc0c734faec1f63122702f6b59557532587969352fee67", checked := Tryd.checked }
namespace Rows
def none {H : Type} : Left H := { results := [], args := [] }

/- WHAT THE LISTED PACKAGE-LEVEL VARIABLES READ AS WHEN THE CALL BEGINS. Each datum BY PROGRAM (the guide's laid-datum.mjs) off the statement by which the dump's own 'gosem.cut.vars' lays the variable. In a bare row this is a premise. The card (YtmggdnnffdaffaaDoorCards.lean) ties it to the program's text. -/
def laid_idiom_choose_names {H : Type} : DataW H := .agg [.lit (.string [111, 116, 104, 101, 114]), .lit (.string [122, 101, 114, 111]), .lit (.string [111, 110, 101]), .lit (.string [116, 119, 111]), .lit (.string [102, 101, 119]), .lit (.string [109, 97, 110, 121])]

/-- 'idiomlaw06.ChooseLists': WHATEVER THE INPUT: true; the input reads as it did. -/
def chooseListsSpec : ChangeSpec := { name := "chooseLists", fn := fun _ => fun
  | [d1, d2, d3] => { results := [.lit (.bool true)], args := [d1, d2, d3] }
  | _ => none }
def chooseListsRow : OpenClaim := { program := "ytmggdnnffdaffaadoor", sum := "102b44ac8b84d0d66ccc0c734faec1f63122702f6b59557532587969352fee67", func := "idiom/idiomlaw06.ChooseLists", spec := "chooseLists", inPlace := ["internal/bytealg.IndexByteString", "internal/bytealg.IndexString"], unfollowed := true, recurses := true, named := ["internal/bytealg.MaxLen", "idiom/choose.names"], apart := false, laid := [("idiom/choose.names", laid_idiom_choose_names)] }
def ChooseListsSaid : Prop := chooseListsRow.holds Tryd.pinned (OpenSpec.ofChange chooseListsSpec)

/-- ITS FALSE NEIGHBOUR: 'it returns false'. Refute it at one input. -/
def chooseListsWrong : ChangeSpec := { name := "chooseLists", fn := fun _ => fun
  | [d1, d2, d3] => { results := [.lit (.bool false)], args := [d1, d2, d3] }
  | _ => none }
def ChooseListsWrongFalsely : Prop := chooseListsRow.holds Tryd.pinned (OpenSpec.ofChange chooseListsWrong)

/-- 'idiomlaw06.ChooseFirst': WHATEVER THE INPUT: true; the input reads as it did. -/
def chooseFirstSpec : ChangeSpec := { name := "chooseFirst", fn := fun _ => fun
  | [d1, d2, d3] => { results := [.lit (.bool true)], args := [d1, d2, d3] }
  | _ => none }
def chooseFirstRow : OpenClaim := { program := "ytmggdnnffdaffaadoor", sum := "102b44ac8b84d0d66ccc0c734faec1f63122702f6b59557532587969352fee67", func := "idiom/idiomlaw06.ChooseFirst", spec := "chooseFirst", inPlace := ["internal/bytealg.IndexByteString", "internal/bytealg.IndexString"], unfollowed := true, recurses := true, named := ["internal/bytealg.MaxLen", "idiom/choose.names"], apart := false, laid := [("idiom/choose.names", laid_idiom_choose_names)] }
def ChooseFirstSaid : Prop := chooseFirstRow.holds Tryd.pinned (OpenSpec.ofChange chooseFirstSpec)

/-- ITS FALSE NEIGHBOUR: 'it returns false'. Refute it at one input. -/
def chooseFirstWrong : ChangeSpec := { name := "chooseFirst", fn := fun _ => fun
  | [d1, d2, d3] => { results := [.lit (.bool false)], args := [d1, d2, d3] }
  | _ => none }
def ChooseFirstWrongFalsely : Prop := chooseFirstRow.holds Tryd.pinned (OpenSpec.ofChange chooseFirstWrong)

/-- 'idiomlaw06.ChooseGreat': WHATEVER THE INPUT: true; the input reads as it did. -/
def chooseGreatSpec : ChangeSpec := { name := "chooseGreat", fn := fun _ => fun
  | [d1, d2, d3] => { results := [.lit (.bool true)], args := [d1, d2, d3] }
  | _ => none }
def chooseGreatRow : OpenClaim := { program := "ytmggdnnffdaffaadoor", sum := "102b44ac8b84d0d66ccc0c734faec1f63122702f6b59557532587969352fee67", func := "idiom/idiomlaw06.ChooseGreat", spec := "chooseGreat", inPlace := ["internal/bytealg.IndexByteString", "internal/bytealg.IndexString"], unfollowed := true, recurses := true, named := ["internal/bytealg.MaxLen", "idiom/choose.names"], apart := false, laid := [("idiom/choose.names", laid_idiom_choose_names)] }
def ChooseGreatSaid : Prop := chooseGreatRow.holds Tryd.pinned (OpenSpec.ofChange chooseGreatSpec)

/-- ITS FALSE NEIGHBOUR: 'it returns false'. Refute it at one input. -/
def chooseGreatWrong : ChangeSpec := { name := "chooseGreat", fn := fun _ => fun
  | [d1, d2, d3] => { results := [.lit (.bool false)], args := [d1, d2, d3] }
  | _ => none }
def ChooseGreatWrongFalsely : Prop := chooseGreatRow.holds Tryd.pinned (OpenSpec.ofChange chooseGreatWrong)

/- THE SECOND FORM. 'bulk': how many values and letters a reading holds, each counted each time it is reached (what is shared counts as often as it is met; a slice's spare places count too). A statement '..UptoSaid' is the law's where the arguments, and the package variables that the reading takes, are together of bulk at most 1048576: NARROWER than '..Said'. Prove '..Said' where nothing that the law and all that it calls make is longer than what came in: it says more and counts as full. Else prove '..UptoSaid'. A law counts once. -/
mutual
def uptoBulk {H : Type} : DataW H → Nat
  | .lit (.string bytes) => bytes.length + 1
  | .lit _ => 1
  | .nil => 1
  | .ptr d => uptoBulk d + 1
  | .slice elems spare => uptoBulkAll elems + uptoBulkAll spare + 1
  | .agg parts => uptoBulkAll parts + 1
  | .iface _ d => uptoBulk d + 1
  | .map entries => uptoBulkEntries entries + 1
  | .held _ => 1
def uptoBulkAll {H : Type} : List (DataW H) → Nat
  | [] => 0
  | d :: r => uptoBulk d + uptoBulkAll r
def uptoBulkEntries {H : Type} : List (Lit × DataW H) → Nat
  | [] => 0
  | x :: r => uptoBulkEntry x + uptoBulkEntries r
def uptoBulkEntry {H : Type} : Lit × DataW H → Nat
  | (.string bytes, d) => bytes.length + uptoBulk d + 1
  | (_, d) => uptoBulk d + 1
 end
def uptoSmall : (H : Type) → List (DataW H) → Bool := fun _ ds => decide (uptoBulkAll ds ≤ 1048576)
def OpenSpec.upto (s : _root_.Go.ChangeSpec) : _root_.Go.OpenSpec := { _root_.Go.OpenSpec.ofChange s with cond := some uptoSmall }

/-- 'idiomlaw06.ChooseLists', WHERE WHAT IT READS IS OF BULK AT MOST 1048576: true; the input reads as it did. -/
def chooseListsUptoRow : OpenClaim := { program := "ytmggdnnffdaffaadoor", sum := "102b44ac8b84d0d66ccc0c734faec1f63122702f6b59557532587969352fee67", func := "idiom/idiomlaw06.ChooseLists", spec := "chooseLists", inPlace := ["internal/bytealg.IndexByteString", "internal/bytealg.IndexString"], unfollowed := true, recurses := true, named := ["internal/bytealg.MaxLen", "idiom/choose.names"], apart := false, laid := [("idiom/choose.names", laid_idiom_choose_names)], narrowed := true }
def ChooseListsUptoSaid : Prop := chooseListsUptoRow.holds Tryd.pinned (OpenSpec.upto chooseListsSpec)

/-- 'idiomlaw06.ChooseFirst', WHERE WHAT IT READS IS OF BULK AT MOST 1048576: true; the input reads as it did. -/
def chooseFirstUptoRow : OpenClaim := { program := "ytmggdnnffdaffaadoor", sum := "102b44ac8b84d0d66ccc0c734faec1f63122702f6b59557532587969352fee67", func := "idiom/idiomlaw06.ChooseFirst", spec := "chooseFirst", inPlace := ["internal/bytealg.IndexByteString", "internal/bytealg.IndexString"], unfollowed := true, recurses := true, named := ["internal/bytealg.MaxLen", "idiom/choose.names"], apart := false, laid := [("idiom/choose.names", laid_idiom_choose_names)], narrowed := true }
def ChooseFirstUptoSaid : Prop := chooseFirstUptoRow.holds Tryd.pinned (OpenSpec.upto chooseFirstSpec)

/-- 'idiomlaw06.ChooseGreat', WHERE WHAT IT READS IS OF BULK AT MOST 1048576: true; the input reads as it did. -/
def chooseGreatUptoRow : OpenClaim := { program := "ytmggdnnffdaffaadoor", sum := "102b44ac8b84d0d66ccc0c734faec1f63122702f6b59557532587969352fee67", func := "idiom/idiomlaw06.ChooseGreat", spec := "chooseGreat", inPlace := ["internal/bytealg.IndexByteString", "internal/bytealg.IndexString"], unfollowed := true, recurses := true, named := ["internal/bytealg.MaxLen", "idiom/choose.names"], apart := false, laid := [("idiom/choose.names", laid_idiom_choose_names)], narrowed := true }
def ChooseGreatUptoSaid : Prop := chooseGreatUptoRow.holds Tryd.pinned (OpenSpec.upto chooseGreatSpec)

end Rows
end Go.Proofs.YtmggdnnffdaffaaDoor
