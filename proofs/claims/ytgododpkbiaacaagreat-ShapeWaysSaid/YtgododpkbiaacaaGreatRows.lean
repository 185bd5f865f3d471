/-
  NARROWER THAN 'FOR EVERY INPUT', by the rows' own cells (each row's printed sentence says how): ShapeWays: loops · ShapeHeads: loops.
  DERIVED. THE GIVEN ROWS OF THIS SEAT. 2 by the template 'for every input the law returns true; each argument reads behind the call as it read before'; 0 by the template 'total and deterministic' (their statements: YtgododpkbiaacaaGreatTotals.lean).
  GIVEN WITH THE SEED: the statements are not yours to turn. If you find one false, say at which input.
  Laid BY PROGRAM, IN A SANDBOX (cutbox-rows.mjs): the forced cells as the released guide's own fill.sh prints them over the translation 9d1a85a84a2a6589… (all of the seat's roots in one cut). By AI agents, Wed Nov 11 2026. No macro, syntax, notation, axiom, sorry.
-/
import Derived.Test.YtgododpkbiaacaaGreatChecked
import GoSem.Claim
import GoSem.ClaimJoined
import GoSem.ClaimMapViews
import Derived.JoinedTies
import Derived.KernelRfl
namespace Go.Proofs.YtgododpkbiaacaaGreat
/- THE CELL 'sum', in the pinned program and in every row, IS THE sha256 OF THE DUMP (.gsa) THAT YtgododpkbiaacaaGreatProg.lean LOADS. Nothing in Lean hashes anything: it is a label: what it is worth is what the hold of that sum in a sandbox is worth. -/
noncomputable def Tryz.pinned : Pinned := { name := "ytgododpkbiaacaagreat", sum := "9d1a85a84a2a65895e51e97f0ed2582cc29dc95293cbaab15c4c7bd49fa08b51", checked := Tryz.checked }
namespace Rows
def none {H : Type} : Left H := { results := [], args := [] }

/-- 'transhiplaw26.ShapeWays': WHATEVER THE INPUT: true; the input reads as it did. -/
def shapeWaysSpec : ChangeSpec := { name := "shapeWays", fn := fun _ => fun
  | [d1, d2] => { results := [.lit (.bool true)], args := [d1, d2] }
  | _ => none }
def shapeWaysRow : OpenClaim := { program := "ytgododpkbiaacaagreat", sum := "9d1a85a84a2a65895e51e97f0ed2582cc29dc95293cbaab15c4c7bd49fa08b51", func := "tranship/transhiplaw26.ShapeWays", spec := "shapeWays", unfollowed := true, recurses := true, loops := true, apart := false }
def ShapeWaysSaid : Prop := shapeWaysRow.holds Tryz.pinned (OpenSpec.ofChange shapeWaysSpec)

/-- ITS FALSE NEIGHBOUR: 'it returns false'. Refute it at one input. -/
def shapeWaysWrong : ChangeSpec := { name := "shapeWays", fn := fun _ => fun
  | [d1, d2] => { results := [.lit (.bool false)], args := [d1, d2] }
  | _ => none }
def ShapeWaysWrongFalsely : Prop := shapeWaysRow.holds Tryz.pinned (OpenSpec.ofChange shapeWaysWrong)

/-- 'transhiplaw26.ShapeHeads': WHATEVER THE INPUT: true; the input reads as it did. -/
def shapeHeadsSpec : ChangeSpec := { name := "shapeHeads", fn := fun _ => fun
  | [d] => { results := [.lit (.bool true)], args := [d] }
  | _ => none }
def shapeHeadsRow : OpenClaim := { program := "ytgododpkbiaacaagreat", sum := "9d1a85a84a2a65895e51e97f0ed2582cc29dc95293cbaab15c4c7bd49fa08b51", func := "tranship/transhiplaw26.ShapeHeads", spec := "shapeHeads", unfollowed := true, recurses := true, loops := true, apart := false }
def ShapeHeadsSaid : Prop := shapeHeadsRow.holds Tryz.pinned (OpenSpec.ofChange shapeHeadsSpec)

/-- ITS FALSE NEIGHBOUR: 'it returns false'. Refute it at one input. -/
def shapeHeadsWrong : ChangeSpec := { name := "shapeHeads", fn := fun _ => fun
  | [d] => { results := [.lit (.bool false)], args := [d] }
  | _ => none }
def ShapeHeadsWrongFalsely : Prop := shapeHeadsRow.holds Tryz.pinned (OpenSpec.ofChange shapeHeadsWrong)

/- THE SECOND FORM. 'bulk': how many values and letters a reading holds, each counted each time it is reached (what is shared counts as often as it is met; a slice's spare places count too). A statement '..UptoSaid' is the law's where the arguments, and the package variables that the reading takes, are together of bulk at most 1048576: NARROWER than '..Said'. Prove '..Said' where nothing that the law and all that it calls make is longer than what came in: it says more and counts as full. Else prove '..UptoSaid'. A law counts once. -/
mutual
def uptoBulk {H : Type} : DataW H → Nat
  | .lit (.string bytes) => bytes.length + 1
  | .lit _ => 1
  | .nil => 1
  | .ptr d => uptoBulk d + 1
  | .slice elems spare => uptoBulkAll elems + uptoBulkAll spare + 1
  | .agg parts => uptoBulkAll parts + 1
  | .iface _ d => uptoBulk d + 1
  | .map entries => uptoBulkEntries entries + 1
  | .held _ => 1
def uptoBulkAll {H : Type} : List (DataW H) → Nat
  | [] => 0
  | d :: r => uptoBulk d + uptoBulkAll r
def uptoBulkEntries {H : Type} : List (Lit × DataW H) → Nat
  | [] => 0
  | x :: r => uptoBulkEntry x + uptoBulkEntries r
def uptoBulkEntry {H : Type} : Lit × DataW H → Nat
  | (.string bytes, d) => bytes.length + uptoBulk d + 1
  | (_, d) => uptoBulk d + 1
 end
def uptoSmall : (H : Type) → List (DataW H) → Bool := fun _ ds => decide (uptoBulkAll ds ≤ 1048576)
def OpenSpec.upto (s : _root_.Go.ChangeSpec) : _root_.Go.OpenSpec := { _root_.Go.OpenSpec.ofChange s with cond := some uptoSmall }

/-- 'transhiplaw26.ShapeWays', WHERE WHAT IT READS IS OF BULK AT MOST 1048576: true; the input reads as it did. -/
def shapeWaysUptoRow : OpenClaim := { program := "ytgododpkbiaacaagreat", sum := "9d1a85a84a2a65895e51e97f0ed2582cc29dc95293cbaab15c4c7bd49fa08b51", func := "tranship/transhiplaw26.ShapeWays", spec := "shapeWays", unfollowed := true, recurses := true, loops := true, apart := false, narrowed := true }
def ShapeWaysUptoSaid : Prop := shapeWaysUptoRow.holds Tryz.pinned (OpenSpec.upto shapeWaysSpec)

/-- 'transhiplaw26.ShapeHeads', WHERE WHAT IT READS IS OF BULK AT MOST 1048576: true; the input reads as it did. -/
def shapeHeadsUptoRow : OpenClaim := { program := "ytgododpkbiaacaagreat", sum := "9d1a85a84a2a65895e51e97f0ed2582cc29dc95293cbaab15c4c7bd49fa08b51", func := "tranship/transhiplaw26.ShapeHeads", spec := "shapeHeads", unfollowed := true, recurses := true, loops := true, apart := false, narrowed := true }
def ShapeHeadsUptoSaid : Prop := shapeHeadsUptoRow.holds Tryz.pinned (OpenSpec.upto shapeHeadsSpec)

end Rows
end Go.Proofs.YtgododpkbiaacaaGreat
