/-
  NARROWER THAN 'FOR EVERY INPUT', by the rows' own cells (each row's printed sentence says how): ReadExact: laid · SigExact: laid · SigShape: laid · SigLevels: laid.
  DERIVED. THE GIVEN ROWS OF THIS SEAT. 4 by the template 'for every input the law returns true; each argument reads behind the call as it read before'; 0 by the template 'total and deterministic' (their statements: YtpekceadjcbphaaDoorTotals.lean).
  GIVEN WITH THE SEED: the statements are not yours to turn. If you find one false, say at which input.
  Laid BY PROGRAM, IN A SANDBOX (cutbox-rows.mjs): the forced cells as the released guide's own fill.sh prints them over the translation 7aed07e15b433b1a… (all of the seat's roots in one cut). By AI agents, Wed Nov 11 2026. No macro, syntax, notation, axiom, sorry.
-/
import Derived.Test.YtpekceadjcbphaaDoorChecked
import GoSem.Claim
import GoSem.ClaimJoined
import GoSem.ClaimMapViews
import Derived.JoinedTies
import Derived.KernelRfl
namespace Go.Proofs.YtpekceadjcbphaaDoor
/- THE CELL 'sum', in the pinned program and in every row, IS THE sha256 OF THE DUMP (.gsa) THAT YtpekceadjcbphaaDoorProg.lean LOADS. Nothing in Lean hashes anything: it is a label: what it is worth is what the hold of that sum in a sandbox is worth. -/
noncomputable def Tryd.pinned : Pinned := { name := "ytpekceadjcbphaadoor", sum := "7aed07e15b433b1a0f3513f4ba1f128a2963b30224c36a0a3f54c7962604721d", checked := Tryd.checked }
namespace Rows
def none {H : Type} : Left H := { results := [], args := [] }

/- WHAT THE LISTED PACKAGE-LEVEL VARIABLES READ AS WHEN THE CALL BEGINS. Each datum BY PROGRAM (the guide's laid-datum.mjs) off the statement by which the dump's own 'gosem.cut.vars' lays the variable. In a bare row this is a premise. The card (YtpekceadjcbphaaDoorCards.lean) ties it to the program's text. -/
def laid_tranship_read_symbols {H : Type} : DataW H := .agg [.lit (.string [117, 105, 112]), .lit (.string [102, 117, 110, 101, 120, 116]), .lit (.string [115, 121, 109]), .lit (.string [116, 114, 97, 110, 115]), .lit (.string [116, 114]), .lit (.string [104, 101, 116]), .lit (.string [116, 121, 112]), .lit (.string [116, 114, 104]), .lit (.string [104, 112]), .lit (.string [104, 50, 101]), .lit (.string [101, 50, 104]), .lit (.string [114, 112]), .lit (.string [99, 112, 105]), .lit (.string [99, 115, 105, 103]), .lit (.string [99, 108, 97, 109]), .lit (.string [99, 97, 112, 112]), .lit (.string [99, 112, 97, 105, 114]), .lit (.string [99, 102, 115, 116]), .lit (.string [99, 115, 110, 100]), .lit (.string [99, 101, 113]), .lit (.string [99, 114, 101, 102, 108])]
def laid_tranship_read_heads {H : Type} : DataW H := .agg [.lit (.string [112, 105]), .lit (.string [108, 97, 109]), .lit (.string [97, 112, 112]), .lit (.string [115, 105, 103]), .lit (.string [112, 97, 105, 114]), .lit (.string [102, 115, 116]), .lit (.string [115, 110, 100]), .lit (.string [101, 113]), .lit (.string [114, 101, 102, 108]), .lit (.string [116, 114]), .lit (.string [80, 105]), .lit (.string [76, 97, 109]), .lit (.string [65, 112, 112]), .lit (.string [83, 105, 103]), .lit (.string [80, 97, 105, 114]), .lit (.string [70, 115, 116]), .lit (.string [83, 110, 100]), .lit (.string [69, 113]), .lit (.string [82, 101, 102, 108]), .lit (.string [74]), .lit (.string [117, 115, 101])]

/-- 'transhiplaw09.ReadExact': WHATEVER THE INPUT: true; the input reads as it did. -/
def readExactSpec : ChangeSpec := { name := "readExact", fn := fun _ => fun
  | [d1, d2, d3, d4] => { results := [.lit (.bool true)], args := [d1, d2, d3, d4] }
  | _ => none }
def readExactRow : OpenClaim := { program := "ytpekceadjcbphaadoor", sum := "7aed07e15b433b1a0f3513f4ba1f128a2963b30224c36a0a3f54c7962604721d", func := "tranship/transhiplaw09.ReadExact", spec := "readExact", unfollowed := true, recurses := true, named := ["tranship/read.heads", "tranship/read.symbols"], apart := false, laid := [("tranship/read.symbols", laid_tranship_read_symbols), ("tranship/read.heads", laid_tranship_read_heads)] }
def ReadExactSaid : Prop := readExactRow.holds Tryd.pinned (OpenSpec.ofChange readExactSpec)

/-- ITS FALSE NEIGHBOUR: 'it returns false'. Refute it at one input. -/
def readExactWrong : ChangeSpec := { name := "readExact", fn := fun _ => fun
  | [d1, d2, d3, d4] => { results := [.lit (.bool false)], args := [d1, d2, d3, d4] }
  | _ => none }
def ReadExactWrongFalsely : Prop := readExactRow.holds Tryd.pinned (OpenSpec.ofChange readExactWrong)

/-- 'transhiplaw17.SigExact': WHATEVER THE INPUT: true; the input reads as it did. -/
def sigExactSpec : ChangeSpec := { name := "sigExact", fn := fun _ => fun
  | [d1, d2, d3] => { results := [.lit (.bool true)], args := [d1, d2, d3] }
  | _ => none }
def sigExactRow : OpenClaim := { program := "ytpekceadjcbphaadoor", sum := "7aed07e15b433b1a0f3513f4ba1f128a2963b30224c36a0a3f54c7962604721d", func := "tranship/transhiplaw17.SigExact", spec := "sigExact", unfollowed := true, recurses := true, named := ["tranship/read.heads", "tranship/read.symbols"], apart := false, laid := [("tranship/read.symbols", laid_tranship_read_symbols), ("tranship/read.heads", laid_tranship_read_heads)] }
def SigExactSaid : Prop := sigExactRow.holds Tryd.pinned (OpenSpec.ofChange sigExactSpec)

/-- ITS FALSE NEIGHBOUR: 'it returns false'. Refute it at one input. -/
def sigExactWrong : ChangeSpec := { name := "sigExact", fn := fun _ => fun
  | [d1, d2, d3] => { results := [.lit (.bool false)], args := [d1, d2, d3] }
  | _ => none }
def SigExactWrongFalsely : Prop := sigExactRow.holds Tryd.pinned (OpenSpec.ofChange sigExactWrong)

/-- 'transhiplaw17.SigShape': WHATEVER THE INPUT: true; the input reads as it did. -/
def sigShapeSpec : ChangeSpec := { name := "sigShape", fn := fun _ => fun
  | [d1, d2, d3] => { results := [.lit (.bool true)], args := [d1, d2, d3] }
  | _ => none }
def sigShapeRow : OpenClaim := { program := "ytpekceadjcbphaadoor", sum := "7aed07e15b433b1a0f3513f4ba1f128a2963b30224c36a0a3f54c7962604721d", func := "tranship/transhiplaw17.SigShape", spec := "sigShape", unfollowed := true, recurses := true, named := ["tranship/read.heads", "tranship/read.symbols"], apart := false, laid := [("tranship/read.symbols", laid_tranship_read_symbols), ("tranship/read.heads", laid_tranship_read_heads)] }
def SigShapeSaid : Prop := sigShapeRow.holds Tryd.pinned (OpenSpec.ofChange sigShapeSpec)

/-- ITS FALSE NEIGHBOUR: 'it returns false'. Refute it at one input. -/
def sigShapeWrong : ChangeSpec := { name := "sigShape", fn := fun _ => fun
  | [d1, d2, d3] => { results := [.lit (.bool false)], args := [d1, d2, d3] }
  | _ => none }
def SigShapeWrongFalsely : Prop := sigShapeRow.holds Tryd.pinned (OpenSpec.ofChange sigShapeWrong)

/-- 'transhiplaw17.SigLevels': WHATEVER THE INPUT: true; the input reads as it did. -/
def sigLevelsSpec : ChangeSpec := { name := "sigLevels", fn := fun _ => fun
  | [d1, d2, d3, d4, d5] => { results := [.lit (.bool true)], args := [d1, d2, d3, d4, d5] }
  | _ => none }
def sigLevelsRow : OpenClaim := { program := "ytpekceadjcbphaadoor", sum := "7aed07e15b433b1a0f3513f4ba1f128a2963b30224c36a0a3f54c7962604721d", func := "tranship/transhiplaw17.SigLevels", spec := "sigLevels", unfollowed := true, recurses := true, named := ["tranship/read.heads", "tranship/read.symbols"], apart := false, laid := [("tranship/read.symbols", laid_tranship_read_symbols), ("tranship/read.heads", laid_tranship_read_heads)] }
def SigLevelsSaid : Prop := sigLevelsRow.holds Tryd.pinned (OpenSpec.ofChange sigLevelsSpec)

/-- ITS FALSE NEIGHBOUR: 'it returns false'. Refute it at one input. -/
def sigLevelsWrong : ChangeSpec := { name := "sigLevels", fn := fun _ => fun
  | [d1, d2, d3, d4, d5] => { results := [.lit (.bool false)], args := [d1, d2, d3, d4, d5] }
  | _ => none }
def SigLevelsWrongFalsely : Prop := sigLevelsRow.holds Tryd.pinned (OpenSpec.ofChange sigLevelsWrong)

/- THE SECOND FORM. 'bulk': how many values and letters a reading holds, each counted each time it is reached (what is shared counts as often as it is met; a slice's spare places count too). A statement '..UptoSaid' is the law's where the arguments, and the package variables that the reading takes, are together of bulk at most 1048576: NARROWER than '..Said'. Prove '..Said' where nothing that the law and all that it calls make is longer than what came in: it says more and counts as full. Else prove '..UptoSaid'. A law counts once. -/
mutual
def uptoBulk {H : Type} : DataW H → Nat
  | .lit (.string bytes) => bytes.length + 1
  | .lit _ => 1
  | .nil => 1
  | .ptr d => uptoBulk d + 1
  | .slice elems spare => uptoBulkAll elems + uptoBulkAll spare + 1
  | .agg parts => uptoBulkAll parts + 1
  | .iface _ d => uptoBulk d + 1
  | .map entries => uptoBulkEntries entries + 1
  | .held _ => 1
def uptoBulkAll {H : Type} : List (DataW H) → Nat
  | [] => 0
  | d :: r => uptoBulk d + uptoBulkAll r
def uptoBulkEntries {H : Type} : List (Lit × DataW H) → Nat
  | [] => 0
  | x :: r => uptoBulkEntry x + uptoBulkEntries r
def uptoBulkEntry {H : Type} : Lit × DataW H → Nat
  | (.string bytes, d) => bytes.length + uptoBulk d + 1
  | (_, d) => uptoBulk d + 1
 end
def uptoSmall : (H : Type) → List (DataW H) → Bool := fun _ ds => decide (uptoBulkAll ds ≤ 1048576)
def OpenSpec.upto (s : _root_.Go.ChangeSpec) : _root_.Go.OpenSpec := { _root_.Go.OpenSpec.ofChange s with cond := some uptoSmall }

/-- 'transhiplaw09.ReadExact', WHERE WHAT IT READS IS OF BULK AT MOST 1048576: true; the input reads as it did. -/
def readExactUptoRow : OpenClaim := { program := "ytpekceadjcbphaadoor", sum := "7aed07e15b433b1a0f3513f4ba1f128a2963b30224c36a0a3f54c7962604721d", func := "tranship/transhiplaw09.ReadExact", spec := "readExact", unfollowed := true, recurses := true, named := ["tranship/read.heads", "tranship/read.symbols"], apart := false, laid := [("tranship/read.symbols", laid_tranship_read_symbols), ("tranship/read.heads", laid_tranship_read_heads)], narrowed := true }
def ReadExactUptoSaid : Prop := readExactUptoRow.holds Tryd.pinned (OpenSpec.upto readExactSpec)

/-- 'transhiplaw17.SigExact', WHERE WHAT IT READS IS OF BULK AT MOST 1048576: true; the input reads as it did. -/
def sigExactUptoRow : OpenClaim := { program := "ytpekceadjcbphaadoor", sum := "7aed07e15b433b1a0f3513f4ba1f128a2963b30224c36a0a3f54c7962604721d", func := "tranship/transhiplaw17.SigExact", spec := "sigExact", unfollowed := true, recurses := true, named := ["tranship/read.heads", "tranship/read.symbols"], apart := false, laid := [("tranship/read.symbols", laid_tranship_read_symbols), ("tranship/read.heads", laid_tranship_read_heads)], narrowed := true }
def SigExactUptoSaid : Prop := sigExactUptoRow.holds Tryd.pinned (OpenSpec.upto sigExactSpec)

/-- 'transhiplaw17.SigShape', WHERE WHAT IT READS IS OF BULK AT MOST 1048576: true; the input reads as it did. -/
def sigShapeUptoRow : OpenClaim := { program := "ytpekceadjcbphaadoor", sum := "7aed07e15b433b1a0f3513f4ba1f128a2963b30224c36a0a3f54c7962604721d", func := "tranship/transhiplaw17.SigShape", spec := "sigShape", unfollowed := true, recurses := true, named := ["tranship/read.heads", "tranship/read.symbols"], apart := false, laid := [("tranship/read.symbols", laid_tranship_read_symbols), ("tranship/read.heads", laid_tranship_read_heads)], narrowed := true }
def SigShapeUptoSaid : Prop := sigShapeUptoRow.holds Tryd.pinned (OpenSpec.upto sigShapeSpec)

/-- 'transhiplaw17.SigLevels', WHERE WHAT IT READS IS OF BULK AT MOST 1048576: true; the input reads as it did. -/
def sigLevelsUptoRow : OpenClaim := { program := "ytpekceadjcbphaadoor", sum := "7aed07e15b433b1a0f3513f4ba1f128a2963b30224c36a0a3f54c7962604721d", func := "tranship/transhiplaw17.SigLevels", spec := "sigLevels", unfollowed := true, recurses := true, named := ["tranship/read.heads", "tranship/read.symbols"], apart := false, laid := [("tranship/read.symbols", laid_tranship_read_symbols), ("tranship/read.heads", laid_tranship_read_heads)], narrowed := true }
def SigLevelsUptoSaid : Prop := sigLevelsUptoRow.holds Tryd.pinned (OpenSpec.upto sigLevelsSpec)

end Rows
end Go.Proofs.YtpekceadjcbphaaDoor
