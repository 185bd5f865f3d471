/-
  NARROWER THAN 'FOR EVERY INPUT', by the rows' own cells (each row's printed sentence says how): StripExact: loops · PutExact: loops · AllExact: loops · PutAll: loops · PutTwice: loops.
  DERIVED. THE GIVEN ROWS OF THIS SEAT. 5 by the template 'for every input the law returns true; each argument reads behind the call as it read before'; 0 by the template 'total and deterministic' (their statements: YtmhmengbhdaodaaTotals.lean).
  GIVEN WITH THE SEED: the statements are not yours to turn. If you find one false, say at which input.
  Laid BY PROGRAM, IN A SANDBOX (cutbox-rows.mjs): the forced cells as the released guide's own fill.sh prints them over the translation 283a8d65a3dcb033… (all of the seat's roots in one cut). By AI agents, Wed Nov 11 2026. No macro, syntax, notation, axiom, sorry.
-/
import Derived.Test.YtmhmengbhdaodaaChecked
import GoSem.Claim
import GoSem.ClaimJoined
import GoSem.ClaimMapViews
import Derived.JoinedTies
import Derived.KernelRfl
namespace Go.Proofs.Ytmhmengbhdaodaa
/- THE CELL 'sum', in the pinned program and in every row, IS THE sha256 OF THE DUMP (.gsa) THAT YtmhmengbhdaodaaProg.lean LOADS. Nothing in Lean hashes anything: it is a label: what it is worth is what the hold of that sum in a sandbox is worth. -/
noncomputable def Try.pinned : Pinned := { name := "ytmhmengbhdaodaa", sum := "283a8d65a3dcb0332dcc0a2020f9a1fe1c3dd587843bd22733a9f70e1faea107", checked := Try.checked }
namespace Rows
def none {H : Type} : Left H := { results := [], args := [] }

/-- 'transhiplaw06.StripExact': WHATEVER THE INPUT: true; the input reads as it did. -/
def stripExactSpec : ChangeSpec := { name := "stripExact", fn := fun _ => fun
  | [d] => { results := [.lit (.bool true)], args := [d] }
  | _ => none }
def stripExactRow : OpenClaim := { program := "ytmhmengbhdaodaa", sum := "283a8d65a3dcb0332dcc0a2020f9a1fe1c3dd587843bd22733a9f70e1faea107", func := "tranship/transhiplaw06.StripExact", spec := "stripExact", recurses := true, loops := true, apart := false }
def StripExactSaid : Prop := stripExactRow.holds Try.pinned (OpenSpec.ofChange stripExactSpec)

/-- ITS FALSE NEIGHBOUR: 'it returns false'. Refute it at one input. -/
def stripExactWrong : ChangeSpec := { name := "stripExact", fn := fun _ => fun
  | [d] => { results := [.lit (.bool false)], args := [d] }
  | _ => none }
def StripExactWrongFalsely : Prop := stripExactRow.holds Try.pinned (OpenSpec.ofChange stripExactWrong)

/-- 'transhiplaw07.PutExact': WHATEVER THE INPUT: true; the input reads as it did. -/
def putExactSpec : ChangeSpec := { name := "putExact", fn := fun _ => fun
  | [d1, d2] => { results := [.lit (.bool true)], args := [d1, d2] }
  | _ => none }
def putExactRow : OpenClaim := { program := "ytmhmengbhdaodaa", sum := "283a8d65a3dcb0332dcc0a2020f9a1fe1c3dd587843bd22733a9f70e1faea107", func := "tranship/transhiplaw07.PutExact", spec := "putExact", unfollowed := true, recurses := true, loops := true, apart := false }
def PutExactSaid : Prop := putExactRow.holds Try.pinned (OpenSpec.ofChange putExactSpec)

/-- ITS FALSE NEIGHBOUR: 'it returns false'. Refute it at one input. -/
def putExactWrong : ChangeSpec := { name := "putExact", fn := fun _ => fun
  | [d1, d2] => { results := [.lit (.bool false)], args := [d1, d2] }
  | _ => none }
def PutExactWrongFalsely : Prop := putExactRow.holds Try.pinned (OpenSpec.ofChange putExactWrong)

/-- 'transhiplaw07.AllExact': WHATEVER THE INPUT: true; the input reads as it did. -/
def allExactSpec : ChangeSpec := { name := "allExact", fn := fun _ => fun
  | [d1, d2] => { results := [.lit (.bool true)], args := [d1, d2] }
  | _ => none }
def allExactRow : OpenClaim := { program := "ytmhmengbhdaodaa", sum := "283a8d65a3dcb0332dcc0a2020f9a1fe1c3dd587843bd22733a9f70e1faea107", func := "tranship/transhiplaw07.AllExact", spec := "allExact", unfollowed := true, recurses := true, loops := true, apart := false }
def AllExactSaid : Prop := allExactRow.holds Try.pinned (OpenSpec.ofChange allExactSpec)

/-- ITS FALSE NEIGHBOUR: 'it returns false'. Refute it at one input. -/
def allExactWrong : ChangeSpec := { name := "allExact", fn := fun _ => fun
  | [d1, d2] => { results := [.lit (.bool false)], args := [d1, d2] }
  | _ => none }
def AllExactWrongFalsely : Prop := allExactRow.holds Try.pinned (OpenSpec.ofChange allExactWrong)

/-- 'transhiplaw07.PutAll': WHATEVER THE INPUT: true; the input reads as it did. -/
def putAllSpec : ChangeSpec := { name := "putAll", fn := fun _ => fun
  | [d1, d2] => { results := [.lit (.bool true)], args := [d1, d2] }
  | _ => none }
def putAllRow : OpenClaim := { program := "ytmhmengbhdaodaa", sum := "283a8d65a3dcb0332dcc0a2020f9a1fe1c3dd587843bd22733a9f70e1faea107", func := "tranship/transhiplaw07.PutAll", spec := "putAll", unfollowed := true, recurses := true, loops := true, apart := false }
def PutAllSaid : Prop := putAllRow.holds Try.pinned (OpenSpec.ofChange putAllSpec)

/-- ITS FALSE NEIGHBOUR: 'it returns false'. Refute it at one input. -/
def putAllWrong : ChangeSpec := { name := "putAll", fn := fun _ => fun
  | [d1, d2] => { results := [.lit (.bool false)], args := [d1, d2] }
  | _ => none }
def PutAllWrongFalsely : Prop := putAllRow.holds Try.pinned (OpenSpec.ofChange putAllWrong)

/-- 'transhiplaw07.PutTwice': WHATEVER THE INPUT: true; the input reads as it did. -/
def putTwiceSpec : ChangeSpec := { name := "putTwice", fn := fun _ => fun
  | [d1, d2, d3] => { results := [.lit (.bool true)], args := [d1, d2, d3] }
  | _ => none }
def putTwiceRow : OpenClaim := { program := "ytmhmengbhdaodaa", sum := "283a8d65a3dcb0332dcc0a2020f9a1fe1c3dd587843bd22733a9f70e1faea107", func := "tranship/transhiplaw07.PutTwice", spec := "putTwice", unfollowed := true, recurses := true, loops := true, apart := false }
def PutTwiceSaid : Prop := putTwiceRow.holds Try.pinned (OpenSpec.ofChange putTwiceSpec)

/-- ITS FALSE NEIGHBOUR: 'it returns false'. Refute it at one input. -/
def putTwiceWrong : ChangeSpec := { name := "putTwice", fn := fun _ => fun
  | [d1, d2, d3] => { results := [.lit (.bool false)], args := [d1, d2, d3] }
  | _ => none }
def PutTwiceWrongFalsely : Prop := putTwiceRow.holds Try.pinned (OpenSpec.ofChange putTwiceWrong)

/- THE SECOND FORM. 'bulk': how many values and letters a reading holds, each counted each time it is reached (what is shared counts as often as it is met; a slice's spare places count too). A statement '..UptoSaid' is the law's where the arguments, and the package variables that the reading takes, are together of bulk at most 1048576: NARROWER than '..Said'. Prove '..Said' where nothing that the law and all that it calls make is longer than what came in: it says more and counts as full. Else prove '..UptoSaid'. A law counts once. -/
mutual
def uptoBulk {H : Type} : DataW H → Nat
  | .lit (.string bytes) => bytes.length + 1
  | .lit _ => 1
  | .nil => 1
  | .ptr d => uptoBulk d + 1
  | .slice elems spare => uptoBulkAll elems + uptoBulkAll spare + 1
  | .agg parts => uptoBulkAll parts + 1
  | .iface _ d => uptoBulk d + 1
  | .map entries => uptoBulkEntries entries + 1
  | .held _ => 1
def uptoBulkAll {H : Type} : List (DataW H) → Nat
  | [] => 0
  | d :: r => uptoBulk d + uptoBulkAll r
def uptoBulkEntries {H : Type} : List (Lit × DataW H) → Nat
  | [] => 0
  | x :: r => uptoBulkEntry x + uptoBulkEntries r
def uptoBulkEntry {H : Type} : Lit × DataW H → Nat
  | (.string bytes, d) => bytes.length + uptoBulk d + 1
  | (_, d) => uptoBulk d + 1
 end
def uptoSmall : (H : Type) → List (DataW H) → Bool := fun _ ds => decide (uptoBulkAll ds ≤ 1048576)
def OpenSpec.upto (s : _root_.Go.ChangeSpec) : _root_.Go.OpenSpec := { _root_.Go.OpenSpec.ofChange s with cond := some uptoSmall }

/-- 'transhiplaw06.StripExact', WHERE WHAT IT READS IS OF BULK AT MOST 1048576: true; the input reads as it did. -/
def stripExactUptoRow : OpenClaim := { program := "ytmhmengbhdaodaa", sum := "283a8d65a3dcb0332dcc0a2020f9a1fe1c3dd587843bd22733a9f70e1faea107", func := "tranship/transhiplaw06.StripExact", spec := "stripExact", recurses := true, loops := true, apart := false, narrowed := true }
def StripExactUptoSaid : Prop := stripExactUptoRow.holds Try.pinned (OpenSpec.upto stripExactSpec)

/-- 'transhiplaw07.PutExact', WHERE WHAT IT READS IS OF BULK AT MOST 1048576: true; the input reads as it did. -/
def putExactUptoRow : OpenClaim := { program := "ytmhmengbhdaodaa", sum := "283a8d65a3dcb0332dcc0a2020f9a1fe1c3dd587843bd22733a9f70e1faea107", func := "tranship/transhiplaw07.PutExact", spec := "putExact", unfollowed := true, recurses := true, loops := true, apart := false, narrowed := true }
def PutExactUptoSaid : Prop := putExactUptoRow.holds Try.pinned (OpenSpec.upto putExactSpec)

/-- 'transhiplaw07.AllExact', WHERE WHAT IT READS IS OF BULK AT MOST 1048576: true; the input reads as it did. -/
def allExactUptoRow : OpenClaim := { program := "ytmhmengbhdaodaa", sum := "283a8d65a3dcb0332dcc0a2020f9a1fe1c3dd587843bd22733a9f70e1faea107", func := "tranship/transhiplaw07.AllExact", spec := "allExact", unfollowed := true, recurses := true, loops := true, apart := false, narrowed := true }
def AllExactUptoSaid : Prop := allExactUptoRow.holds Try.pinned (OpenSpec.upto allExactSpec)

/-- 'transhiplaw07.PutAll', WHERE WHAT IT READS IS OF BULK AT MOST 1048576: true; the input reads as it did. -/
def putAllUptoRow : OpenClaim := { program := "ytmhmengbhdaodaa", sum := "283a8d65a3dcb0332dcc0a2020f9a1fe1c3dd587843bd22733a9f70e1faea107", func := "tranship/transhiplaw07.PutAll", spec := "putAll", unfollowed := true, recurses := true, loops := true, apart := false, narrowed := true }
def PutAllUptoSaid : Prop := putAllUptoRow.holds Try.pinned (OpenSpec.upto putAllSpec)

/-- 'transhiplaw07.PutTwice', WHERE WHAT IT READS IS OF BULK AT MOST 1048576: true; the input reads as it did. -/
def putTwiceUptoRow : OpenClaim := { program := "ytmhmengbhdaodaa", sum := "283a8d65a3dcb0332dcc0a2020f9a1fe1c3dd587843bd22733a9f70e1faea107", func := "tranship/transhiplaw07.PutTwice", spec := "putTwice", unfollowed := true, recurses := true, loops := true, apart := false, narrowed := true }
def PutTwiceUptoSaid : Prop := putTwiceUptoRow.holds Try.pinned (OpenSpec.upto putTwiceSpec)

end Rows
end Go.Proofs.Ytmhmengbhdaodaa
