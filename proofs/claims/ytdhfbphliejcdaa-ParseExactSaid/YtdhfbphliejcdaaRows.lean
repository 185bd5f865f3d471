/-
  No cell of these rows narrows 'for every input' (looked for: loops, veiled, ifaces, maps, wideKeys, modest, calm, conditions, laid).
  DERIVED. THE GIVEN ROWS OF THIS SEAT. 5 by the template 'for every input the law returns true; each argument reads behind the call as it read before'; 0 by the template 'total and deterministic' (their statements: YtdhfbphliejcdaaTotals.lean).
  GIVEN WITH THE SEED: the statements are not yours to turn. If you find one false, say at which input.
  Laid BY PROGRAM, IN A SANDBOX (cutbox-rows.mjs): the forced cells as the released guide's own fill.sh prints them over the translation bc565d958e176eae… (all of the seat's roots in one cut). By AI agents, Wed Nov 11 2026. No macro, syntax, notation, axiom, sorry.
-/
import Derived.Test.YtdhfbphliejcdaaChecked
import GoSem.Claim
import GoSem.ClaimJoined
import GoSem.ClaimMapViews
import Derived.JoinedTies
import Derived.KernelRfl
namespace Go.Proofs.Ytdhfbphliejcdaa
/- THE CELL 'sum', in the pinned program and in every row, IS THE sha256 OF THE DUMP (.gsa) THAT YtdhfbphliejcdaaProg.lean LOADS. Nothing in Lean hashes anything: it is a label: what it is worth is what the hold of that sum in a sandbox is worth. -/
noncomputable def Try.pinned : Pinned := { name := "ytdhfbphliejcdaa", sum := "bc565d958e176eae1e2b9ad7713061a82d4e62ed5dc3d5d7fa3a90e8c171e1f9", checked := Try.checked }
namespace Rows
def none {H : Type} : Left H := { results := [], args := [] }

/-- 'transhiplaw13.ParseExact': WHATEVER THE INPUT: true; the input reads as it did. -/
def parseExactSpec : ChangeSpec := { name := "parseExact", fn := fun _ => fun
  | [d1, d2, d3] => { results := [.lit (.bool true)], args := [d1, d2, d3] }
  | _ => none }
def parseExactRow : OpenClaim := { program := "ytdhfbphliejcdaa", sum := "bc565d958e176eae1e2b9ad7713061a82d4e62ed5dc3d5d7fa3a90e8c171e1f9", func := "tranship/transhiplaw13.ParseExact", spec := "parseExact", unfollowed := true, recurses := true, apart := false }
def ParseExactSaid : Prop := parseExactRow.holds Try.pinned (OpenSpec.ofChange parseExactSpec)

/-- ITS FALSE NEIGHBOUR: 'it returns false'. Refute it at one input. -/
def parseExactWrong : ChangeSpec := { name := "parseExact", fn := fun _ => fun
  | [d1, d2, d3] => { results := [.lit (.bool false)], args := [d1, d2, d3] }
  | _ => none }
def ParseExactWrongFalsely : Prop := parseExactRow.holds Try.pinned (OpenSpec.ofChange parseExactWrong)

/-- 'transhiplaw13.ParseMore': WHATEVER THE INPUT: true; the input reads as it did. -/
def parseMoreSpec : ChangeSpec := { name := "parseMore", fn := fun _ => fun
  | [d1, d2, d3, d4, d5] => { results := [.lit (.bool true)], args := [d1, d2, d3, d4, d5] }
  | _ => none }
def parseMoreRow : OpenClaim := { program := "ytdhfbphliejcdaa", sum := "bc565d958e176eae1e2b9ad7713061a82d4e62ed5dc3d5d7fa3a90e8c171e1f9", func := "tranship/transhiplaw13.ParseMore", spec := "parseMore", unfollowed := true, recurses := true, apart := false }
def ParseMoreSaid : Prop := parseMoreRow.holds Try.pinned (OpenSpec.ofChange parseMoreSpec)

/-- ITS FALSE NEIGHBOUR: 'it returns false'. Refute it at one input. -/
def parseMoreWrong : ChangeSpec := { name := "parseMore", fn := fun _ => fun
  | [d1, d2, d3, d4, d5] => { results := [.lit (.bool false)], args := [d1, d2, d3, d4, d5] }
  | _ => none }
def ParseMoreWrongFalsely : Prop := parseMoreRow.holds Try.pinned (OpenSpec.ofChange parseMoreWrong)

/-- 'transhiplaw13.ParseLimits': WHATEVER THE INPUT: true; the input reads as it did. -/
def parseLimitsSpec : ChangeSpec := { name := "parseLimits", fn := fun _ => fun
  | [d1, d2, d3] => { results := [.lit (.bool true)], args := [d1, d2, d3] }
  | _ => none }
def parseLimitsRow : OpenClaim := { program := "ytdhfbphliejcdaa", sum := "bc565d958e176eae1e2b9ad7713061a82d4e62ed5dc3d5d7fa3a90e8c171e1f9", func := "tranship/transhiplaw13.ParseLimits", spec := "parseLimits", unfollowed := true, recurses := true, apart := false }
def ParseLimitsSaid : Prop := parseLimitsRow.holds Try.pinned (OpenSpec.ofChange parseLimitsSpec)

/-- ITS FALSE NEIGHBOUR: 'it returns false'. Refute it at one input. -/
def parseLimitsWrong : ChangeSpec := { name := "parseLimits", fn := fun _ => fun
  | [d1, d2, d3] => { results := [.lit (.bool false)], args := [d1, d2, d3] }
  | _ => none }
def ParseLimitsWrongFalsely : Prop := parseLimitsRow.holds Try.pinned (OpenSpec.ofChange parseLimitsWrong)

/-- 'transhiplaw13.ParseBetween': WHATEVER THE INPUT: true; the input reads as it did. -/
def parseBetweenSpec : ChangeSpec := { name := "parseBetween", fn := fun _ => fun
  | [d1, d2] => { results := [.lit (.bool true)], args := [d1, d2] }
  | _ => none }
def parseBetweenRow : OpenClaim := { program := "ytdhfbphliejcdaa", sum := "bc565d958e176eae1e2b9ad7713061a82d4e62ed5dc3d5d7fa3a90e8c171e1f9", func := "tranship/transhiplaw13.ParseBetween", spec := "parseBetween", unfollowed := true, recurses := true, apart := false }
def ParseBetweenSaid : Prop := parseBetweenRow.holds Try.pinned (OpenSpec.ofChange parseBetweenSpec)

/-- ITS FALSE NEIGHBOUR: 'it returns false'. Refute it at one input. -/
def parseBetweenWrong : ChangeSpec := { name := "parseBetween", fn := fun _ => fun
  | [d1, d2] => { results := [.lit (.bool false)], args := [d1, d2] }
  | _ => none }
def ParseBetweenWrongFalsely : Prop := parseBetweenRow.holds Try.pinned (OpenSpec.ofChange parseBetweenWrong)

/-- 'transhiplaw13.ParseRight': WHATEVER THE INPUT: true; the input reads as it did. -/
def parseRightSpec : ChangeSpec := { name := "parseRight", fn := fun _ => fun
  | [d1, d2, d3] => { results := [.lit (.bool true)], args := [d1, d2, d3] }
  | _ => none }
def parseRightRow : OpenClaim := { program := "ytdhfbphliejcdaa", sum := "bc565d958e176eae1e2b9ad7713061a82d4e62ed5dc3d5d7fa3a90e8c171e1f9", func := "tranship/transhiplaw13.ParseRight", spec := "parseRight", unfollowed := true, recurses := true, apart := false }
def ParseRightSaid : Prop := parseRightRow.holds Try.pinned (OpenSpec.ofChange parseRightSpec)

/-- ITS FALSE NEIGHBOUR: 'it returns false'. Refute it at one input. -/
def parseRightWrong : ChangeSpec := { name := "parseRight", fn := fun _ => fun
  | [d1, d2, d3] => { results := [.lit (.bool false)], args := [d1, d2, d3] }
  | _ => none }
def ParseRightWrongFalsely : Prop := parseRightRow.holds Try.pinned (OpenSpec.ofChange parseRightWrong)

/- THE SECOND FORM. 'bulk': how many values and letters a reading holds, each counted each time it is reached (what is shared counts as often as it is met; a slice's spare places count too). A statement '..UptoSaid' is the law's where the arguments, and the package variables that the reading takes, are together of bulk at most 1048576: NARROWER than '..Said'. Prove '..Said' where nothing that the law and all that it calls make is longer than what came in: it says more and counts as full. Else prove '..UptoSaid'. A law counts once. -/
mutual
def uptoBulk {H : Type} : DataW H → Nat
  | .lit (.string bytes) => bytes.length + 1
  | .lit _ => 1
  | .nil => 1
  | .ptr d => uptoBulk d + 1
  | .slice elems spare => uptoBulkAll elems + uptoBulkAll spare + 1
  | .agg parts => uptoBulkAll parts + 1
  | .iface _ d => uptoBulk d + 1
  | .map entries => uptoBulkEntries entries + 1
  | .held _ => 1
def uptoBulkAll {H : Type} : List (DataW H) → Nat
  | [] => 0
  | d :: r => uptoBulk d + uptoBulkAll r
def uptoBulkEntries {H : Type} : List (Lit × DataW H) → Nat
  | [] => 0
  | x :: r => uptoBulkEntry x + uptoBulkEntries r
def uptoBulkEntry {H : Type} : Lit × DataW H → Nat
  | (.string bytes, d) => bytes.length + uptoBulk d + 1
  | (_, d) => uptoBulk d + 1
 end
def uptoSmall : (H : Type) → List (DataW H) → Bool := fun _ ds => decide (uptoBulkAll ds ≤ 1048576)
def OpenSpec.upto (s : _root_.Go.ChangeSpec) : _root_.Go.OpenSpec := { _root_.Go.OpenSpec.ofChange s with cond := some uptoSmall }

/-- 'transhiplaw13.ParseExact', WHERE WHAT IT READS IS OF BULK AT MOST 1048576: true; the input reads as it did. -/
def parseExactUptoRow : OpenClaim := { program := "ytdhfbphliejcdaa", sum := "bc565d958e176eae1e2b9ad7713061a82d4e62ed5dc3d5d7fa3a90e8c171e1f9", func := "tranship/transhiplaw13.ParseExact", spec := "parseExact", unfollowed := true, recurses := true, apart := false, narrowed := true }
def ParseExactUptoSaid : Prop := parseExactUptoRow.holds Try.pinned (OpenSpec.upto parseExactSpec)

/-- 'transhiplaw13.ParseMore', WHERE WHAT IT READS IS OF BULK AT MOST 1048576: true; the input reads as it did. -/
def parseMoreUptoRow : OpenClaim := { program := "ytdhfbphliejcdaa", sum := "bc565d958e176eae1e2b9ad7713061a82d4e62ed5dc3d5d7fa3a90e8c171e1f9", func := "tranship/transhiplaw13.ParseMore", spec := "parseMore", unfollowed := true, recurses := true, apart := false, narrowed := true }
def ParseMoreUptoSaid : Prop := parseMoreUptoRow.holds Try.pinned (OpenSpec.upto parseMoreSpec)

/-- 'transhiplaw13.ParseLimits', WHERE WHAT IT READS IS OF BULK AT MOST 1048576: true; the input reads as it did. -/
def parseLimitsUptoRow : OpenClaim := { program := "ytdhfbphliejcdaa", sum := "bc565d958e176eae1e2b9ad7713061a82d4e62ed5dc3d5d7fa3a90e8c171e1f9", func := "tranship/transhiplaw13.ParseLimits", spec := "parseLimits", unfollowed := true, recurses := true, apart := false, narrowed := true }
def ParseLimitsUptoSaid : Prop := parseLimitsUptoRow.holds Try.pinned (OpenSpec.upto parseLimitsSpec)

/-- 'transhiplaw13.ParseBetween', WHERE WHAT IT READS IS OF BULK AT MOST 1048576: true; the input reads as it did. -/
def parseBetweenUptoRow : OpenClaim := { program := "ytdhfbphliejcdaa", sum := "bc565d958e176eae1e2b9ad7713061a82d4e62ed5dc3d5d7fa3a90e8c171e1f9", func := "tranship/transhiplaw13.ParseBetween", spec := "parseBetween", unfollowed := true, recurses := true, apart := false, narrowed := true }
def ParseBetweenUptoSaid : Prop := parseBetweenUptoRow.holds Try.pinned (OpenSpec.upto parseBetweenSpec)

/-- 'transhiplaw13.ParseRight', WHERE WHAT IT READS IS OF BULK AT MOST 1048576: true; the input reads as it did. -/
def parseRightUptoRow : OpenClaim := { program := "ytdhfbphliejcdaa", sum := "bc565d958e176eae1e2b9ad7713061a82d4e62ed5dc3d5d7fa3a90e8c171e1f9", func := "tranship/transhiplaw13.ParseRight", spec := "parseRight", unfollowed := true, recurses := true, apart := false, narrowed := true }
def ParseRightUptoSaid : Prop := parseRightUptoRow.holds Try.pinned (OpenSpec.upto parseRightSpec)

end Rows
end Go.Proofs.Ytdhfbphliejcdaa
