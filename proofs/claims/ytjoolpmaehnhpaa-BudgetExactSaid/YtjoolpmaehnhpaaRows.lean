/-
  NARROWER THAN 'FOR EVERY INPUT', by the rows' own cells (each row's printed sentence says how): StripExact: loops · PutExact: loops · AllExact: loops · PutAll: loops · PutTwice: loops · EraseGoes: loops · CtxSame: loops.
  DERIVED. THE GIVEN ROWS OF THIS SEAT. 13 by the template 'for every input the law returns true; each argument reads behind the call as it read before'; 0 by the template 'total and deterministic' (their statements: YtjoolpmaehnhpaaTotals.lean).
  GIVEN WITH THE SEED: the statements are not yours to turn. If you find one false, say at which input.
  Laid BY PROGRAM, IN A SANDBOX (cutbox-rows.mjs): the forced cells as the released guide's own fill.sh prints them over the translation 3959b45bb6203802… (all of the seat's roots in one cut). By AI agents, Wed Nov 11 2026. No macro, syntax, notation, axiom, sorry.
-/
import Derived.Test.YtjoolpmaehnhpaaChecked
import GoSem.Claim
import GoSem.ClaimJoined
import GoSem.ClaimMapViews
import Derived.JoinedTies
import Derived.KernelRfl
namespace Go.Proofs.Ytjoolpmaehnhpaa
/- THE CELL 'sum', in the pinned program and in every row, IS THE sha256 OF THE DUMP (.gsa) THAT YtjoolpmaehnhpaaProg.lean LOADS. Nothing in Lean hashes anything: it is a label: what it is worth is what the hold of that sum in a sandbox is worth. -/
noncomputable def Try.pinned : Pinned := { name := "ytjoolpmaehnhpaa", sum := "3959b45bb62038022f483b84ac44216aee3eade158628d6e7a7831044e0e9560", checked := Try.checked }
namespace Rows
def none {H : Type} : Left H := { results := [], args := [] }

/-- 'transhiplaw03.BudgetExact': WHATEVER THE INPUT: true; the input reads as it did. -/
def budgetExactSpec : ChangeSpec := { name := "budgetExact", fn := fun _ => fun
  | [d1, d2] => { results := [.lit (.bool true)], args := [d1, d2] }
  | _ => none }
def budgetExactRow : OpenClaim := { program := "ytjoolpmaehnhpaa", sum := "3959b45bb62038022f483b84ac44216aee3eade158628d6e7a7831044e0e9560", func := "tranship/transhiplaw03.BudgetExact", spec := "budgetExact", inPlace := ["math.Float64bits", "math.Float64frombits", "math.archTrunc"], apart := false }
def BudgetExactSaid : Prop := budgetExactRow.holds Try.pinned (OpenSpec.ofChange budgetExactSpec)

/-- ITS FALSE NEIGHBOUR: 'it returns false'. Refute it at one input. -/
def budgetExactWrong : ChangeSpec := { name := "budgetExact", fn := fun _ => fun
  | [d1, d2] => { results := [.lit (.bool false)], args := [d1, d2] }
  | _ => none }
def BudgetExactWrongFalsely : Prop := budgetExactRow.holds Try.pinned (OpenSpec.ofChange budgetExactWrong)

/-- 'transhiplaw03.BudgetWithin': WHATEVER THE INPUT: true; the input reads as it did. -/
def budgetWithinSpec : ChangeSpec := { name := "budgetWithin", fn := fun _ => fun
  | [d1, d2, d3, d4] => { results := [.lit (.bool true)], args := [d1, d2, d3, d4] }
  | _ => none }
def budgetWithinRow : OpenClaim := { program := "ytjoolpmaehnhpaa", sum := "3959b45bb62038022f483b84ac44216aee3eade158628d6e7a7831044e0e9560", func := "tranship/transhiplaw03.BudgetWithin", spec := "budgetWithin", inPlace := ["math.Float64bits", "math.Float64frombits", "math.archTrunc"], apart := false }
def BudgetWithinSaid : Prop := budgetWithinRow.holds Try.pinned (OpenSpec.ofChange budgetWithinSpec)

/-- ITS FALSE NEIGHBOUR: 'it returns false'. Refute it at one input. -/
def budgetWithinWrong : ChangeSpec := { name := "budgetWithin", fn := fun _ => fun
  | [d1, d2, d3, d4] => { results := [.lit (.bool false)], args := [d1, d2, d3, d4] }
  | _ => none }
def BudgetWithinWrongFalsely : Prop := budgetWithinRow.holds Try.pinned (OpenSpec.ofChange budgetWithinWrong)

/-- 'transhiplaw03.BudgetLeast': WHATEVER THE INPUT: true; the input reads as it did. -/
def budgetLeastSpec : ChangeSpec := { name := "budgetLeast", fn := fun _ => fun
  | [d1, d2] => { results := [.lit (.bool true)], args := [d1, d2] }
  | _ => none }
def budgetLeastRow : OpenClaim := { program := "ytjoolpmaehnhpaa", sum := "3959b45bb62038022f483b84ac44216aee3eade158628d6e7a7831044e0e9560", func := "tranship/transhiplaw03.BudgetLeast", spec := "budgetLeast", inPlace := ["math.Float64frombits", "math.Float64bits", "math.archTrunc"], apart := false }
def BudgetLeastSaid : Prop := budgetLeastRow.holds Try.pinned (OpenSpec.ofChange budgetLeastSpec)

/-- ITS FALSE NEIGHBOUR: 'it returns false'. Refute it at one input. -/
def budgetLeastWrong : ChangeSpec := { name := "budgetLeast", fn := fun _ => fun
  | [d1, d2] => { results := [.lit (.bool false)], args := [d1, d2] }
  | _ => none }
def BudgetLeastWrongFalsely : Prop := budgetLeastRow.holds Try.pinned (OpenSpec.ofChange budgetLeastWrong)

/-- 'transhiplaw03.BudgetParts': WHATEVER THE INPUT: true; the input reads as it did. -/
def budgetPartsSpec : ChangeSpec := { name := "budgetParts", fn := fun _ => fun
  | [d1, d2, d3] => { results := [.lit (.bool true)], args := [d1, d2, d3] }
  | _ => none }
def budgetPartsRow : OpenClaim := { program := "ytjoolpmaehnhpaa", sum := "3959b45bb62038022f483b84ac44216aee3eade158628d6e7a7831044e0e9560", func := "tranship/transhiplaw03.BudgetParts", spec := "budgetParts", inPlace := ["math.Float64bits", "math.Float64frombits", "math.archTrunc"], apart := false }
def BudgetPartsSaid : Prop := budgetPartsRow.holds Try.pinned (OpenSpec.ofChange budgetPartsSpec)

/-- ITS FALSE NEIGHBOUR: 'it returns false'. Refute it at one input. -/
def budgetPartsWrong : ChangeSpec := { name := "budgetParts", fn := fun _ => fun
  | [d1, d2, d3] => { results := [.lit (.bool false)], args := [d1, d2, d3] }
  | _ => none }
def BudgetPartsWrongFalsely : Prop := budgetPartsRow.holds Try.pinned (OpenSpec.ofChange budgetPartsWrong)

/-- 'transhiplaw03.BudgetNone': WHATEVER THE INPUT: true; the input reads as it did. -/
def budgetNoneSpec : ChangeSpec := { name := "budgetNone", fn := fun _ => fun
  | [d] => { results := [.lit (.bool true)], args := [d] }
  | _ => none }
def budgetNoneRow : OpenClaim := { program := "ytjoolpmaehnhpaa", sum := "3959b45bb62038022f483b84ac44216aee3eade158628d6e7a7831044e0e9560", func := "tranship/transhiplaw03.BudgetNone", spec := "budgetNone", inPlace := ["math.Float64bits", "math.Float64frombits", "math.archTrunc"], apart := false }
def BudgetNoneSaid : Prop := budgetNoneRow.holds Try.pinned (OpenSpec.ofChange budgetNoneSpec)

/-- ITS FALSE NEIGHBOUR: 'it returns false'. Refute it at one input. -/
def budgetNoneWrong : ChangeSpec := { name := "budgetNone", fn := fun _ => fun
  | [d] => { results := [.lit (.bool false)], args := [d] }
  | _ => none }
def BudgetNoneWrongFalsely : Prop := budgetNoneRow.holds Try.pinned (OpenSpec.ofChange budgetNoneWrong)

/-- 'transhiplaw06.StripExact': WHATEVER THE INPUT: true; the input reads as it did. -/
def stripExactSpec : ChangeSpec := { name := "stripExact", fn := fun _ => fun
  | [d] => { results := [.lit (.bool true)], args := [d] }
  | _ => none }
def stripExactRow : OpenClaim := { program := "ytjoolpmaehnhpaa", sum := "3959b45bb62038022f483b84ac44216aee3eade158628d6e7a7831044e0e9560", func := "tranship/transhiplaw06.StripExact", spec := "stripExact", recurses := true, loops := true, apart := false }
def StripExactSaid : Prop := stripExactRow.holds Try.pinned (OpenSpec.ofChange stripExactSpec)

/-- ITS FALSE NEIGHBOUR: 'it returns false'. Refute it at one input. -/
def stripExactWrong : ChangeSpec := { name := "stripExact", fn := fun _ => fun
  | [d] => { results := [.lit (.bool false)], args := [d] }
  | _ => none }
def StripExactWrongFalsely : Prop := stripExactRow.holds Try.pinned (OpenSpec.ofChange stripExactWrong)

/-- 'transhiplaw07.PutExact': WHATEVER THE INPUT: true; the input reads as it did. -/
def putExactSpec : ChangeSpec := { name := "putExact", fn := fun _ => fun
  | [d1, d2] => { results := [.lit (.bool true)], args := [d1, d2] }
  | _ => none }
def putExactRow : OpenClaim := { program := "ytjoolpmaehnhpaa", sum := "3959b45bb62038022f483b84ac44216aee3eade158628d6e7a7831044e0e9560", func := "tranship/transhiplaw07.PutExact", spec := "putExact", unfollowed := true, recurses := true, loops := true, apart := false }
def PutExactSaid : Prop := putExactRow.holds Try.pinned (OpenSpec.ofChange putExactSpec)

/-- ITS FALSE NEIGHBOUR: 'it returns false'. Refute it at one input. -/
def putExactWrong : ChangeSpec := { name := "putExact", fn := fun _ => fun
  | [d1, d2] => { results := [.lit (.bool false)], args := [d1, d2] }
  | _ => none }
def PutExactWrongFalsely : Prop := putExactRow.holds Try.pinned (OpenSpec.ofChange putExactWrong)

/-- 'transhiplaw07.AllExact': WHATEVER THE INPUT: true; the input reads as it did. -/
def allExactSpec : ChangeSpec := { name := "allExact", fn := fun _ => fun
  | [d1, d2] => { results := [.lit (.bool true)], args := [d1, d2] }
  | _ => none }
def allExactRow : OpenClaim := { program := "ytjoolpmaehnhpaa", sum := "3959b45bb62038022f483b84ac44216aee3eade158628d6e7a7831044e0e9560", func := "tranship/transhiplaw07.AllExact", spec := "allExact", unfollowed := true, recurses := true, loops := true, apart := false }
def AllExactSaid : Prop := allExactRow.holds Try.pinned (OpenSpec.ofChange allExactSpec)

/-- ITS FALSE NEIGHBOUR: 'it returns false'. Refute it at one input. -/
def allExactWrong : ChangeSpec := { name := "allExact", fn := fun _ => fun
  | [d1, d2] => { results := [.lit (.bool false)], args := [d1, d2] }
  | _ => none }
def AllExactWrongFalsely : Prop := allExactRow.holds Try.pinned (OpenSpec.ofChange allExactWrong)

/-- 'transhiplaw07.PutAll': WHATEVER THE INPUT: true; the input reads as it did. -/
def putAllSpec : ChangeSpec := { name := "putAll", fn := fun _ => fun
  | [d1, d2] => { results := [.lit (.bool true)], args := [d1, d2] }
  | _ => none }
def putAllRow : OpenClaim := { program := "ytjoolpmaehnhpaa", sum := "3959b45bb62038022f483b84ac44216aee3eade158628d6e7a7831044e0e9560", func := "tranship/transhiplaw07.PutAll", spec := "putAll", unfollowed := true, recurses := true, loops := true, apart := false }
def PutAllSaid : Prop := putAllRow.holds Try.pinned (OpenSpec.ofChange putAllSpec)

/-- ITS FALSE NEIGHBOUR: 'it returns false'. Refute it at one input. -/
def putAllWrong : ChangeSpec := { name := "putAll", fn := fun _ => fun
  | [d1, d2] => { results := [.lit (.bool false)], args := [d1, d2] }
  | _ => none }
def PutAllWrongFalsely : Prop := putAllRow.holds Try.pinned (OpenSpec.ofChange putAllWrong)

/-- 'transhiplaw07.PutTwice': WHATEVER THE INPUT: true; the input reads as it did. -/
def putTwiceSpec : ChangeSpec := { name := "putTwice", fn := fun _ => fun
  | [d1, d2, d3] => { results := [.lit (.bool true)], args := [d1, d2, d3] }
  | _ => none }
def putTwiceRow : OpenClaim := { program := "ytjoolpmaehnhpaa", sum := "3959b45bb62038022f483b84ac44216aee3eade158628d6e7a7831044e0e9560", func := "tranship/transhiplaw07.PutTwice", spec := "putTwice", unfollowed := true, recurses := true, loops := true, apart := false }
def PutTwiceSaid : Prop := putTwiceRow.holds Try.pinned (OpenSpec.ofChange putTwiceSpec)

/-- ITS FALSE NEIGHBOUR: 'it returns false'. Refute it at one input. -/
def putTwiceWrong : ChangeSpec := { name := "putTwice", fn := fun _ => fun
  | [d1, d2, d3] => { results := [.lit (.bool false)], args := [d1, d2, d3] }
  | _ => none }
def PutTwiceWrongFalsely : Prop := putTwiceRow.holds Try.pinned (OpenSpec.ofChange putTwiceWrong)

/-- 'transhiplaw08.EraseGoes': WHATEVER THE INPUT: true; the input reads as it did. -/
def eraseGoesSpec : ChangeSpec := { name := "eraseGoes", fn := fun _ => fun
  | [d1, d2, d3] => { results := [.lit (.bool true)], args := [d1, d2, d3] }
  | _ => none }
def eraseGoesRow : OpenClaim := { program := "ytjoolpmaehnhpaa", sum := "3959b45bb62038022f483b84ac44216aee3eade158628d6e7a7831044e0e9560", func := "tranship/transhiplaw08.EraseGoes", spec := "eraseGoes", unfollowed := true, recurses := true, loops := true, apart := false }
def EraseGoesSaid : Prop := eraseGoesRow.holds Try.pinned (OpenSpec.ofChange eraseGoesSpec)

/-- ITS FALSE NEIGHBOUR: 'it returns false'. Refute it at one input. -/
def eraseGoesWrong : ChangeSpec := { name := "eraseGoes", fn := fun _ => fun
  | [d1, d2, d3] => { results := [.lit (.bool false)], args := [d1, d2, d3] }
  | _ => none }
def EraseGoesWrongFalsely : Prop := eraseGoesRow.holds Try.pinned (OpenSpec.ofChange eraseGoesWrong)

/-- 'transhiplaw11.CtxSame': WHATEVER THE INPUT: true; the input reads as it did. -/
def ctxSameSpec : ChangeSpec := { name := "ctxSame", fn := fun _ => fun
  | [d1, d2, d3, d4] => { results := [.lit (.bool true)], args := [d1, d2, d3, d4] }
  | _ => none }
def ctxSameRow : OpenClaim := { program := "ytjoolpmaehnhpaa", sum := "3959b45bb62038022f483b84ac44216aee3eade158628d6e7a7831044e0e9560", func := "tranship/transhiplaw11.CtxSame", spec := "ctxSame", unfollowed := true, recurses := true, loops := true, apart := false }
def CtxSameSaid : Prop := ctxSameRow.holds Try.pinned (OpenSpec.ofChange ctxSameSpec)

/-- ITS FALSE NEIGHBOUR: 'it returns false'. Refute it at one input. -/
def ctxSameWrong : ChangeSpec := { name := "ctxSame", fn := fun _ => fun
  | [d1, d2, d3, d4] => { results := [.lit (.bool false)], args := [d1, d2, d3, d4] }
  | _ => none }
def CtxSameWrongFalsely : Prop := ctxSameRow.holds Try.pinned (OpenSpec.ofChange ctxSameWrong)

/-- 'transhiplaw12.DerivTable': WHATEVER THE INPUT: true; the input reads as it did. -/
def derivTableSpec : ChangeSpec := { name := "derivTable", fn := fun _ => fun
  | [d1, d2, d3] => { results := [.lit (.bool true)], args := [d1, d2, d3] }
  | _ => none }
def derivTableRow : OpenClaim := { program := "ytjoolpmaehnhpaa", sum := "3959b45bb62038022f483b84ac44216aee3eade158628d6e7a7831044e0e9560", func := "tranship/transhiplaw12.DerivTable", spec := "derivTable", recurses := true, apart := false }
def DerivTableSaid : Prop := derivTableRow.holds Try.pinned (OpenSpec.ofChange derivTableSpec)

/-- ITS FALSE NEIGHBOUR: 'it returns false'. Refute it at one input. -/
def derivTableWrong : ChangeSpec := { name := "derivTable", fn := fun _ => fun
  | [d1, d2, d3] => { results := [.lit (.bool false)], args := [d1, d2, d3] }
  | _ => none }
def DerivTableWrongFalsely : Prop := derivTableRow.holds Try.pinned (OpenSpec.ofChange derivTableWrong)

/- THE SECOND FORM. 'bulk': how many values and letters a reading holds, each counted each time it is reached (what is shared counts as often as it is met; a slice's spare places count too). A statement '..UptoSaid' is the law's where the arguments, and the package variables that the reading takes, are together of bulk at most 1048576: NARROWER than '..Said'. Prove '..Said' where nothing that the law and all that it calls make is longer than what came in: it says more and counts as full. Else prove '..UptoSaid'. A law counts once. -/
mutual
def uptoBulk {H : Type} : DataW H → Nat
  | .lit (.string bytes) => bytes.length + 1
  | .lit _ => 1
  | .nil => 1
  | .ptr d => uptoBulk d + 1
  | .slice elems spare => uptoBulkAll elems + uptoBulkAll spare + 1
  | .agg parts => uptoBulkAll parts + 1
  | .iface _ d => uptoBulk d + 1
  | .map entries => uptoBulkEntries entries + 1
  | .held _ => 1
def uptoBulkAll {H : Type} : List (DataW H) → Nat
  | [] => 0
  | d :: r => uptoBulk d + uptoBulkAll r
def uptoBulkEntries {H : Type} : List (Lit × DataW H) → Nat
  | [] => 0
  | x :: r => uptoBulkEntry x + uptoBulkEntries r
def uptoBulkEntry {H : Type} : Lit × DataW H → Nat
  | (.string bytes, d) => bytes.length + uptoBulk d + 1
  | (_, d) => uptoBulk d + 1
 end
def uptoSmall : (H : Type) → List (DataW H) → Bool := fun _ ds => decide (uptoBulkAll ds ≤ 1048576)
def OpenSpec.upto (s : _root_.Go.ChangeSpec) : _root_.Go.OpenSpec := { _root_.Go.OpenSpec.ofChange s with cond := some uptoSmall }

/-- 'transhiplaw03.BudgetExact', WHERE WHAT IT READS IS OF BULK AT MOST 1048576: true; the input reads as it did. -/
def budgetExactUptoRow : OpenClaim := { program := "ytjoolpmaehnhpaa", sum := "3959b45bb62038022f483b84ac44216aee3eade158628d6e7a7831044e0e9560", func := "tranship/transhiplaw03.BudgetExact", spec := "budgetExact", inPlace := ["math.Float64bits", "math.Float64frombits", "math.archTrunc"], apart := false, narrowed := true }
def BudgetExactUptoSaid : Prop := budgetExactUptoRow.holds Try.pinned (OpenSpec.upto budgetExactSpec)

/-- 'transhiplaw03.BudgetWithin', WHERE WHAT IT READS IS OF BULK AT MOST 1048576: true; the input reads as it did. -/
def budgetWithinUptoRow : OpenClaim := { program := "ytjoolpmaehnhpaa", sum := "3959b45bb62038022f483b84ac44216aee3eade158628d6e7a7831044e0e9560", func := "tranship/transhiplaw03.BudgetWithin", spec := "budgetWithin", inPlace := ["math.Float64bits", "math.Float64frombits", "math.archTrunc"], apart := false, narrowed := true }
def BudgetWithinUptoSaid : Prop := budgetWithinUptoRow.holds Try.pinned (OpenSpec.upto budgetWithinSpec)

/-- 'transhiplaw03.BudgetLeast', WHERE WHAT IT READS IS OF BULK AT MOST 1048576: true; the input reads as it did. -/
def budgetLeastUptoRow : OpenClaim := { program := "ytjoolpmaehnhpaa", sum := "3959b45bb62038022f483b84ac44216aee3eade158628d6e7a7831044e0e9560", func := "tranship/transhiplaw03.BudgetLeast", spec := "budgetLeast", inPlace := ["math.Float64frombits", "math.Float64bits", "math.archTrunc"], apart := false, narrowed := true }
def BudgetLeastUptoSaid : Prop := budgetLeastUptoRow.holds Try.pinned (OpenSpec.upto budgetLeastSpec)

/-- 'transhiplaw03.BudgetParts', WHERE WHAT IT READS IS OF BULK AT MOST 1048576: true; the input reads as it did. -/
def budgetPartsUptoRow : OpenClaim := { program := "ytjoolpmaehnhpaa", sum := "3959b45bb62038022f483b84ac44216aee3eade158628d6e7a7831044e0e9560", func := "tranship/transhiplaw03.BudgetParts", spec := "budgetParts", inPlace := ["math.Float64bits", "math.Float64frombits", "math.archTrunc"], apart := false, narrowed := true }
def BudgetPartsUptoSaid : Prop := budgetPartsUptoRow.holds Try.pinned (OpenSpec.upto budgetPartsSpec)

/-- 'transhiplaw03.BudgetNone', WHERE WHAT IT READS IS OF BULK AT MOST 1048576: true; the input reads as it did. -/
def budgetNoneUptoRow : OpenClaim := { program := "ytjoolpmaehnhpaa", sum := "3959b45bb62038022f483b84ac44216aee3eade158628d6e7a7831044e0e9560", func := "tranship/transhiplaw03.BudgetNone", spec := "budgetNone", inPlace := ["math.Float64bits", "math.Float64frombits", "math.archTrunc"], apart := false, narrowed := true }
def BudgetNoneUptoSaid : Prop := budgetNoneUptoRow.holds Try.pinned (OpenSpec.upto budgetNoneSpec)

/-- 'transhiplaw06.StripExact', WHERE WHAT IT READS IS OF BULK AT MOST 1048576: true; the input reads as it did. -/
def stripExactUptoRow : OpenClaim := { program := "ytjoolpmaehnhpaa", sum := "3959b45bb62038022f483b84ac44216aee3eade158628d6e7a7831044e0e9560", func := "tranship/transhiplaw06.StripExact", spec := "stripExact", recurses := true, loops := true, apart := false, narrowed := true }
def StripExactUptoSaid : Prop := stripExactUptoRow.holds Try.pinned (OpenSpec.upto stripExactSpec)

/-- 'transhiplaw07.PutExact', WHERE WHAT IT READS IS OF BULK AT MOST 1048576: true; the input reads as it did. -/
def putExactUptoRow : OpenClaim := { program := "ytjoolpmaehnhpaa", sum := "3959b45bb62038022f483b84ac44216aee3eade158628d6e7a7831044e0e9560", func := "tranship/transhiplaw07.PutExact", spec := "putExact", unfollowed := true, recurses := true, loops := true, apart := false, narrowed := true }
def PutExactUptoSaid : Prop := putExactUptoRow.holds Try.pinned (OpenSpec.upto putExactSpec)

/-- 'transhiplaw07.AllExact', WHERE WHAT IT READS IS OF BULK AT MOST 1048576: true; the input reads as it did. -/
def allExactUptoRow : OpenClaim := { program := "ytjoolpmaehnhpaa", sum := "3959b45bb62038022f483b84ac44216aee3eade158628d6e7a7831044e0e9560", func := "tranship/transhiplaw07.AllExact", spec := "allExact", unfollowed := true, recurses := true, loops := true, apart := false, narrowed := true }
def AllExactUptoSaid : Prop := allExactUptoRow.holds Try.pinned (OpenSpec.upto allExactSpec)

/-- 'transhiplaw07.PutAll', WHERE WHAT IT READS IS OF BULK AT MOST 1048576: true; the input reads as it did. -/
def putAllUptoRow : OpenClaim := { program := "ytjoolpmaehnhpaa", sum := "3959b45bb62038022f483b84ac44216aee3eade158628d6e7a7831044e0e9560", func := "tranship/transhiplaw07.PutAll", spec := "putAll", unfollowed := true, recurses := true, loops := true, apart := false, narrowed := true }
def PutAllUptoSaid : Prop := putAllUptoRow.holds Try.pinned (OpenSpec.upto putAllSpec)

/-- 'transhiplaw07.PutTwice', WHERE WHAT IT READS IS OF BULK AT MOST 1048576: true; the input reads as it did. -/
def putTwiceUptoRow : OpenClaim := { program := "ytjoolpmaehnhpaa", sum := "3959b45bb62038022f483b84ac44216aee3eade158628d6e7a7831044e0e9560", func := "tranship/transhiplaw07.PutTwice", spec := "putTwice", unfollowed := true, recurses := true, loops := true, apart := false, narrowed := true }
def PutTwiceUptoSaid : Prop := putTwiceUptoRow.holds Try.pinned (OpenSpec.upto putTwiceSpec)

/-- 'transhiplaw08.EraseGoes', WHERE WHAT IT READS IS OF BULK AT MOST 1048576: true; the input reads as it did. -/
def eraseGoesUptoRow : OpenClaim := { program := "ytjoolpmaehnhpaa", sum := "3959b45bb62038022f483b84ac44216aee3eade158628d6e7a7831044e0e9560", func := "tranship/transhiplaw08.EraseGoes", spec := "eraseGoes", unfollowed := true, recurses := true, loops := true, apart := false, narrowed := true }
def EraseGoesUptoSaid : Prop := eraseGoesUptoRow.holds Try.pinned (OpenSpec.upto eraseGoesSpec)

/-- 'transhiplaw11.CtxSame', WHERE WHAT IT READS IS OF BULK AT MOST 1048576: true; the input reads as it did. -/
def ctxSameUptoRow : OpenClaim := { program := "ytjoolpmaehnhpaa", sum := "3959b45bb62038022f483b84ac44216aee3eade158628d6e7a7831044e0e9560", func := "tranship/transhiplaw11.CtxSame", spec := "ctxSame", unfollowed := true, recurses := true, loops := true, apart := false, narrowed := true }
def CtxSameUptoSaid : Prop := ctxSameUptoRow.holds Try.pinned (OpenSpec.upto ctxSameSpec)

/-- 'transhiplaw12.DerivTable', WHERE WHAT IT READS IS OF BULK AT MOST 1048576: true; the input reads as it did. -/
def derivTableUptoRow : OpenClaim := { program := "ytjoolpmaehnhpaa", sum := "3959b45bb62038022f483b84ac44216aee3eade158628d6e7a7831044e0e9560", func := "tranship/transhiplaw12.DerivTable", spec := "derivTable", recurses := true, apart := false, narrowed := true }
def DerivTableUptoSaid : Prop := derivTableUptoRow.holds Try.pinned (OpenSpec.upto derivTableSpec)

end Rows
end Go.Proofs.Ytjoolpmaehnhpaa
