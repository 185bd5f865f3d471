/-
  NARROWER THAN 'FOR EVERY INPUT', by the rows' own cells (each row's printed sentence says how): CtxExact: loops · CtxForms: loops · CtxAdds: loops · CtxSame: loops · DerivPaths: loops.
  DERIVED. THE GIVEN ROWS OF THIS SEAT. 5 by the template 'for every input the law returns true; each argument reads behind the call as it read before'; 0 by the template 'total and deterministic' (their statements: YtjhdcjjoignioaaTotals.lean).
  GIVEN WITH THE SEED: the statements are not yours to turn. If you find one false, say at which input.
  Laid BY PROGRAM, IN A SANDBOX (cutbox-rows.mjs): the forced cells as the released guide's own fill.sh prints them over the translation ed55ef6ebf4bd5a2… (all of the seat's roots in one cut). By AI agents, Wed Nov 11 2026. No macro, syntax, notation, axiom, sorry.
-/
import Derived.Test.YtjhdcjjoignioaaChecked
import GoSem.Claim
import GoSem.ClaimJoined
import GoSem.ClaimMapViews
import Derived.JoinedTies
import Derived.KernelRfl
namespace Go.Proofs.Ytjhdcjjoignioaa
/- THE CELL 'sum', in the pinned program and in every row, IS THE sha256 OF THE DUMP (.gsa) THAT YtjhdcjjoignioaaProg.lean LOADS. Nothing in Lean hashes anything: it is a label: what it is worth is what the hold of that sum in a sandbox is worth. -/
noncomputable def Try.pinned : Pinned := { name := "ytjhdcjjoignioaa", sum := "ed55ef6ebf4bd5a25e080c22fa23337f86a3197ef7273ee9576bdf458f05676d", checked := Try.checked }
namespace Rows
def none {H : Type} : Left H := { results := [], args := [] }

/-- 'transhiplaw11.CtxExact': WHATEVER THE INPUT: true; the input reads as it did. -/
def ctxExactSpec : ChangeSpec := { name := "ctxExact", fn := fun _ => fun
  | [d1, d2] => { results := [.lit (.bool true)], args := [d1, d2] }
  | _ => none }
def ctxExactRow : OpenClaim := { program := "ytjhdcjjoignioaa", sum := "ed55ef6ebf4bd5a25e080c22fa23337f86a3197ef7273ee9576bdf458f05676d", func := "tranship/transhiplaw11.CtxExact", spec := "ctxExact", unfollowed := true, recurses := true, loops := true, apart := false }
def CtxExactSaid : Prop := ctxExactRow.holds Try.pinned (OpenSpec.ofChange ctxExactSpec)

/-- ITS FALSE NEIGHBOUR: 'it returns false'. Refute it at one input. -/
def ctxExactWrong : ChangeSpec := { name := "ctxExact", fn := fun _ => fun
  | [d1, d2] => { results := [.lit (.bool false)], args := [d1, d2] }
  | _ => none }
def CtxExactWrongFalsely : Prop := ctxExactRow.holds Try.pinned (OpenSpec.ofChange ctxExactWrong)

/-- 'transhiplaw11.CtxForms': WHATEVER THE INPUT: true; the input reads as it did. -/
def ctxFormsSpec : ChangeSpec := { name := "ctxForms", fn := fun _ => fun
  | [d] => { results := [.lit (.bool true)], args := [d] }
  | _ => none }
def ctxFormsRow : OpenClaim := { program := "ytjhdcjjoignioaa", sum := "ed55ef6ebf4bd5a25e080c22fa23337f86a3197ef7273ee9576bdf458f05676d", func := "tranship/transhiplaw11.CtxForms", spec := "ctxForms", unfollowed := true, recurses := true, loops := true, apart := false }
def CtxFormsSaid : Prop := ctxFormsRow.holds Try.pinned (OpenSpec.ofChange ctxFormsSpec)

/-- ITS FALSE NEIGHBOUR: 'it returns false'. Refute it at one input. -/
def ctxFormsWrong : ChangeSpec := { name := "ctxForms", fn := fun _ => fun
  | [d] => { results := [.lit (.bool false)], args := [d] }
  | _ => none }
def CtxFormsWrongFalsely : Prop := ctxFormsRow.holds Try.pinned (OpenSpec.ofChange ctxFormsWrong)

/-- 'transhiplaw11.CtxAdds': WHATEVER THE INPUT: true; the input reads as it did. -/
def ctxAddsSpec : ChangeSpec := { name := "ctxAdds", fn := fun _ => fun
  | [d1, d2, d3, d4] => { results := [.lit (.bool true)], args := [d1, d2, d3, d4] }
  | _ => none }
def ctxAddsRow : OpenClaim := { program := "ytjhdcjjoignioaa", sum := "ed55ef6ebf4bd5a25e080c22fa23337f86a3197ef7273ee9576bdf458f05676d", func := "tranship/transhiplaw11.CtxAdds", spec := "ctxAdds", unfollowed := true, recurses := true, loops := true, apart := false }
def CtxAddsSaid : Prop := ctxAddsRow.holds Try.pinned (OpenSpec.ofChange ctxAddsSpec)

/-- ITS FALSE NEIGHBOUR: 'it returns false'. Refute it at one input. -/
def ctxAddsWrong : ChangeSpec := { name := "ctxAdds", fn := fun _ => fun
  | [d1, d2, d3, d4] => { results := [.lit (.bool false)], args := [d1, d2, d3, d4] }
  | _ => none }
def CtxAddsWrongFalsely : Prop := ctxAddsRow.holds Try.pinned (OpenSpec.ofChange ctxAddsWrong)

/-- 'transhiplaw11.CtxSame': WHATEVER THE INPUT: true; the input reads as it did. -/
def ctxSameSpec : ChangeSpec := { name := "ctxSame", fn := fun _ => fun
  | [d1, d2, d3, d4] => { results := [.lit (.bool true)], args := [d1, d2, d3, d4] }
  | _ => none }
def ctxSameRow : OpenClaim := { program := "ytjhdcjjoignioaa", sum := "ed55ef6ebf4bd5a25e080c22fa23337f86a3197ef7273ee9576bdf458f05676d", func := "tranship/transhiplaw11.CtxSame", spec := "ctxSame", unfollowed := true, recurses := true, loops := true, apart := false }
def CtxSameSaid : Prop := ctxSameRow.holds Try.pinned (OpenSpec.ofChange ctxSameSpec)

/-- ITS FALSE NEIGHBOUR: 'it returns false'. Refute it at one input. -/
def ctxSameWrong : ChangeSpec := { name := "ctxSame", fn := fun _ => fun
  | [d1, d2, d3, d4] => { results := [.lit (.bool false)], args := [d1, d2, d3, d4] }
  | _ => none }
def CtxSameWrongFalsely : Prop := ctxSameRow.holds Try.pinned (OpenSpec.ofChange ctxSameWrong)

/-- 'transhiplaw12.DerivPaths': WHATEVER THE INPUT: true; the input reads as it did. -/
def derivPathsSpec : ChangeSpec := { name := "derivPaths", fn := fun _ => fun
  | [d1, d2] => { results := [.lit (.bool true)], args := [d1, d2] }
  | _ => none }
def derivPathsRow : OpenClaim := { program := "ytjhdcjjoignioaa", sum := "ed55ef6ebf4bd5a25e080c22fa23337f86a3197ef7273ee9576bdf458f05676d", func := "tranship/transhiplaw12.DerivPaths", spec := "derivPaths", recurses := true, loops := true, apart := false }
def DerivPathsSaid : Prop := derivPathsRow.holds Try.pinned (OpenSpec.ofChange derivPathsSpec)

/-- ITS FALSE NEIGHBOUR: 'it returns false'. Refute it at one input. -/
def derivPathsWrong : ChangeSpec := { name := "derivPaths", fn := fun _ => fun
  | [d1, d2] => { results := [.lit (.bool false)], args := [d1, d2] }
  | _ => none }
def DerivPathsWrongFalsely : Prop := derivPathsRow.holds Try.pinned (OpenSpec.ofChange derivPathsWrong)

/- THE SECOND FORM. 'bulk': how many values and letters a reading holds, each counted each time it is reached (what is shared counts as often as it is met; a slice's spare places count too). A statement '..UptoSaid' is the law's where the arguments, and the package variables that the reading takes, are together of bulk at most 1048576: NARROWER than '..Said'. Prove '..Said' where nothing that the law and all that it calls make is longer than what came in: it says more and counts as full. Else prove '..UptoSaid'. A law counts once. -/
mutual
def uptoBulk {H : Type} : DataW H → Nat
  | .lit (.string bytes) => bytes.length + 1
  | .lit _ => 1
  | .nil => 1
  | .ptr d => uptoBulk d + 1
  | .slice elems spare => uptoBulkAll elems + uptoBulkAll spare + 1
  | .agg parts => uptoBulkAll parts + 1
  | .iface _ d => uptoBulk d + 1
  | .map entries => uptoBulkEntries entries + 1
  | .held _ => 1
def uptoBulkAll {H : Type} : List (DataW H) → Nat
  | [] => 0
  | d :: r => uptoBulk d + uptoBulkAll r
def uptoBulkEntries {H : Type} : List (Lit × DataW H) → Nat
  | [] => 0
  | x :: r => uptoBulkEntry x + uptoBulkEntries r
def uptoBulkEntry {H : Type} : Lit × DataW H → Nat
  | (.string bytes, d) => bytes.length + uptoBulk d + 1
  | (_, d) => uptoBulk d + 1
 end
def uptoSmall : (H : Type) → List (DataW H) → Bool := fun _ ds => decide (uptoBulkAll ds ≤ 1048576)
def OpenSpec.upto (s : _root_.Go.ChangeSpec) : _root_.Go.OpenSpec := { _root_.Go.OpenSpec.ofChange s with cond := some uptoSmall }

/-- 'transhiplaw11.CtxExact', WHERE WHAT IT READS IS OF BULK AT MOST 1048576: true; the input reads as it did. -/
def ctxExactUptoRow : OpenClaim := { program := "ytjhdcjjoignioaa", sum := "ed55ef6ebf4bd5a25e080c22fa23337f86a3197ef7273ee9576bdf458f05676d", func := "tranship/transhiplaw11.CtxExact", spec := "ctxExact", unfollowed := true, recurses := true, loops := true, apart := false, narrowed := true }
def CtxExactUptoSaid : Prop := ctxExactUptoRow.holds Try.pinned (OpenSpec.upto ctxExactSpec)

/-- 'transhiplaw11.CtxForms', WHERE WHAT IT READS IS OF BULK AT MOST 1048576: true; the input reads as it did. -/
def ctxFormsUptoRow : OpenClaim := { program := "ytjhdcjjoignioaa", sum := "ed55ef6ebf4bd5a25e080c22fa23337f86a3197ef7273ee9576bdf458f05676d", func := "tranship/transhiplaw11.CtxForms", spec := "ctxForms", unfollowed := true, recurses := true, loops := true, apart := false, narrowed := true }
def CtxFormsUptoSaid : Prop := ctxFormsUptoRow.holds Try.pinned (OpenSpec.upto ctxFormsSpec)

/-- 'transhiplaw11.CtxAdds', WHERE WHAT IT READS IS OF BULK AT MOST 1048576: true; the input reads as it did. -/
def ctxAddsUptoRow : OpenClaim := { program := "ytjhdcjjoignioaa", sum := "ed55ef6ebf4bd5a25e080c22fa23337f86a3197ef7273ee9576bdf458f05676d", func := "tranship/transhiplaw11.CtxAdds", spec := "ctxAdds", unfollowed := true, recurses := true, loops := true, apart := false, narrowed := true }
def CtxAddsUptoSaid : Prop := ctxAddsUptoRow.holds Try.pinned (OpenSpec.upto ctxAddsSpec)

/-- 'transhiplaw11.CtxSame', WHERE WHAT IT READS IS OF BULK AT MOST 1048576: true; the input reads as it did. -/
def ctxSameUptoRow : OpenClaim := { program := "ytjhdcjjoignioaa", sum := "ed55ef6ebf4bd5a25e080c22fa23337f86a3197ef7273ee9576bdf458f05676d", func := "tranship/transhiplaw11.CtxSame", spec := "ctxSame", unfollowed := true, recurses := true, loops := true, apart := false, narrowed := true }
def CtxSameUptoSaid : Prop := ctxSameUptoRow.holds Try.pinned (OpenSpec.upto ctxSameSpec)

/-- 'transhiplaw12.DerivPaths', WHERE WHAT IT READS IS OF BULK AT MOST 1048576: true; the input reads as it did. -/
def derivPathsUptoRow : OpenClaim := { program := "ytjhdcjjoignioaa", sum := "ed55ef6ebf4bd5a25e080c22fa23337f86a3197ef7273ee9576bdf458f05676d", func := "tranship/transhiplaw12.DerivPaths", spec := "derivPaths", recurses := true, loops := true, apart := false, narrowed := true }
def DerivPathsUptoSaid : Prop := derivPathsUptoRow.holds Try.pinned (OpenSpec.upto derivPathsSpec)

end Rows
end Go.Proofs.Ytjhdcjjoignioaa
