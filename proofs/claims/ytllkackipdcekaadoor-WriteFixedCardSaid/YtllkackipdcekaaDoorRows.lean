/-
  NARROWER THAN 'FOR EVERY INPUT', by the rows' own cells (each row's printed sentence says how): ReadExact: laid · ReadRight: laid · ReadBehind: laid · ReadInner: laid · ReadLevels: laid · ReadSymbols: laid · WriteBack: loops, laid · WriteFixed: laid.
  DERIVED. THE GIVEN ROWS OF THIS SEAT. 8 by the template 'for every input the law returns true; each argument reads behind the call as it read before'; 0 by the template 'total and deterministic' (their statements: YtllkackipdcekaaDoorTotals.lean).
  GIVEN WITH THE SEED: the statements are not yours to turn. If you find one false, say at which input.
  Laid BY PROGRAM, IN A SANDBOX (cutbox-rows.mjs): the forced cells as the released guide's own fill.sh prints them over the translation 2428fbf642093bcf… (all of the seat's roots in one cut). By AI agents, Wed Nov 11 2026. No macro, syntax, notation, axiom, sorry.
-/
import Derived.Test.YtllkackipdcekaaDoorChecked
import GoSem.Claim
import GoSem.ClaimJoined
import GoSem.ClaimMapViews
import Derived.JoinedTies
import Derived.KernelRfl
namespace Go.Proofs.YtllkackipdcekaaDoor
/- THE CELL 'sum', in the pinned program and in every row, IS THE sha256 OF THE DUMP (.gsa) THAT YtllkackipdcekaaDoorProg.lean LOADS. Nothing in Lean hashes anything: it is a label: what it is worth is what the hold of that sum in a sandbox is worth. -/
noncomputable def Tryd.pinned : Pinned := { name := "ytllkackipdcekaadoor", sum := "2428fbf642093bcf2a724d1be4a4cbe7417311b03edabc9496c8d10a6ea04e15", checked := Tryd.checked }
namespace Rows
def none {H : Type} : Left H := { results := [], args := [] }

/- WHAT THE LISTED PACKAGE-LEVEL VARIABLES READ AS WHEN THE CALL BEGINS. Each datum BY PROGRAM (the guide's laid-datum.mjs) off the statement by which the dump's own 'gosem.cut.vars' lays the variable. In a bare row this is a premise. The card (YtllkackipdcekaaDoorCards.lean) ties it to the program's text. -/
def laid_tranship_read_symbols {H : Type} : DataW H := .agg [.lit (.string [117, 105, 112]), .lit (.string [102, 117, 110, 101, 120, 116]), .lit (.string [115, 121, 109]), .lit (.string [116, 114, 97, 110, 115]), .lit (.string [116, 114]), .lit (.string [104, 101, 116]), .lit (.string [116, 121, 112]), .lit (.string [116, 114, 104]), .lit (.string [104, 112]), .lit (.string [104, 50, 101]), .lit (.string [101, 50, 104]), .lit (.string [114, 112]), .lit (.string [99, 112, 105]), .lit (.string [99, 115, 105, 103]), .lit (.string [99, 108, 97, 109]), .lit (.string [99, 97, 112, 112]), .lit (.string [99, 112, 97, 105, 114]), .lit (.string [99, 102, 115, 116]), .lit (.string [99, 115, 110, 100]), .lit (.string [99, 101, 113]), .lit (.string [99, 114, 101, 102, 108])]
def laid_tranship_read_heads {H : Type} : DataW H := .agg [.lit (.string [112, 105]), .lit (.string [108, 97, 109]), .lit (.string [97, 112, 112]), .lit (.string [115, 105, 103]), .lit (.string [112, 97, 105, 114]), .lit (.string [102, 115, 116]), .lit (.string [115, 110, 100]), .lit (.string [101, 113]), .lit (.string [114, 101, 102, 108]), .lit (.string [116, 114]), .lit (.string [80, 105]), .lit (.string [76, 97, 109]), .lit (.string [65, 112, 112]), .lit (.string [83, 105, 103]), .lit (.string [80, 97, 105, 114]), .lit (.string [70, 115, 116]), .lit (.string [83, 110, 100]), .lit (.string [69, 113]), .lit (.string [82, 101, 102, 108]), .lit (.string [74]), .lit (.string [117, 115, 101])]
def laid_math_bits_deBruijn32tab {H : Type} : DataW H := .agg [.lit (.int .u8 0), .lit (.int .u8 1), .lit (.int .u8 28), .lit (.int .u8 2), .lit (.int .u8 29), .lit (.int .u8 14), .lit (.int .u8 24), .lit (.int .u8 3), .lit (.int .u8 30), .lit (.int .u8 22), .lit (.int .u8 20), .lit (.int .u8 15), .lit (.int .u8 25), .lit (.int .u8 17), .lit (.int .u8 4), .lit (.int .u8 8), .lit (.int .u8 31), .lit (.int .u8 27), .lit (.int .u8 13), .lit (.int .u8 23), .lit (.int .u8 21), .lit (.int .u8 19), .lit (.int .u8 16), .lit (.int .u8 7), .lit (.int .u8 26), .lit (.int .u8 12), .lit (.int .u8 18), .lit (.int .u8 6), .lit (.int .u8 11), .lit (.int .u8 5), .lit (.int .u8 10), .lit (.int .u8 9)]
def laid_math_bits_deBruijn64tab {H : Type} : DataW H := .agg [.lit (.int .u8 0), .lit (.int .u8 1), .lit (.int .u8 56), .lit (.int .u8 2), .lit (.int .u8 57), .lit (.int .u8 49), .lit (.int .u8 28), .lit (.int .u8 3), .lit (.int .u8 61), .lit (.int .u8 58), .lit (.int .u8 42), .lit (.int .u8 50), .lit (.int .u8 38), .lit (.int .u8 29), .lit (.int .u8 17), .lit (.int .u8 4), .lit (.int .u8 62), .lit (.int .u8 47), .lit (.int .u8 59), .lit (.int .u8 36), .lit (.int .u8 45), .lit (.int .u8 43), .lit (.int .u8 51), .lit (.int .u8 22), .lit (.int .u8 53), .lit (.int .u8 39), .lit (.int .u8 33), .lit (.int .u8 30), .lit (.int .u8 24), .lit (.int .u8 18), .lit (.int .u8 12), .lit (.int .u8 5), .lit (.int .u8 63), .lit (.int .u8 55), .lit (.int .u8 48), .lit (.int .u8 27), .lit (.int .u8 60), .lit (.int .u8 41), .lit (.int .u8 37), .lit (.int .u8 16), .lit (.int .u8 46), .lit (.int .u8 35), .lit (.int .u8 44), .lit (.int .u8 21), .lit (.int .u8 52), .lit (.int .u8 32), .lit (.int .u8 23), .lit (.int .u8 11), .lit (.int .u8 54), .lit (.int .u8 26), .lit (.int .u8 40), .lit (.int .u8 15), .lit (.int .u8 34), .lit (.int .u8 20), .lit (.int .u8 31), .lit (.int .u8 10), .lit (.int .u8 25), .lit (.int .u8 14), .lit (.int .u8 19), .lit (.int .u8 9), .lit (.int .u8 13), .lit (.int .u8 8), .lit (.int .u8 7), .lit (.int .u8 6)]
def laid_internal_strconv_uint64pow10 {H : Type} : DataW H := .agg [.lit (.int .u64 1), .lit (.int .u64 10), .lit (.int .u64 100), .lit (.int .u64 1000), .lit (.int .u64 10000), .lit (.int .u64 100000), .lit (.int .u64 1000000), .lit (.int .u64 10000000), .lit (.int .u64 100000000), .lit (.int .u64 1000000000), .lit (.int .u64 10000000000), .lit (.int .u64 100000000000), .lit (.int .u64 1000000000000), .lit (.int .u64 10000000000000), .lit (.int .u64 100000000000000), .lit (.int .u64 1000000000000000), .lit (.int .u64 10000000000000000), .lit (.int .u64 100000000000000000), .lit (.int .u64 1000000000000000000), .lit (.int .u64 10000000000000000000)]
def laid_tranship_write_heads {H : Type} : DataW H := .agg [.lit (.string []), .lit (.string [115, 111, 114, 116]), .lit (.string []), .lit (.string [112, 105]), .lit (.string [108, 97, 109]), .lit (.string [97, 112, 112]), .lit (.string [115, 105, 103]), .lit (.string [112, 97, 105, 114]), .lit (.string [102, 115, 116]), .lit (.string [115, 110, 100]), .lit (.string [101, 113]), .lit (.string [114, 101, 102, 108]), .lit (.string [116, 114]), .lit (.string [80, 105]), .lit (.string [76, 97, 109]), .lit (.string [65, 112, 112]), .lit (.string [83, 105, 103]), .lit (.string [80, 97, 105, 114]), .lit (.string [70, 115, 116]), .lit (.string [83, 110, 100]), .lit (.string [69, 113]), .lit (.string [82, 101, 102, 108]), .lit (.string [74]), .lit (.string [117, 115, 101])]

/-- 'transhiplaw09.ReadExact': WHATEVER THE INPUT: true; the input reads as it did. -/
def readExactSpec : ChangeSpec := { name := "readExact", fn := fun _ => fun
  | [d1, d2, d3, d4] => { results := [.lit (.bool true)], args := [d1, d2, d3, d4] }
  | _ => none }
def readExactRow : OpenClaim := { program := "ytllkackipdcekaadoor", sum := "2428fbf642093bcf2a724d1be4a4cbe7417311b03edabc9496c8d10a6ea04e15", func := "tranship/transhiplaw09.ReadExact", spec := "readExact", unfollowed := true, recurses := true, named := ["tranship/read.heads", "tranship/read.symbols"], apart := false, laid := [("tranship/read.symbols", laid_tranship_read_symbols), ("tranship/read.heads", laid_tranship_read_heads)] }
def ReadExactSaid : Prop := readExactRow.holds Tryd.pinned (OpenSpec.ofChange readExactSpec)

/-- ITS FALSE NEIGHBOUR: 'it returns false'. Refute it at one input. -/
def readExactWrong : ChangeSpec := { name := "readExact", fn := fun _ => fun
  | [d1, d2, d3, d4] => { results := [.lit (.bool false)], args := [d1, d2, d3, d4] }
  | _ => none }
def ReadExactWrongFalsely : Prop := readExactRow.holds Tryd.pinned (OpenSpec.ofChange readExactWrong)

/-- 'transhiplaw09.ReadRight': WHATEVER THE INPUT: true; the input reads as it did. -/
def readRightSpec : ChangeSpec := { name := "readRight", fn := fun _ => fun
  | [d1, d2, d3, d4] => { results := [.lit (.bool true)], args := [d1, d2, d3, d4] }
  | _ => none }
def readRightRow : OpenClaim := { program := "ytllkackipdcekaadoor", sum := "2428fbf642093bcf2a724d1be4a4cbe7417311b03edabc9496c8d10a6ea04e15", func := "tranship/transhiplaw09.ReadRight", spec := "readRight", unfollowed := true, recurses := true, named := ["tranship/read.heads", "tranship/read.symbols"], apart := false, laid := [("tranship/read.symbols", laid_tranship_read_symbols), ("tranship/read.heads", laid_tranship_read_heads)] }
def ReadRightSaid : Prop := readRightRow.holds Tryd.pinned (OpenSpec.ofChange readRightSpec)

/-- ITS FALSE NEIGHBOUR: 'it returns false'. Refute it at one input. -/
def readRightWrong : ChangeSpec := { name := "readRight", fn := fun _ => fun
  | [d1, d2, d3, d4] => { results := [.lit (.bool false)], args := [d1, d2, d3, d4] }
  | _ => none }
def ReadRightWrongFalsely : Prop := readRightRow.holds Tryd.pinned (OpenSpec.ofChange readRightWrong)

/-- 'transhiplaw09.ReadBehind': WHATEVER THE INPUT: true; the input reads as it did. -/
def readBehindSpec : ChangeSpec := { name := "readBehind", fn := fun _ => fun
  | [d1, d2, d3] => { results := [.lit (.bool true)], args := [d1, d2, d3] }
  | _ => none }
def readBehindRow : OpenClaim := { program := "ytllkackipdcekaadoor", sum := "2428fbf642093bcf2a724d1be4a4cbe7417311b03edabc9496c8d10a6ea04e15", func := "tranship/transhiplaw09.ReadBehind", spec := "readBehind", unfollowed := true, recurses := true, named := ["tranship/read.heads", "tranship/read.symbols"], apart := false, laid := [("tranship/read.symbols", laid_tranship_read_symbols), ("tranship/read.heads", laid_tranship_read_heads)] }
def ReadBehindSaid : Prop := readBehindRow.holds Tryd.pinned (OpenSpec.ofChange readBehindSpec)

/-- ITS FALSE NEIGHBOUR: 'it returns false'. Refute it at one input. -/
def readBehindWrong : ChangeSpec := { name := "readBehind", fn := fun _ => fun
  | [d1, d2, d3] => { results := [.lit (.bool false)], args := [d1, d2, d3] }
  | _ => none }
def ReadBehindWrongFalsely : Prop := readBehindRow.holds Tryd.pinned (OpenSpec.ofChange readBehindWrong)

/-- 'transhiplaw09.ReadInner': WHATEVER THE INPUT: true; the input reads as it did. -/
def readInnerSpec : ChangeSpec := { name := "readInner", fn := fun _ => fun
  | [d1, d2] => { results := [.lit (.bool true)], args := [d1, d2] }
  | _ => none }
def readInnerRow : OpenClaim := { program := "ytllkackipdcekaadoor", sum := "2428fbf642093bcf2a724d1be4a4cbe7417311b03edabc9496c8d10a6ea04e15", func := "tranship/transhiplaw09.ReadInner", spec := "readInner", unfollowed := true, recurses := true, named := ["tranship/read.heads", "tranship/read.symbols"], apart := false, laid := [("tranship/read.symbols", laid_tranship_read_symbols), ("tranship/read.heads", laid_tranship_read_heads)] }
def ReadInnerSaid : Prop := readInnerRow.holds Tryd.pinned (OpenSpec.ofChange readInnerSpec)

/-- ITS FALSE NEIGHBOUR: 'it returns false'. Refute it at one input. -/
def readInnerWrong : ChangeSpec := { name := "readInner", fn := fun _ => fun
  | [d1, d2] => { results := [.lit (.bool false)], args := [d1, d2] }
  | _ => none }
def ReadInnerWrongFalsely : Prop := readInnerRow.holds Tryd.pinned (OpenSpec.ofChange readInnerWrong)

/-- 'transhiplaw09.ReadLevels': WHATEVER THE INPUT: true; the input reads as it did. -/
def readLevelsSpec : ChangeSpec := { name := "readLevels", fn := fun _ => fun
  | [d1, d2, d3, d4] => { results := [.lit (.bool true)], args := [d1, d2, d3, d4] }
  | _ => none }
def readLevelsRow : OpenClaim := { program := "ytllkackipdcekaadoor", sum := "2428fbf642093bcf2a724d1be4a4cbe7417311b03edabc9496c8d10a6ea04e15", func := "tranship/transhiplaw09.ReadLevels", spec := "readLevels", unfollowed := true, recurses := true, named := ["tranship/read.heads", "tranship/read.symbols"], apart := false, laid := [("tranship/read.symbols", laid_tranship_read_symbols), ("tranship/read.heads", laid_tranship_read_heads)] }
def ReadLevelsSaid : Prop := readLevelsRow.holds Tryd.pinned (OpenSpec.ofChange readLevelsSpec)

/-- ITS FALSE NEIGHBOUR: 'it returns false'. Refute it at one input. -/
def readLevelsWrong : ChangeSpec := { name := "readLevels", fn := fun _ => fun
  | [d1, d2, d3, d4] => { results := [.lit (.bool false)], args := [d1, d2, d3, d4] }
  | _ => none }
def ReadLevelsWrongFalsely : Prop := readLevelsRow.holds Tryd.pinned (OpenSpec.ofChange readLevelsWrong)

/-- 'transhiplaw09.ReadSymbols': WHATEVER THE INPUT: true; the input reads as it did. -/
def readSymbolsSpec : ChangeSpec := { name := "readSymbols", fn := fun _ => fun
  | [d1, d2] => { results := [.lit (.bool true)], args := [d1, d2] }
  | _ => none }
def readSymbolsRow : OpenClaim := { program := "ytllkackipdcekaadoor", sum := "2428fbf642093bcf2a724d1be4a4cbe7417311b03edabc9496c8d10a6ea04e15", func := "tranship/transhiplaw09.ReadSymbols", spec := "readSymbols", unfollowed := true, recurses := true, named := ["tranship/read.symbols", "tranship/read.heads"], apart := false, laid := [("tranship/read.symbols", laid_tranship_read_symbols), ("tranship/read.heads", laid_tranship_read_heads)] }
def ReadSymbolsSaid : Prop := readSymbolsRow.holds Tryd.pinned (OpenSpec.ofChange readSymbolsSpec)

/-- ITS FALSE NEIGHBOUR: 'it returns false'. Refute it at one input. -/
def readSymbolsWrong : ChangeSpec := { name := "readSymbols", fn := fun _ => fun
  | [d1, d2] => { results := [.lit (.bool false)], args := [d1, d2] }
  | _ => none }
def ReadSymbolsWrongFalsely : Prop := readSymbolsRow.holds Tryd.pinned (OpenSpec.ofChange readSymbolsWrong)

/-- 'transhiplaw10.WriteBack': WHATEVER THE INPUT: true; the input reads as it did. -/
def writeBackSpec : ChangeSpec := { name := "writeBack", fn := fun _ => fun
  | [d1, d2] => { results := [.lit (.bool true)], args := [d1, d2] }
  | _ => none }
def writeBackRow : OpenClaim := { program := "ytllkackipdcekaadoor", sum := "2428fbf642093bcf2a724d1be4a4cbe7417311b03edabc9496c8d10a6ea04e15", func := "tranship/transhiplaw10.WriteBack", spec := "writeBack", inPlace := ["internal/abi.NoEscape"], unfollowed := true, recurses := true, named := ["tranship/write.heads", "internal/strconv.uint64pow10", "math/bits.deBruijn32tab", "math/bits.deBruijn64tab", "tranship/read.symbols", "tranship/read.heads"], loops := true, apart := false, laid := [("math/bits.deBruijn32tab", laid_math_bits_deBruijn32tab), ("math/bits.deBruijn64tab", laid_math_bits_deBruijn64tab), ("internal/strconv.uint64pow10", laid_internal_strconv_uint64pow10), ("tranship/read.symbols", laid_tranship_read_symbols), ("tranship/read.heads", laid_tranship_read_heads), ("tranship/write.heads", laid_tranship_write_heads)] }
def WriteBackSaid : Prop := writeBackRow.holds Tryd.pinned (OpenSpec.ofChange writeBackSpec)

/-- ITS FALSE NEIGHBOUR: 'it returns false'. Refute it at one input. -/
def writeBackWrong : ChangeSpec := { name := "writeBack", fn := fun _ => fun
  | [d1, d2] => { results := [.lit (.bool false)], args := [d1, d2] }
  | _ => none }
def WriteBackWrongFalsely : Prop := writeBackRow.holds Tryd.pinned (OpenSpec.ofChange writeBackWrong)

/-- 'transhiplaw10.WriteFixed': WHATEVER THE INPUT: true; the input reads as it did. -/
def writeFixedSpec : ChangeSpec := { name := "writeFixed", fn := fun _ => fun
  | [d1, d2] => { results := [.lit (.bool true)], args := [d1, d2] }
  | _ => none }
def writeFixedRow : OpenClaim := { program := "ytllkackipdcekaadoor", sum := "2428fbf642093bcf2a724d1be4a4cbe7417311b03edabc9496c8d10a6ea04e15", func := "tranship/transhiplaw10.WriteFixed", spec := "writeFixed", inPlace := ["internal/abi.NoEscape"], unfollowed := true, recurses := true, named := ["internal/strconv.uint64pow10", "math/bits.deBruijn32tab", "math/bits.deBruijn64tab", "tranship/read.heads", "tranship/read.symbols", "tranship/write.heads"], apart := false, laid := [("math/bits.deBruijn32tab", laid_math_bits_deBruijn32tab), ("math/bits.deBruijn64tab", laid_math_bits_deBruijn64tab), ("internal/strconv.uint64pow10", laid_internal_strconv_uint64pow10), ("tranship/read.symbols", laid_tranship_read_symbols), ("tranship/read.heads", laid_tranship_read_heads), ("tranship/write.heads", laid_tranship_write_heads)] }
def WriteFixedSaid : Prop := writeFixedRow.holds Tryd.pinned (OpenSpec.ofChange writeFixedSpec)

/-- ITS FALSE NEIGHBOUR: 'it returns false'. Refute it at one input. -/
def writeFixedWrong : ChangeSpec := { name := "writeFixed", fn := fun _ => fun
  | [d1, d2] => { results := [.lit (.bool false)], args := [d1, d2] }
  | _ => none }
def WriteFixedWrongFalsely : Prop := writeFixedRow.holds Tryd.pinned (OpenSpec.ofChange writeFixedWrong)

/- THE SECOND FORM. 'bulk': how many values and letters a reading holds, each counted each time it is reached (what is shared counts as often as it is met; a slice's spare places count too). A statement '..UptoSaid' is the law's where the arguments, and the package variables that the reading takes, are together of bulk at most 1048576: NARROWER than '..Said'. Prove '..Said' where nothing that the law and all that it calls make is longer than what came in: it says more and counts as full. Else prove '..UptoSaid'. A law counts once. -/
mutual
def uptoBulk {H : Type} : DataW H → Nat
  | .lit (.string bytes) => bytes.length + 1
  | .lit _ => 1
  | .nil => 1
  | .ptr d => uptoBulk d + 1
  | .slice elems spare => uptoBulkAll elems + uptoBulkAll spare + 1
  | .agg parts => uptoBulkAll parts + 1
  | .iface _ d => uptoBulk d + 1
  | .map entries => uptoBulkEntries entries + 1
  | .held _ => 1
def uptoBulkAll {H : Type} : List (DataW H) → Nat
  | [] => 0
  | d :: r => uptoBulk d + uptoBulkAll r
def uptoBulkEntries {H : Type} : List (Lit × DataW H) → Nat
  | [] => 0
  | x :: r => uptoBulkEntry x + uptoBulkEntries r
def uptoBulkEntry {H : Type} : Lit × DataW H → Nat
  | (.string bytes, d) => bytes.length + uptoBulk d + 1
  | (_, d) => uptoBulk d + 1
 end
def uptoSmall : (H : Type) → List (DataW H) → Bool := fun _ ds => decide (uptoBulkAll ds ≤ 1048576)
def OpenSpec.upto (s : _root_.Go.ChangeSpec) : _root_.Go.OpenSpec := { _root_.Go.OpenSpec.ofChange s with cond := some uptoSmall }

/-- 'transhiplaw09.ReadExact', WHERE WHAT IT READS IS OF BULK AT MOST 1048576: true; the input reads as it did. -/
def readExactUptoRow : OpenClaim := { program := "ytllkackipdcekaadoor", sum := "2428fbf642093bcf2a724d1be4a4cbe7417311b03edabc9496c8d10a6ea04e15", func := "tranship/transhiplaw09.ReadExact", spec := "readExact", unfollowed := true, recurses := true, named := ["tranship/read.heads", "tranship/read.symbols"], apart := false, laid := [("tranship/read.symbols", laid_tranship_read_symbols), ("tranship/read.heads", laid_tranship_read_heads)], narrowed := true }
def ReadExactUptoSaid : Prop := readExactUptoRow.holds Tryd.pinned (OpenSpec.upto readExactSpec)

/-- 'transhiplaw09.ReadRight', WHERE WHAT IT READS IS OF BULK AT MOST 1048576: true; the input reads as it did. -/
def readRightUptoRow : OpenClaim := { program := "ytllkackipdcekaadoor", sum := "2428fbf642093bcf2a724d1be4a4cbe7417311b03edabc9496c8d10a6ea04e15", func := "tranship/transhiplaw09.ReadRight", spec := "readRight", unfollowed := true, recurses := true, named := ["tranship/read.heads", "tranship/read.symbols"], apart := false, laid := [("tranship/read.symbols", laid_tranship_read_symbols), ("tranship/read.heads", laid_tranship_read_heads)], narrowed := true }
def ReadRightUptoSaid : Prop := readRightUptoRow.holds Tryd.pinned (OpenSpec.upto readRightSpec)

/-- 'transhiplaw09.ReadBehind', WHERE WHAT IT READS IS OF BULK AT MOST 1048576: true; the input reads as it did. -/
def readBehindUptoRow : OpenClaim := { program := "ytllkackipdcekaadoor", sum := "2428fbf642093bcf2a724d1be4a4cbe7417311b03edabc9496c8d10a6ea04e15", func := "tranship/transhiplaw09.ReadBehind", spec := "readBehind", unfollowed := true, recurses := true, named := ["tranship/read.heads", "tranship/read.symbols"], apart := false, laid := [("tranship/read.symbols", laid_tranship_read_symbols), ("tranship/read.heads", laid_tranship_read_heads)], narrowed := true }
def ReadBehindUptoSaid : Prop := readBehindUptoRow.holds Tryd.pinned (OpenSpec.upto readBehindSpec)

/-- 'transhiplaw09.ReadInner', WHERE WHAT IT READS IS OF BULK AT MOST 1048576: true; the input reads as it did. -/
def readInnerUptoRow : OpenClaim := { program := "ytllkackipdcekaadoor", sum := "2428fbf642093bcf2a724d1be4a4cbe7417311b03edabc9496c8d10a6ea04e15", func := "tranship/transhiplaw09.ReadInner", spec := "readInner", unfollowed := true, recurses := true, named := ["tranship/read.heads", "tranship/read.symbols"], apart := false, laid := [("tranship/read.symbols", laid_tranship_read_symbols), ("tranship/read.heads", laid_tranship_read_heads)], narrowed := true }
def ReadInnerUptoSaid : Prop := readInnerUptoRow.holds Tryd.pinned (OpenSpec.upto readInnerSpec)

/-- 'transhiplaw09.ReadLevels', WHERE WHAT IT READS IS OF BULK AT MOST 1048576: true; the input reads as it did. -/
def readLevelsUptoRow : OpenClaim := { program := "ytllkackipdcekaadoor", sum := "2428fbf642093bcf2a724d1be4a4cbe7417311b03edabc9496c8d10a6ea04e15", func := "tranship/transhiplaw09.ReadLevels", spec := "readLevels", unfollowed := true, recurses := true, named := ["tranship/read.heads", "tranship/read.symbols"], apart := false, laid := [("tranship/read.symbols", laid_tranship_read_symbols), ("tranship/read.heads", laid_tranship_read_heads)], narrowed := true }
def ReadLevelsUptoSaid : Prop := readLevelsUptoRow.holds Tryd.pinned (OpenSpec.upto readLevelsSpec)

/-- 'transhiplaw09.ReadSymbols', WHERE WHAT IT READS IS OF BULK AT MOST 1048576: true; the input reads as it did. -/
def readSymbolsUptoRow : OpenClaim := { program := "ytllkackipdcekaadoor", sum := "2428fbf642093bcf2a724d1be4a4cbe7417311b03edabc9496c8d10a6ea04e15", func := "tranship/transhiplaw09.ReadSymbols", spec := "readSymbols", unfollowed := true, recurses := true, named := ["tranship/read.symbols", "tranship/read.heads"], apart := false, laid := [("tranship/read.symbols", laid_tranship_read_symbols), ("tranship/read.heads", laid_tranship_read_heads)], narrowed := true }
def ReadSymbolsUptoSaid : Prop := readSymbolsUptoRow.holds Tryd.pinned (OpenSpec.upto readSymbolsSpec)

/-- 'transhiplaw10.WriteBack', WHERE WHAT IT READS IS OF BULK AT MOST 1048576: true; the input reads as it did. -/
def writeBackUptoRow : OpenClaim := { program := "ytllkackipdcekaadoor", sum := "2428fbf642093bcf2a724d1be4a4cbe7417311b03edabc9496c8d10a6ea04e15", func := "tranship/transhiplaw10.WriteBack", spec := "writeBack", inPlace := ["internal/abi.NoEscape"], unfollowed := true, recurses := true, named := ["tranship/write.heads", "internal/strconv.uint64pow10", "math/bits.deBruijn32tab", "math/bits.deBruijn64tab", "tranship/read.symbols", "tranship/read.heads"], loops := true, apart := false, laid := [("math/bits.deBruijn32tab", laid_math_bits_deBruijn32tab), ("math/bits.deBruijn64tab", laid_math_bits_deBruijn64tab), ("internal/strconv.uint64pow10", laid_internal_strconv_uint64pow10), ("tranship/read.symbols", laid_tranship_read_symbols), ("tranship/read.heads", laid_tranship_read_heads), ("tranship/write.heads", laid_tranship_write_heads)], narrowed := true }
def WriteBackUptoSaid : Prop := writeBackUptoRow.holds Tryd.pinned (OpenSpec.upto writeBackSpec)

/-- 'transhiplaw10.WriteFixed', WHERE WHAT IT READS IS OF BULK AT MOST 1048576: true; the input reads as it did. -/
def writeFixedUptoRow : OpenClaim := { program := "ytllkackipdcekaadoor", sum := "2428fbf642093bcf2a724d1be4a4cbe7417311b03edabc9496c8d10a6ea04e15", func := "tranship/transhiplaw10.WriteFixed", spec := "writeFixed", inPlace := ["internal/abi.NoEscape"], unfollowed := true, recurses := true, named := ["internal/strconv.uint64pow10", "math/bits.deBruijn32tab", "math/bits.deBruijn64tab", "tranship/read.heads", "tranship/read.symbols", "tranship/write.heads"], apart := false, laid := [("math/bits.deBruijn32tab", laid_math_bits_deBruijn32tab), ("math/bits.deBruijn64tab", laid_math_bits_deBruijn64tab), ("internal/strconv.uint64pow10", laid_internal_strconv_uint64pow10), ("tranship/read.symbols", laid_tranship_read_symbols), ("tranship/read.heads", laid_tranship_read_heads), ("tranship/write.heads", laid_tranship_write_heads)], narrowed := true }
def WriteFixedUptoSaid : Prop := writeFixedUptoRow.holds Tryd.pinned (OpenSpec.upto writeFixedSpec)

end Rows
end Go.Proofs.YtllkackipdcekaaDoor
