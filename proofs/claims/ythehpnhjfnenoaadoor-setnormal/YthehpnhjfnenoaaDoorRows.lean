/-
  NARROWER THAN 'FOR EVERY INPUT', by the rows' own cells (each row's printed sentence says how): Names: laid · IpHalves: laid · IpTells: laid · IpOrder: laid · SetNormal: laid.
  DERIVED. THE GIVEN ROWS OF THIS SEAT. 5 by the template 'for every input the law returns true; each argument reads behind the call as it read before'; 0 by the template 'total and deterministic' (their statements: YthehpnhjfnenoaaDoorTotals.lean).
  GIVEN WITH THE SEED: the statements are not yours to turn. If you find one false, say at which input.
  Laid BY PROGRAM, IN A SANDBOX (cutbox-rows.mjs): the forced cells as the released guide's own fill.sh prints them over the translation 0979cd198bc13320… (all of the seat's roots in one cut). By AI agents, Wed Nov 11 2026. No macro, syntax, notation, axiom, sorry.
-/
import Derived.Test.YthehpnhjfnenoaaDoorChecked
import GoSem.PinnedTables
import GoSem.Claim
import GoSem.ClaimJoined
import GoSem.ClaimMapViews
import Derived.JoinedTies
import Derived.KernelRfl
namespace Go.Proofs.YthehpnhjfnenoaaDoor
/- THE CELL 'sum', in the pinned program and in every row, IS THE sha256 OF THE DUMP (.gsa) THAT YthehpnhjfnenoaaDoorProg.lean LOADS. Nothing in Lean hashes anything: it is a label: what it is worth is what the hold of that sum in a sandbox is worth. -/
noncomputable def Tryd.pinned : Pinned := { name := "ythehpnhjfnenoaadoor", sum := "0979cd198bc13320db3b0d5232009fdb7c8267fa339116a155bcf95591046cd9", checked := Tryd.checked }
namespace Rows
def none {H : Type} : Left H := { results := [], args := [] }

/- WHAT THE LISTED PACKAGE-LEVEL VARIABLES READ AS WHEN THE CALL BEGINS. Each datum BY PROGRAM (the guide's laid-datum.mjs) off the statement by which the dump's own 'gosem.cut.vars' lays the variable. In a bare row this is a premise. The card (YthehpnhjfnenoaaDoorCards.lean) ties it to the program's text. -/
def laid_errors_errorType {H : Type} : DataW H := .iface "internal/reflectlite.rtype" (.agg [.ptr (.lit (.string [101, 114, 114, 111, 114]))])
def laid_herepath_api_ErrText {H : Type} : DataW H := .iface "*errors.errorString" (.ptr (.agg [.lit (.string [104, 101, 114, 101, 112, 97, 116, 104, 58, 32, 116, 101, 120, 116])]))
def laid_herepath_api_ErrBound {H : Type} : DataW H := .iface "*errors.errorString" (.ptr (.agg [.lit (.string [104, 101, 114, 101, 112, 97, 116, 104, 58, 32, 98, 111, 117, 110, 100])]))
def laid_herepath_api_ErrShape {H : Type} : DataW H := .iface "*errors.errorString" (.ptr (.agg [.lit (.string [104, 101, 114, 101, 112, 97, 116, 104, 58, 32, 115, 104, 97, 112, 101])]))
def laid_herepath_api_ErrKind {H : Type} : DataW H := .iface "*errors.errorString" (.ptr (.agg [.lit (.string [104, 101, 114, 101, 112, 97, 116, 104, 58, 32, 107, 105, 110, 100])]))
def laid_herepath_api_ErrNone {H : Type} : DataW H := .iface "*errors.errorString" (.ptr (.agg [.lit (.string [104, 101, 114, 101, 112, 97, 116, 104, 58, 32, 110, 111, 110, 101])]))
def laid_herepath_api_ErrExist {H : Type} : DataW H := .iface "*errors.errorString" (.ptr (.agg [.lit (.string [104, 101, 114, 101, 112, 97, 116, 104, 58, 32, 101, 120, 105, 115, 116])]))
def laid_herepath_api_ErrFull {H : Type} : DataW H := .iface "*errors.errorString" (.ptr (.agg [.lit (.string [104, 101, 114, 101, 112, 97, 116, 104, 58, 32, 102, 117, 108, 108])]))
def laid_herepath_api_ErrOrder {H : Type} : DataW H := .iface "*errors.errorString" (.ptr (.agg [.lit (.string [104, 101, 114, 101, 112, 97, 116, 104, 58, 32, 111, 114, 100, 101, 114])]))
def laid_herepath_api_ErrLoop {H : Type} : DataW H := .iface "*errors.errorString" (.ptr (.agg [.lit (.string [104, 101, 114, 101, 112, 97, 116, 104, 58, 32, 108, 111, 111, 112])]))
def laid_math_bits_deBruijn32tab {H : Type} : DataW H := .agg [.lit (.int .u8 0), .lit (.int .u8 1), .lit (.int .u8 28), .lit (.int .u8 2), .lit (.int .u8 29), .lit (.int .u8 14), .lit (.int .u8 24), .lit (.int .u8 3), .lit (.int .u8 30), .lit (.int .u8 22), .lit (.int .u8 20), .lit (.int .u8 15), .lit (.int .u8 25), .lit (.int .u8 17), .lit (.int .u8 4), .lit (.int .u8 8), .lit (.int .u8 31), .lit (.int .u8 27), .lit (.int .u8 13), .lit (.int .u8 23), .lit (.int .u8 21), .lit (.int .u8 19), .lit (.int .u8 16), .lit (.int .u8 7), .lit (.int .u8 26), .lit (.int .u8 12), .lit (.int .u8 18), .lit (.int .u8 6), .lit (.int .u8 11), .lit (.int .u8 5), .lit (.int .u8 10), .lit (.int .u8 9)]
def laid_math_bits_deBruijn64tab {H : Type} : DataW H := .agg [.lit (.int .u8 0), .lit (.int .u8 1), .lit (.int .u8 56), .lit (.int .u8 2), .lit (.int .u8 57), .lit (.int .u8 49), .lit (.int .u8 28), .lit (.int .u8 3), .lit (.int .u8 61), .lit (.int .u8 58), .lit (.int .u8 42), .lit (.int .u8 50), .lit (.int .u8 38), .lit (.int .u8 29), .lit (.int .u8 17), .lit (.int .u8 4), .lit (.int .u8 62), .lit (.int .u8 47), .lit (.int .u8 59), .lit (.int .u8 36), .lit (.int .u8 45), .lit (.int .u8 43), .lit (.int .u8 51), .lit (.int .u8 22), .lit (.int .u8 53), .lit (.int .u8 39), .lit (.int .u8 33), .lit (.int .u8 30), .lit (.int .u8 24), .lit (.int .u8 18), .lit (.int .u8 12), .lit (.int .u8 5), .lit (.int .u8 63), .lit (.int .u8 55), .lit (.int .u8 48), .lit (.int .u8 27), .lit (.int .u8 60), .lit (.int .u8 41), .lit (.int .u8 37), .lit (.int .u8 16), .lit (.int .u8 46), .lit (.int .u8 35), .lit (.int .u8 44), .lit (.int .u8 21), .lit (.int .u8 52), .lit (.int .u8 32), .lit (.int .u8 23), .lit (.int .u8 11), .lit (.int .u8 54), .lit (.int .u8 26), .lit (.int .u8 40), .lit (.int .u8 15), .lit (.int .u8 34), .lit (.int .u8 20), .lit (.int .u8 31), .lit (.int .u8 10), .lit (.int .u8 25), .lit (.int .u8 14), .lit (.int .u8 19), .lit (.int .u8 9), .lit (.int .u8 13), .lit (.int .u8 8), .lit (.int .u8 7), .lit (.int .u8 6)]
def laid_internal_strconv_uint64pow10 {H : Type} : DataW H := .agg [.lit (.int .u64 1), .lit (.int .u64 10), .lit (.int .u64 100), .lit (.int .u64 1000), .lit (.int .u64 10000), .lit (.int .u64 100000), .lit (.int .u64 1000000), .lit (.int .u64 10000000), .lit (.int .u64 100000000), .lit (.int .u64 1000000000), .lit (.int .u64 10000000000), .lit (.int .u64 100000000000), .lit (.int .u64 1000000000000), .lit (.int .u64 10000000000000), .lit (.int .u64 100000000000000), .lit (.int .u64 1000000000000000), .lit (.int .u64 10000000000000000), .lit (.int .u64 100000000000000000), .lit (.int .u64 1000000000000000000), .lit (.int .u64 10000000000000000000)]
def laid_unicode_utf8_acceptRanges {H : Type} : DataW H := .agg [.agg [.lit (.int .u8 128), .lit (.int .u8 191)], .agg [.lit (.int .u8 160), .lit (.int .u8 191)], .agg [.lit (.int .u8 128), .lit (.int .u8 159)], .agg [.lit (.int .u8 144), .lit (.int .u8 191)], .agg [.lit (.int .u8 128), .lit (.int .u8 143)], .agg [.lit (.int .u8 0), .lit (.int .u8 0)], .agg [.lit (.int .u8 0), .lit (.int .u8 0)], .agg [.lit (.int .u8 0), .lit (.int .u8 0)], .agg [.lit (.int .u8 0), .lit (.int .u8 0)], .agg [.lit (.int .u8 0), .lit (.int .u8 0)], .agg [.lit (.int .u8 0), .lit (.int .u8 0)], .agg [.lit (.int .u8 0), .lit (.int .u8 0)], .agg [.lit (.int .u8 0), .lit (.int .u8 0)], .agg [.lit (.int .u8 0), .lit (.int .u8 0)], .agg [.lit (.int .u8 0), .lit (.int .u8 0)], .agg [.lit (.int .u8 0), .lit (.int .u8 0)]]
/-- One of Go's own tables, pinned by name: the form's constant. -/
def laid_unicode_utf8_first : DataW Unit := Go.Pinned.utf8First

/-- 'herepathlaw1.Names': WHATEVER THE INPUT: true; the input reads as it did. -/
def namesSpec : ChangeSpec := { name := "names", fn := fun _ => fun
  | [] => { results := [.lit (.bool true)], args := [] }
  | _ => none }
def namesRow : OpenClaim := { program := "ythehpnhjfnenoaadoor", sum := "0979cd198bc13320db3b0d5232009fdb7c8267fa339116a155bcf95591046cd9", func := "herepath/herepathlaw1.Names", spec := "names", inPlace := ["internal/reflectlite.ValueOf", "(internal/reflectlite.Value).Type", "(internal/reflectlite.Value).IsNil", "internal/reflectlite.TypeOf", "(internal/reflectlite.Value).Elem", "(internal/reflectlite.Value).Set"], unfollowed := true, recurses := true, named := ["herepath/api.ErrText", "herepath/api.ErrBound", "herepath/api.ErrShape", "herepath/api.ErrKind", "herepath/api.ErrNone", "herepath/api.ErrExist", "herepath/api.ErrFull", "herepath/api.ErrOrder", "herepath/api.ErrLoop", "errors.errorType"], apart := false, laid := [("errors.errorType", laid_errors_errorType), ("herepath/api.ErrText", laid_herepath_api_ErrText), ("herepath/api.ErrBound", laid_herepath_api_ErrBound), ("herepath/api.ErrShape", laid_herepath_api_ErrShape), ("herepath/api.ErrKind", laid_herepath_api_ErrKind), ("herepath/api.ErrNone", laid_herepath_api_ErrNone), ("herepath/api.ErrExist", laid_herepath_api_ErrExist), ("herepath/api.ErrFull", laid_herepath_api_ErrFull), ("herepath/api.ErrOrder", laid_herepath_api_ErrOrder), ("herepath/api.ErrLoop", laid_herepath_api_ErrLoop)] }
def NamesSaid : Prop := namesRow.holds Tryd.pinned (OpenSpec.ofChange namesSpec)

/-- ITS FALSE NEIGHBOUR: 'it returns false'. Refute it at one input. -/
def namesWrong : ChangeSpec := { name := "names", fn := fun _ => fun
  | [] => { results := [.lit (.bool false)], args := [] }
  | _ => none }
def NamesWrongFalsely : Prop := namesRow.holds Tryd.pinned (OpenSpec.ofChange namesWrong)

/-- 'herepathlaw1.IpHalves': WHATEVER THE INPUT: true; the input reads as it did. -/
def ipHalvesSpec : ChangeSpec := { name := "ipHalves", fn := fun _ => fun
  | [d1, d2, d3] => { results := [.lit (.bool true)], args := [d1, d2, d3] }
  | _ => none }
def ipHalvesRow : OpenClaim := { program := "ythehpnhjfnenoaadoor", sum := "0979cd198bc13320db3b0d5232009fdb7c8267fa339116a155bcf95591046cd9", func := "herepath/herepathlaw1.IpHalves", spec := "ipHalves", inPlace := ["internal/bytealg.IndexByteString", "internal/bytealg.IndexString", "internal/bytealg.CountString"], named := ["herepath/api.ErrText", "internal/bytealg.MaxLen", "unicode/utf8.first", "unicode/utf8.acceptRanges", "herepath/api.ErrBound", "herepath/api.ErrShape", "internal/strconv.uint64pow10", "math/bits.deBruijn32tab", "math/bits.deBruijn64tab", "herepath/api.ErrNone"], apart := false, laid := [("math/bits.deBruijn32tab", laid_math_bits_deBruijn32tab), ("math/bits.deBruijn64tab", laid_math_bits_deBruijn64tab), ("internal/strconv.uint64pow10", laid_internal_strconv_uint64pow10), ("unicode/utf8.acceptRanges", laid_unicode_utf8_acceptRanges), ("herepath/api.ErrText", laid_herepath_api_ErrText), ("herepath/api.ErrBound", laid_herepath_api_ErrBound), ("herepath/api.ErrShape", laid_herepath_api_ErrShape), ("herepath/api.ErrNone", laid_herepath_api_ErrNone), ("unicode/utf8.first", laid_unicode_utf8_first)] }
def IpHalvesSaid : Prop := ipHalvesRow.holds Tryd.pinned (OpenSpec.ofChange ipHalvesSpec)

/-- ITS FALSE NEIGHBOUR: 'it returns false'. Refute it at one input. -/
def ipHalvesWrong : ChangeSpec := { name := "ipHalves", fn := fun _ => fun
  | [d1, d2, d3] => { results := [.lit (.bool false)], args := [d1, d2, d3] }
  | _ => none }
def IpHalvesWrongFalsely : Prop := ipHalvesRow.holds Tryd.pinned (OpenSpec.ofChange ipHalvesWrong)

/-- 'herepathlaw1.IpTells': WHATEVER THE INPUT: true; the input reads as it did. -/
def ipTellsSpec : ChangeSpec := { name := "ipTells", fn := fun _ => fun
  | [d1, d2, d3, d4, d5] => { results := [.lit (.bool true)], args := [d1, d2, d3, d4, d5] }
  | _ => none }
def ipTellsRow : OpenClaim := { program := "ythehpnhjfnenoaadoor", sum := "0979cd198bc13320db3b0d5232009fdb7c8267fa339116a155bcf95591046cd9", func := "herepath/herepathlaw1.IpTells", spec := "ipTells", inPlace := ["internal/bytealg.IndexByteString", "internal/bytealg.IndexString", "internal/bytealg.CountString", "internal/reflectlite.ValueOf", "(internal/reflectlite.Value).Type", "(internal/reflectlite.Value).IsNil", "internal/reflectlite.TypeOf", "(internal/reflectlite.Value).Elem", "(internal/reflectlite.Value).Set"], unfollowed := true, recurses := true, named := ["herepath/api.ErrText", "internal/bytealg.MaxLen", "unicode/utf8.first", "unicode/utf8.acceptRanges", "herepath/api.ErrBound", "herepath/api.ErrShape", "internal/strconv.uint64pow10", "math/bits.deBruijn32tab", "math/bits.deBruijn64tab", "herepath/api.ErrKind", "herepath/api.ErrNone", "herepath/api.ErrExist", "herepath/api.ErrFull", "herepath/api.ErrOrder", "herepath/api.ErrLoop", "errors.errorType"], apart := false, laid := [("math/bits.deBruijn32tab", laid_math_bits_deBruijn32tab), ("math/bits.deBruijn64tab", laid_math_bits_deBruijn64tab), ("internal/strconv.uint64pow10", laid_internal_strconv_uint64pow10), ("unicode/utf8.acceptRanges", laid_unicode_utf8_acceptRanges), ("errors.errorType", laid_errors_errorType), ("herepath/api.ErrText", laid_herepath_api_ErrText), ("herepath/api.ErrBound", laid_herepath_api_ErrBound), ("herepath/api.ErrShape", laid_herepath_api_ErrShape), ("herepath/api.ErrKind", laid_herepath_api_ErrKind), ("herepath/api.ErrNone", laid_herepath_api_ErrNone), ("herepath/api.ErrExist", laid_herepath_api_ErrExist), ("herepath/api.ErrFull", laid_herepath_api_ErrFull), ("herepath/api.ErrOrder", laid_herepath_api_ErrOrder), ("herepath/api.ErrLoop", laid_herepath_api_ErrLoop), ("unicode/utf8.first", laid_unicode_utf8_first)] }
def IpTellsSaid : Prop := ipTellsRow.holds Tryd.pinned (OpenSpec.ofChange ipTellsSpec)

/-- ITS FALSE NEIGHBOUR: 'it returns false'. Refute it at one input. -/
def ipTellsWrong : ChangeSpec := { name := "ipTells", fn := fun _ => fun
  | [d1, d2, d3, d4, d5] => { results := [.lit (.bool false)], args := [d1, d2, d3, d4, d5] }
  | _ => none }
def IpTellsWrongFalsely : Prop := ipTellsRow.holds Tryd.pinned (OpenSpec.ofChange ipTellsWrong)

/-- 'herepathlaw1.IpOrder': WHATEVER THE INPUT: true; the input reads as it did. -/
def ipOrderSpec : ChangeSpec := { name := "ipOrder", fn := fun _ => fun
  | [d1, d2, d3] => { results := [.lit (.bool true)], args := [d1, d2, d3] }
  | _ => none }
def ipOrderRow : OpenClaim := { program := "ythehpnhjfnenoaadoor", sum := "0979cd198bc13320db3b0d5232009fdb7c8267fa339116a155bcf95591046cd9", func := "herepath/herepathlaw1.IpOrder", spec := "ipOrder", inPlace := ["internal/bytealg.IndexByteString", "internal/bytealg.IndexString", "internal/bytealg.CountString"], named := ["herepath/api.ErrText", "internal/bytealg.MaxLen", "unicode/utf8.first", "unicode/utf8.acceptRanges", "herepath/api.ErrBound", "herepath/api.ErrShape", "internal/strconv.uint64pow10", "math/bits.deBruijn32tab", "math/bits.deBruijn64tab"], apart := false, laid := [("math/bits.deBruijn32tab", laid_math_bits_deBruijn32tab), ("math/bits.deBruijn64tab", laid_math_bits_deBruijn64tab), ("internal/strconv.uint64pow10", laid_internal_strconv_uint64pow10), ("unicode/utf8.acceptRanges", laid_unicode_utf8_acceptRanges), ("herepath/api.ErrText", laid_herepath_api_ErrText), ("herepath/api.ErrBound", laid_herepath_api_ErrBound), ("herepath/api.ErrShape", laid_herepath_api_ErrShape), ("unicode/utf8.first", laid_unicode_utf8_first)] }
def IpOrderSaid : Prop := ipOrderRow.holds Tryd.pinned (OpenSpec.ofChange ipOrderSpec)

/-- ITS FALSE NEIGHBOUR: 'it returns false'. Refute it at one input. -/
def ipOrderWrong : ChangeSpec := { name := "ipOrder", fn := fun _ => fun
  | [d1, d2, d3] => { results := [.lit (.bool false)], args := [d1, d2, d3] }
  | _ => none }
def IpOrderWrongFalsely : Prop := ipOrderRow.holds Tryd.pinned (OpenSpec.ofChange ipOrderWrong)

/-- 'herepathlaw1.SetNormal': WHATEVER THE INPUT: true; the input reads as it did. -/
def setNormalSpec : ChangeSpec := { name := "setNormal", fn := fun _ => fun
  | [d1, d2, d3] => { results := [.lit (.bool true)], args := [d1, d2, d3] }
  | _ => none }
def setNormalRow : OpenClaim := { program := "ythehpnhjfnenoaadoor", sum := "0979cd198bc13320db3b0d5232009fdb7c8267fa339116a155bcf95591046cd9", func := "herepath/herepathlaw1.SetNormal", spec := "setNormal", unfollowed := true, recurses := true, named := ["herepath/api.ErrBound", "herepath/api.ErrShape", "math/bits.deBruijn32tab", "math/bits.deBruijn64tab", "herepath/api.ErrNone"], apart := false, laid := [("math/bits.deBruijn32tab", laid_math_bits_deBruijn32tab), ("math/bits.deBruijn64tab", laid_math_bits_deBruijn64tab), ("herepath/api.ErrBound", laid_herepath_api_ErrBound), ("herepath/api.ErrShape", laid_herepath_api_ErrShape), ("herepath/api.ErrNone", laid_herepath_api_ErrNone)] }
def SetNormalSaid : Prop := setNormalRow.holds Tryd.pinned (OpenSpec.ofChange setNormalSpec)

/-- ITS FALSE NEIGHBOUR: 'it returns false'. Refute it at one input. -/
def setNormalWrong : ChangeSpec := { name := "setNormal", fn := fun _ => fun
  | [d1, d2, d3] => { results := [.lit (.bool false)], args := [d1, d2, d3] }
  | _ => none }
def SetNormalWrongFalsely : Prop := setNormalRow.holds Tryd.pinned (OpenSpec.ofChange setNormalWrong)

/- THE SECOND FORM. 'bulk': how many values and letters a reading holds, each counted each time it is reached (what is shared counts as often as it is met; a slice's spare places count too). A statement '..UptoSaid' is the law's where the arguments, and the package variables that the reading takes, are together of bulk at most 1048576: NARROWER than '..Said'. Prove '..Said' where nothing that the law and all that it calls make is longer than what came in: it says more and counts as full. Else prove '..UptoSaid'. A law counts once. -/
mutual
def uptoBulk {H : Type} : DataW H → Nat
  | .lit (.string bytes) => bytes.length + 1
  | .lit _ => 1
  | .nil => 1
  | .ptr d => uptoBulk d + 1
  | .slice elems spare => uptoBulkAll elems + uptoBulkAll spare + 1
  | .agg parts => uptoBulkAll parts + 1
  | .iface _ d => uptoBulk d + 1
  | .map entries => uptoBulkEntries entries + 1
  | .held _ => 1
def uptoBulkAll {H : Type} : List (DataW H) → Nat
  | [] => 0
  | d :: r => uptoBulk d + uptoBulkAll r
def uptoBulkEntries {H : Type} : List (Lit × DataW H) → Nat
  | [] => 0
  | x :: r => uptoBulkEntry x + uptoBulkEntries r
def uptoBulkEntry {H : Type} : Lit × DataW H → Nat
  | (.string bytes, d) => bytes.length + uptoBulk d + 1
  | (_, d) => uptoBulk d + 1
 end
def uptoSmall : (H : Type) → List (DataW H) → Bool := fun _ ds => decide (uptoBulkAll ds ≤ 1048576)
def OpenSpec.upto (s : _root_.Go.ChangeSpec) : _root_.Go.OpenSpec := { _root_.Go.OpenSpec.ofChange s with cond := some uptoSmall }

/-- 'herepathlaw1.Names', WHERE WHAT IT READS IS OF BULK AT MOST 1048576: true; the input reads as it did. -/
def namesUptoRow : OpenClaim := { program := "ythehpnhjfnenoaadoor", sum := "0979cd198bc13320db3b0d5232009fdb7c8267fa339116a155bcf95591046cd9", func := "herepath/herepathlaw1.Names", spec := "names", inPlace := ["internal/reflectlite.ValueOf", "(internal/reflectlite.Value).Type", "(internal/reflectlite.Value).IsNil", "internal/reflectlite.TypeOf", "(internal/reflectlite.Value).Elem", "(internal/reflectlite.Value).Set"], unfollowed := true, recurses := true, named := ["herepath/api.ErrText", "herepath/api.ErrBound", "herepath/api.ErrShape", "herepath/api.ErrKind", "herepath/api.ErrNone", "herepath/api.ErrExist", "herepath/api.ErrFull", "herepath/api.ErrOrder", "herepath/api.ErrLoop", "errors.errorType"], apart := false, laid := [("errors.errorType", laid_errors_errorType), ("herepath/api.ErrText", laid_herepath_api_ErrText), ("herepath/api.ErrBound", laid_herepath_api_ErrBound), ("herepath/api.ErrShape", laid_herepath_api_ErrShape), ("herepath/api.ErrKind", laid_herepath_api_ErrKind), ("herepath/api.ErrNone", laid_herepath_api_ErrNone), ("herepath/api.ErrExist", laid_herepath_api_ErrExist), ("herepath/api.ErrFull", laid_herepath_api_ErrFull), ("herepath/api.ErrOrder", laid_herepath_api_ErrOrder), ("herepath/api.ErrLoop", laid_herepath_api_ErrLoop)], narrowed := true }
def NamesUptoSaid : Prop := namesUptoRow.holds Tryd.pinned (OpenSpec.upto namesSpec)

/-- 'herepathlaw1.IpHalves', WHERE WHAT IT READS IS OF BULK AT MOST 1048576: true; the input reads as it did. -/
def ipHalvesUptoRow : OpenClaim := { program := "ythehpnhjfnenoaadoor", sum := "0979cd198bc13320db3b0d5232009fdb7c8267fa339116a155bcf95591046cd9", func := "herepath/herepathlaw1.IpHalves", spec := "ipHalves", inPlace := ["internal/bytealg.IndexByteString", "internal/bytealg.IndexString", "internal/bytealg.CountString"], named := ["herepath/api.ErrText", "internal/bytealg.MaxLen", "unicode/utf8.first", "unicode/utf8.acceptRanges", "herepath/api.ErrBound", "herepath/api.ErrShape", "internal/strconv.uint64pow10", "math/bits.deBruijn32tab", "math/bits.deBruijn64tab", "herepath/api.ErrNone"], apart := false, laid := [("math/bits.deBruijn32tab", laid_math_bits_deBruijn32tab), ("math/bits.deBruijn64tab", laid_math_bits_deBruijn64tab), ("internal/strconv.uint64pow10", laid_internal_strconv_uint64pow10), ("unicode/utf8.acceptRanges", laid_unicode_utf8_acceptRanges), ("herepath/api.ErrText", laid_herepath_api_ErrText), ("herepath/api.ErrBound", laid_herepath_api_ErrBound), ("herepath/api.ErrShape", laid_herepath_api_ErrShape), ("herepath/api.ErrNone", laid_herepath_api_ErrNone), ("unicode/utf8.first", laid_unicode_utf8_first)], narrowed := true }
def IpHalvesUptoSaid : Prop := ipHalvesUptoRow.holds Tryd.pinned (OpenSpec.upto ipHalvesSpec)

/-- 'herepathlaw1.IpTells', WHERE WHAT IT READS IS OF BULK AT MOST 1048576: true; the input reads as it did. -/
def ipTellsUptoRow : OpenClaim := { program := "ythehpnhjfnenoaadoor", sum := "0979cd198bc13320db3b0d5232009fdb7c8267fa339116a155bcf95591046cd9", func := "herepath/herepathlaw1.IpTells", spec := "ipTells", inPlace := ["internal/bytealg.IndexByteString", "internal/bytealg.IndexString", "internal/bytealg.CountString", "internal/reflectlite.ValueOf", "(internal/reflectlite.Value).Type", "(internal/reflectlite.Value).IsNil", "internal/reflectlite.TypeOf", "(internal/reflectlite.Value).Elem", "(internal/reflectlite.Value).Set"], unfollowed := true, recurses := true, named := ["herepath/api.ErrText", "internal/bytealg.MaxLen", "unicode/utf8.first", "unicode/utf8.acceptRanges", "herepath/api.ErrBound", "herepath/api.ErrShape", "internal/strconv.uint64pow10", "math/bits.deBruijn32tab", "math/bits.deBruijn64tab", "herepath/api.ErrKind", "herepath/api.ErrNone", "herepath/api.ErrExist", "herepath/api.ErrFull", "herepath/api.ErrOrder", "herepath/api.ErrLoop", "errors.errorType"], apart := false, laid := [("math/bits.deBruijn32tab", laid_math_bits_deBruijn32tab), ("math/bits.deBruijn64tab", laid_math_bits_deBruijn64tab), ("internal/strconv.uint64pow10", laid_internal_strconv_uint64pow10), ("unicode/utf8.acceptRanges", laid_unicode_utf8_acceptRanges), ("errors.errorType", laid_errors_errorType), ("herepath/api.ErrText", laid_herepath_api_ErrText), ("herepath/api.ErrBound", laid_herepath_api_ErrBound), ("herepath/api.ErrShape", laid_herepath_api_ErrShape), ("herepath/api.ErrKind", laid_herepath_api_ErrKind), ("herepath/api.ErrNone", laid_herepath_api_ErrNone), ("herepath/api.ErrExist", laid_herepath_api_ErrExist), ("herepath/api.ErrFull", laid_herepath_api_ErrFull), ("herepath/api.ErrOrder", laid_herepath_api_ErrOrder), ("herepath/api.ErrLoop", laid_herepath_api_ErrLoop), ("unicode/utf8.first", laid_unicode_utf8_first)], narrowed := true }
def IpTellsUptoSaid : Prop := ipTellsUptoRow.holds Tryd.pinned (OpenSpec.upto ipTellsSpec)

/-- 'herepathlaw1.IpOrder', WHERE WHAT IT READS IS OF BULK AT MOST 1048576: true; the input reads as it did. -/
def ipOrderUptoRow : OpenClaim := { program := "ythehpnhjfnenoaadoor", sum := "0979cd198bc13320db3b0d5232009fdb7c8267fa339116a155bcf95591046cd9", func := "herepath/herepathlaw1.IpOrder", spec := "ipOrder", inPlace := ["internal/bytealg.IndexByteString", "internal/bytealg.IndexString", "internal/bytealg.CountString"], named := ["herepath/api.ErrText", "internal/bytealg.MaxLen", "unicode/utf8.first", "unicode/utf8.acceptRanges", "herepath/api.ErrBound", "herepath/api.ErrShape", "internal/strconv.uint64pow10", "math/bits.deBruijn32tab", "math/bits.deBruijn64tab"], apart := false, laid := [("math/bits.deBruijn32tab", laid_math_bits_deBruijn32tab), ("math/bits.deBruijn64tab", laid_math_bits_deBruijn64tab), ("internal/strconv.uint64pow10", laid_internal_strconv_uint64pow10), ("unicode/utf8.acceptRanges", laid_unicode_utf8_acceptRanges), ("herepath/api.ErrText", laid_herepath_api_ErrText), ("herepath/api.ErrBound", laid_herepath_api_ErrBound), ("herepath/api.ErrShape", laid_herepath_api_ErrShape), ("unicode/utf8.first", laid_unicode_utf8_first)], narrowed := true }
def IpOrderUptoSaid : Prop := ipOrderUptoRow.holds Tryd.pinned (OpenSpec.upto ipOrderSpec)

/-- 'herepathlaw1.SetNormal', WHERE WHAT IT READS IS OF BULK AT MOST 1048576: true; the input reads as it did. -/
def setNormalUptoRow : OpenClaim := { program := "ythehpnhjfnenoaadoor", sum := "0979cd198bc13320db3b0d5232009fdb7c8267fa339116a155bcf95591046cd9", func := "herepath/herepathlaw1.SetNormal", spec := "setNormal", unfollowed := true, recurses := true, named := ["herepath/api.ErrBound", "herepath/api.ErrShape", "math/bits.deBruijn32tab", "math/bits.deBruijn64tab", "herepath/api.ErrNone"], apart := false, laid := [("math/bits.deBruijn32tab", laid_math_bits_deBruijn32tab), ("math/bits.deBruijn64tab", laid_math_bits_deBruijn64tab), ("herepath/api.ErrBound", laid_herepath_api_ErrBound), ("herepath/api.ErrShape", laid_herepath_api_ErrShape), ("herepath/api.ErrNone", laid_herepath_api_ErrNone)], narrowed := true }
def SetNormalUptoSaid : Prop := setNormalUptoRow.holds Tryd.pinned (OpenSpec.upto setNormalSpec)

end Rows
end Go.Proofs.YthehpnhjfnenoaaDoor
