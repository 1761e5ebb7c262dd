/-
  NARROWER THAN 'FOR EVERY INPUT', by the rows' own cells (each row's printed sentence says how): FnExactOrderLeast: laid · FnExactOrderJoin: laid · FnExactOrderMeet: laid · FnExactOrderCovers: laid · FnExactOrderFrom: laid · FnExactOrderBack: laid · FnExactOrderHeight: laid · FnExactDomainIs: laid · FnExactOrderMaps: laid · FnExactOrderSame: laid · FnExactOrderWays: laid · FnHeight: laid · FnWays: laid.
  DERIVED. THE GIVEN ROWS OF THIS SEAT. 13 by the template 'for every input the law returns true; each argument reads behind the call as it read before'; 0 by the template 'total and deterministic' (their statements: YtcmpbdpghoadeaaDoorTotals.lean).
  GIVEN WITH THE SEED: the statements are not yours to turn. If you find one false, say at which input.
  Laid BY PROGRAM, IN A SANDBOX (cutbox-rows.mjs): the forced cells as the released guide's own fill.sh prints them over the translation 0cfdef3f5e4fbed3… (all of the seat's roots in one cut). By AI agents, Wed Nov 11 2026. No macro, syntax, notation, axiom, sorry.
-/
import Derived.Test.YtcmpbdpghoadeaaDoorChecked
import GoSem.Claim
import GoSem.ClaimJoined
import GoSem.ClaimMapViews
import Derived.JoinedTies
import Derived.KernelRfl
namespace Go.Proofs.YtcmpbdpghoadeaaDoor
/- THE CELL 'sum', in the pinned program and in every row, IS THE sha256 OF THE DUMP (.gsa) THAT YtcmpbdpghoadeaaDoorProg.lean LOADS. Nothing in Lean hashes anything: it is a label: what it is worth is what the hold of that sum in a sandbox is worth. -/
noncomputable def Tryd.pinned : Pinned := { name := "ytcmpbdpghoadeaadoor", sum := "0cfdef3f5e4fbed3a51022960cce24d616e0df8e1bd65e1ef2cd054e0fe53b29", checked := Tryd.checked }
namespace Rows
def none {H : Type} : Left H := { results := [], args := [] }

/- WHAT THE LISTED PACKAGE-LEVEL VARIABLES READ AS WHEN THE CALL BEGINS. Each datum BY PROGRAM (the guide's laid-datum.mjs) off the statement by which the dump's own 'gosem.cut.vars' lays the variable. In a bare row this is a premise. The card (YtcmpbdpghoadeaaDoorCards.lean) ties it to the program's text. -/
def laid_math_bits_deBruijn64tab {H : Type} : DataW H := .agg [.lit (.int .u8 0), .lit (.int .u8 1), .lit (.int .u8 56), .lit (.int .u8 2), .lit (.int .u8 57), .lit (.int .u8 49), .lit (.int .u8 28), .lit (.int .u8 3), .lit (.int .u8 61), .lit (.int .u8 58), .lit (.int .u8 42), .lit (.int .u8 50), .lit (.int .u8 38), .lit (.int .u8 29), .lit (.int .u8 17), .lit (.int .u8 4), .lit (.int .u8 62), .lit (.int .u8 47), .lit (.int .u8 59), .lit (.int .u8 36), .lit (.int .u8 45), .lit (.int .u8 43), .lit (.int .u8 51), .lit (.int .u8 22), .lit (.int .u8 53), .lit (.int .u8 39), .lit (.int .u8 33), .lit (.int .u8 30), .lit (.int .u8 24), .lit (.int .u8 18), .lit (.int .u8 12), .lit (.int .u8 5), .lit (.int .u8 63), .lit (.int .u8 55), .lit (.int .u8 48), .lit (.int .u8 27), .lit (.int .u8 60), .lit (.int .u8 41), .lit (.int .u8 37), .lit (.int .u8 16), .lit (.int .u8 46), .lit (.int .u8 35), .lit (.int .u8 44), .lit (.int .u8 21), .lit (.int .u8 52), .lit (.int .u8 32), .lit (.int .u8 23), .lit (.int .u8 11), .lit (.int .u8 54), .lit (.int .u8 26), .lit (.int .u8 40), .lit (.int .u8 15), .lit (.int .u8 34), .lit (.int .u8 20), .lit (.int .u8 31), .lit (.int .u8 10), .lit (.int .u8 25), .lit (.int .u8 14), .lit (.int .u8 19), .lit (.int .u8 9), .lit (.int .u8 13), .lit (.int .u8 8), .lit (.int .u8 7), .lit (.int .u8 6)]

/-- 'laws.FnExactOrderLeast': WHATEVER THE INPUT: true; the input reads as it did. -/
def fnExactOrderLeastSpec : ChangeSpec := { name := "fnExactOrderLeast", fn := fun _ => fun
  | [d] => { results := [.lit (.bool true)], args := [d] }
  | _ => none }
def fnExactOrderLeastRow : OpenClaim := { program := "ytcmpbdpghoadeaadoor", sum := "0cfdef3f5e4fbed3a51022960cce24d616e0df8e1bd65e1ef2cd054e0fe53b29", func := "loop.example/scottdomains/laws.FnExactOrderLeast", spec := "fnExactOrderLeast", unfollowed := true, recurses := true, named := ["math/bits.deBruijn64tab"], apart := false, laid := [("math/bits.deBruijn64tab", laid_math_bits_deBruijn64tab)] }
def FnExactOrderLeastSaid : Prop := fnExactOrderLeastRow.holds Tryd.pinned (OpenSpec.ofChange fnExactOrderLeastSpec)

/-- ITS FALSE NEIGHBOUR: 'it returns false'. Refute it at one input. -/
def fnExactOrderLeastWrong : ChangeSpec := { name := "fnExactOrderLeast", fn := fun _ => fun
  | [d] => { results := [.lit (.bool false)], args := [d] }
  | _ => none }
def FnExactOrderLeastWrongFalsely : Prop := fnExactOrderLeastRow.holds Tryd.pinned (OpenSpec.ofChange fnExactOrderLeastWrong)

/-- 'laws.FnExactOrderJoin': WHATEVER THE INPUT: true; the input reads as it did. -/
def fnExactOrderJoinSpec : ChangeSpec := { name := "fnExactOrderJoin", fn := fun _ => fun
  | [d1, d2, d3] => { results := [.lit (.bool true)], args := [d1, d2, d3] }
  | _ => none }
def fnExactOrderJoinRow : OpenClaim := { program := "ytcmpbdpghoadeaadoor", sum := "0cfdef3f5e4fbed3a51022960cce24d616e0df8e1bd65e1ef2cd054e0fe53b29", func := "loop.example/scottdomains/laws.FnExactOrderJoin", spec := "fnExactOrderJoin", unfollowed := true, recurses := true, named := ["math/bits.deBruijn64tab"], apart := false, laid := [("math/bits.deBruijn64tab", laid_math_bits_deBruijn64tab)] }
def FnExactOrderJoinSaid : Prop := fnExactOrderJoinRow.holds Tryd.pinned (OpenSpec.ofChange fnExactOrderJoinSpec)

/-- ITS FALSE NEIGHBOUR: 'it returns false'. Refute it at one input. -/
def fnExactOrderJoinWrong : ChangeSpec := { name := "fnExactOrderJoin", fn := fun _ => fun
  | [d1, d2, d3] => { results := [.lit (.bool false)], args := [d1, d2, d3] }
  | _ => none }
def FnExactOrderJoinWrongFalsely : Prop := fnExactOrderJoinRow.holds Tryd.pinned (OpenSpec.ofChange fnExactOrderJoinWrong)

/-- 'laws.FnExactOrderMeet': WHATEVER THE INPUT: true; the input reads as it did. -/
def fnExactOrderMeetSpec : ChangeSpec := { name := "fnExactOrderMeet", fn := fun _ => fun
  | [d1, d2, d3] => { results := [.lit (.bool true)], args := [d1, d2, d3] }
  | _ => none }
def fnExactOrderMeetRow : OpenClaim := { program := "ytcmpbdpghoadeaadoor", sum := "0cfdef3f5e4fbed3a51022960cce24d616e0df8e1bd65e1ef2cd054e0fe53b29", func := "loop.example/scottdomains/laws.FnExactOrderMeet", spec := "fnExactOrderMeet", unfollowed := true, recurses := true, named := ["math/bits.deBruijn64tab"], apart := false, laid := [("math/bits.deBruijn64tab", laid_math_bits_deBruijn64tab)] }
def FnExactOrderMeetSaid : Prop := fnExactOrderMeetRow.holds Tryd.pinned (OpenSpec.ofChange fnExactOrderMeetSpec)

/-- ITS FALSE NEIGHBOUR: 'it returns false'. Refute it at one input. -/
def fnExactOrderMeetWrong : ChangeSpec := { name := "fnExactOrderMeet", fn := fun _ => fun
  | [d1, d2, d3] => { results := [.lit (.bool false)], args := [d1, d2, d3] }
  | _ => none }
def FnExactOrderMeetWrongFalsely : Prop := fnExactOrderMeetRow.holds Tryd.pinned (OpenSpec.ofChange fnExactOrderMeetWrong)

/-- 'laws.FnExactOrderCovers': WHATEVER THE INPUT: true; the input reads as it did. -/
def fnExactOrderCoversSpec : ChangeSpec := { name := "fnExactOrderCovers", fn := fun _ => fun
  | [d] => { results := [.lit (.bool true)], args := [d] }
  | _ => none }
def fnExactOrderCoversRow : OpenClaim := { program := "ytcmpbdpghoadeaadoor", sum := "0cfdef3f5e4fbed3a51022960cce24d616e0df8e1bd65e1ef2cd054e0fe53b29", func := "loop.example/scottdomains/laws.FnExactOrderCovers", spec := "fnExactOrderCovers", unfollowed := true, recurses := true, named := ["math/bits.deBruijn64tab"], apart := false, laid := [("math/bits.deBruijn64tab", laid_math_bits_deBruijn64tab)] }
def FnExactOrderCoversSaid : Prop := fnExactOrderCoversRow.holds Tryd.pinned (OpenSpec.ofChange fnExactOrderCoversSpec)

/-- ITS FALSE NEIGHBOUR: 'it returns false'. Refute it at one input. -/
def fnExactOrderCoversWrong : ChangeSpec := { name := "fnExactOrderCovers", fn := fun _ => fun
  | [d] => { results := [.lit (.bool false)], args := [d] }
  | _ => none }
def FnExactOrderCoversWrongFalsely : Prop := fnExactOrderCoversRow.holds Tryd.pinned (OpenSpec.ofChange fnExactOrderCoversWrong)

/-- 'laws.FnExactOrderFrom': WHATEVER THE INPUT: true; the input reads as it did. -/
def fnExactOrderFromSpec : ChangeSpec := { name := "fnExactOrderFrom", fn := fun _ => fun
  | [d] => { results := [.lit (.bool true)], args := [d] }
  | _ => none }
def fnExactOrderFromRow : OpenClaim := { program := "ytcmpbdpghoadeaadoor", sum := "0cfdef3f5e4fbed3a51022960cce24d616e0df8e1bd65e1ef2cd054e0fe53b29", func := "loop.example/scottdomains/laws.FnExactOrderFrom", spec := "fnExactOrderFrom", unfollowed := true, recurses := true, named := ["math/bits.deBruijn64tab"], apart := false, laid := [("math/bits.deBruijn64tab", laid_math_bits_deBruijn64tab)] }
def FnExactOrderFromSaid : Prop := fnExactOrderFromRow.holds Tryd.pinned (OpenSpec.ofChange fnExactOrderFromSpec)

/-- ITS FALSE NEIGHBOUR: 'it returns false'. Refute it at one input. -/
def fnExactOrderFromWrong : ChangeSpec := { name := "fnExactOrderFrom", fn := fun _ => fun
  | [d] => { results := [.lit (.bool false)], args := [d] }
  | _ => none }
def FnExactOrderFromWrongFalsely : Prop := fnExactOrderFromRow.holds Tryd.pinned (OpenSpec.ofChange fnExactOrderFromWrong)

/-- 'laws.FnExactOrderBack': WHATEVER THE INPUT: true; the input reads as it did. -/
def fnExactOrderBackSpec : ChangeSpec := { name := "fnExactOrderBack", fn := fun _ => fun
  | [d] => { results := [.lit (.bool true)], args := [d] }
  | _ => none }
def fnExactOrderBackRow : OpenClaim := { program := "ytcmpbdpghoadeaadoor", sum := "0cfdef3f5e4fbed3a51022960cce24d616e0df8e1bd65e1ef2cd054e0fe53b29", func := "loop.example/scottdomains/laws.FnExactOrderBack", spec := "fnExactOrderBack", unfollowed := true, recurses := true, named := ["math/bits.deBruijn64tab"], apart := false, laid := [("math/bits.deBruijn64tab", laid_math_bits_deBruijn64tab)] }
def FnExactOrderBackSaid : Prop := fnExactOrderBackRow.holds Tryd.pinned (OpenSpec.ofChange fnExactOrderBackSpec)

/-- ITS FALSE NEIGHBOUR: 'it returns false'. Refute it at one input. -/
def fnExactOrderBackWrong : ChangeSpec := { name := "fnExactOrderBack", fn := fun _ => fun
  | [d] => { results := [.lit (.bool false)], args := [d] }
  | _ => none }
def FnExactOrderBackWrongFalsely : Prop := fnExactOrderBackRow.holds Tryd.pinned (OpenSpec.ofChange fnExactOrderBackWrong)

/-- 'laws.FnExactOrderHeight': WHATEVER THE INPUT: true; the input reads as it did. -/
def fnExactOrderHeightSpec : ChangeSpec := { name := "fnExactOrderHeight", fn := fun _ => fun
  | [d] => { results := [.lit (.bool true)], args := [d] }
  | _ => none }
def fnExactOrderHeightRow : OpenClaim := { program := "ytcmpbdpghoadeaadoor", sum := "0cfdef3f5e4fbed3a51022960cce24d616e0df8e1bd65e1ef2cd054e0fe53b29", func := "loop.example/scottdomains/laws.FnExactOrderHeight", spec := "fnExactOrderHeight", unfollowed := true, recurses := true, named := ["math/bits.deBruijn64tab"], apart := false, laid := [("math/bits.deBruijn64tab", laid_math_bits_deBruijn64tab)] }
def FnExactOrderHeightSaid : Prop := fnExactOrderHeightRow.holds Tryd.pinned (OpenSpec.ofChange fnExactOrderHeightSpec)

/-- ITS FALSE NEIGHBOUR: 'it returns false'. Refute it at one input. -/
def fnExactOrderHeightWrong : ChangeSpec := { name := "fnExactOrderHeight", fn := fun _ => fun
  | [d] => { results := [.lit (.bool false)], args := [d] }
  | _ => none }
def FnExactOrderHeightWrongFalsely : Prop := fnExactOrderHeightRow.holds Tryd.pinned (OpenSpec.ofChange fnExactOrderHeightWrong)

/-- 'laws.FnExactDomainIs': WHATEVER THE INPUT: true; the input reads as it did. -/
def fnExactDomainIsSpec : ChangeSpec := { name := "fnExactDomainIs", fn := fun _ => fun
  | [d] => { results := [.lit (.bool true)], args := [d] }
  | _ => none }
def fnExactDomainIsRow : OpenClaim := { program := "ytcmpbdpghoadeaadoor", sum := "0cfdef3f5e4fbed3a51022960cce24d616e0df8e1bd65e1ef2cd054e0fe53b29", func := "loop.example/scottdomains/laws.FnExactDomainIs", spec := "fnExactDomainIs", unfollowed := true, recurses := true, named := ["math/bits.deBruijn64tab"], apart := false, laid := [("math/bits.deBruijn64tab", laid_math_bits_deBruijn64tab)] }
def FnExactDomainIsSaid : Prop := fnExactDomainIsRow.holds Tryd.pinned (OpenSpec.ofChange fnExactDomainIsSpec)

/-- ITS FALSE NEIGHBOUR: 'it returns false'. Refute it at one input. -/
def fnExactDomainIsWrong : ChangeSpec := { name := "fnExactDomainIs", fn := fun _ => fun
  | [d] => { results := [.lit (.bool false)], args := [d] }
  | _ => none }
def FnExactDomainIsWrongFalsely : Prop := fnExactDomainIsRow.holds Tryd.pinned (OpenSpec.ofChange fnExactDomainIsWrong)

/-- 'laws.FnExactOrderMaps': WHATEVER THE INPUT: true; the input reads as it did. -/
def fnExactOrderMapsSpec : ChangeSpec := { name := "fnExactOrderMaps", fn := fun _ => fun
  | [d1, d2] => { results := [.lit (.bool true)], args := [d1, d2] }
  | _ => none }
def fnExactOrderMapsRow : OpenClaim := { program := "ytcmpbdpghoadeaadoor", sum := "0cfdef3f5e4fbed3a51022960cce24d616e0df8e1bd65e1ef2cd054e0fe53b29", func := "loop.example/scottdomains/laws.FnExactOrderMaps", spec := "fnExactOrderMaps", unfollowed := true, recurses := true, named := ["math/bits.deBruijn64tab"], apart := false, laid := [("math/bits.deBruijn64tab", laid_math_bits_deBruijn64tab)] }
def FnExactOrderMapsSaid : Prop := fnExactOrderMapsRow.holds Tryd.pinned (OpenSpec.ofChange fnExactOrderMapsSpec)

/-- ITS FALSE NEIGHBOUR: 'it returns false'. Refute it at one input. -/
def fnExactOrderMapsWrong : ChangeSpec := { name := "fnExactOrderMaps", fn := fun _ => fun
  | [d1, d2] => { results := [.lit (.bool false)], args := [d1, d2] }
  | _ => none }
def FnExactOrderMapsWrongFalsely : Prop := fnExactOrderMapsRow.holds Tryd.pinned (OpenSpec.ofChange fnExactOrderMapsWrong)

/-- 'laws.FnExactOrderSame': WHATEVER THE INPUT: true; the input reads as it did. -/
def fnExactOrderSameSpec : ChangeSpec := { name := "fnExactOrderSame", fn := fun _ => fun
  | [d1, d2] => { results := [.lit (.bool true)], args := [d1, d2] }
  | _ => none }
def fnExactOrderSameRow : OpenClaim := { program := "ytcmpbdpghoadeaadoor", sum := "0cfdef3f5e4fbed3a51022960cce24d616e0df8e1bd65e1ef2cd054e0fe53b29", func := "loop.example/scottdomains/laws.FnExactOrderSame", spec := "fnExactOrderSame", unfollowed := true, recurses := true, named := ["math/bits.deBruijn64tab"], apart := false, laid := [("math/bits.deBruijn64tab", laid_math_bits_deBruijn64tab)] }
def FnExactOrderSameSaid : Prop := fnExactOrderSameRow.holds Tryd.pinned (OpenSpec.ofChange fnExactOrderSameSpec)

/-- ITS FALSE NEIGHBOUR: 'it returns false'. Refute it at one input. -/
def fnExactOrderSameWrong : ChangeSpec := { name := "fnExactOrderSame", fn := fun _ => fun
  | [d1, d2] => { results := [.lit (.bool false)], args := [d1, d2] }
  | _ => none }
def FnExactOrderSameWrongFalsely : Prop := fnExactOrderSameRow.holds Tryd.pinned (OpenSpec.ofChange fnExactOrderSameWrong)

/-- 'laws.FnExactOrderWays': WHATEVER THE INPUT: true; the input reads as it did. -/
def fnExactOrderWaysSpec : ChangeSpec := { name := "fnExactOrderWays", fn := fun _ => fun
  | [d] => { results := [.lit (.bool true)], args := [d] }
  | _ => none }
def fnExactOrderWaysRow : OpenClaim := { program := "ytcmpbdpghoadeaadoor", sum := "0cfdef3f5e4fbed3a51022960cce24d616e0df8e1bd65e1ef2cd054e0fe53b29", func := "loop.example/scottdomains/laws.FnExactOrderWays", spec := "fnExactOrderWays", unfollowed := true, recurses := true, named := ["math/bits.deBruijn64tab"], apart := false, laid := [("math/bits.deBruijn64tab", laid_math_bits_deBruijn64tab)] }
def FnExactOrderWaysSaid : Prop := fnExactOrderWaysRow.holds Tryd.pinned (OpenSpec.ofChange fnExactOrderWaysSpec)

/-- ITS FALSE NEIGHBOUR: 'it returns false'. Refute it at one input. -/
def fnExactOrderWaysWrong : ChangeSpec := { name := "fnExactOrderWays", fn := fun _ => fun
  | [d] => { results := [.lit (.bool false)], args := [d] }
  | _ => none }
def FnExactOrderWaysWrongFalsely : Prop := fnExactOrderWaysRow.holds Tryd.pinned (OpenSpec.ofChange fnExactOrderWaysWrong)

/-- 'laws.FnHeight': WHATEVER THE INPUT: true; the input reads as it did. -/
def fnHeightSpec : ChangeSpec := { name := "fnHeight", fn := fun _ => fun
  | [d] => { results := [.lit (.bool true)], args := [d] }
  | _ => none }
def fnHeightRow : OpenClaim := { program := "ytcmpbdpghoadeaadoor", sum := "0cfdef3f5e4fbed3a51022960cce24d616e0df8e1bd65e1ef2cd054e0fe53b29", func := "loop.example/scottdomains/laws.FnHeight", spec := "fnHeight", unfollowed := true, recurses := true, named := ["math/bits.deBruijn64tab"], apart := false, laid := [("math/bits.deBruijn64tab", laid_math_bits_deBruijn64tab)] }
def FnHeightSaid : Prop := fnHeightRow.holds Tryd.pinned (OpenSpec.ofChange fnHeightSpec)

/-- ITS FALSE NEIGHBOUR: 'it returns false'. Refute it at one input. -/
def fnHeightWrong : ChangeSpec := { name := "fnHeight", fn := fun _ => fun
  | [d] => { results := [.lit (.bool false)], args := [d] }
  | _ => none }
def FnHeightWrongFalsely : Prop := fnHeightRow.holds Tryd.pinned (OpenSpec.ofChange fnHeightWrong)

/-- 'laws.FnWays': WHATEVER THE INPUT: true; the input reads as it did. -/
def fnWaysSpec : ChangeSpec := { name := "fnWays", fn := fun _ => fun
  | [d] => { results := [.lit (.bool true)], args := [d] }
  | _ => none }
def fnWaysRow : OpenClaim := { program := "ytcmpbdpghoadeaadoor", sum := "0cfdef3f5e4fbed3a51022960cce24d616e0df8e1bd65e1ef2cd054e0fe53b29", func := "loop.example/scottdomains/laws.FnWays", spec := "fnWays", unfollowed := true, recurses := true, named := ["math/bits.deBruijn64tab"], apart := false, laid := [("math/bits.deBruijn64tab", laid_math_bits_deBruijn64tab)] }
def FnWaysSaid : Prop := fnWaysRow.holds Tryd.pinned (OpenSpec.ofChange fnWaysSpec)

/-- ITS FALSE NEIGHBOUR: 'it returns false'. Refute it at one input. -/
def fnWaysWrong : ChangeSpec := { name := "fnWays", fn := fun _ => fun
  | [d] => { results := [.lit (.bool false)], args := [d] }
  | _ => none }
def FnWaysWrongFalsely : Prop := fnWaysRow.holds Tryd.pinned (OpenSpec.ofChange fnWaysWrong)

/- THE SECOND FORM. 'bulk': how many values and letters a reading holds, each counted each time it is reached (what is shared counts as often as it is met; a slice's spare places count too). A statement '..UptoSaid' is the law's where the arguments, and the package variables that the reading takes, are together of bulk at most 1048576: NARROWER than '..Said'. Prove '..Said' where nothing that the law and all that it calls make is longer than what came in: it says more and counts as full. Else prove '..UptoSaid'. A law counts once. -/
mutual
def uptoBulk {H : Type} : DataW H → Nat
  | .lit (.string bytes) => bytes.length + 1
  | .lit _ => 1
  | .nil => 1
  | .ptr d => uptoBulk d + 1
  | .slice elems spare => uptoBulkAll elems + uptoBulkAll spare + 1
  | .agg parts => uptoBulkAll parts + 1
  | .iface _ d => uptoBulk d + 1
  | .map entries => uptoBulkEntries entries + 1
  | .held _ => 1
def uptoBulkAll {H : Type} : List (DataW H) → Nat
  | [] => 0
  | d :: r => uptoBulk d + uptoBulkAll r
def uptoBulkEntries {H : Type} : List (Lit × DataW H) → Nat
  | [] => 0
  | x :: r => uptoBulkEntry x + uptoBulkEntries r
def uptoBulkEntry {H : Type} : Lit × DataW H → Nat
  | (.string bytes, d) => bytes.length + uptoBulk d + 1
  | (_, d) => uptoBulk d + 1
 end
def uptoSmall : (H : Type) → List (DataW H) → Bool := fun _ ds => decide (uptoBulkAll ds ≤ 1048576)
def OpenSpec.upto (s : _root_.Go.ChangeSpec) : _root_.Go.OpenSpec := { _root_.Go.OpenSpec.ofChange s with cond := some uptoSmall }

/-- 'laws.FnExactOrderLeast', WHERE WHAT IT READS IS OF BULK AT MOST 1048576: true; the input reads as it did. -/
def fnExactOrderLeastUptoRow : OpenClaim := { program := "ytcmpbdpghoadeaadoor", sum := "0cfdef3f5e4fbed3a51022960cce24d616e0df8e1bd65e1ef2cd054e0fe53b29", func := "loop.example/scottdomains/laws.FnExactOrderLeast", spec := "fnExactOrderLeast", unfollowed := true, recurses := true, named := ["math/bits.deBruijn64tab"], apart := false, laid := [("math/bits.deBruijn64tab", laid_math_bits_deBruijn64tab)], narrowed := true }
def FnExactOrderLeastUptoSaid : Prop := fnExactOrderLeastUptoRow.holds Tryd.pinned (OpenSpec.upto fnExactOrderLeastSpec)

/-- 'laws.FnExactOrderJoin', WHERE WHAT IT READS IS OF BULK AT MOST 1048576: true; the input reads as it did. -/
def fnExactOrderJoinUptoRow : OpenClaim := { program := "ytcmpbdpghoadeaadoor", sum := "0cfdef3f5e4fbed3a51022960cce24d616e0df8e1bd65e1ef2cd054e0fe53b29", func := "loop.example/scottdomains/laws.FnExactOrderJoin", spec := "fnExactOrderJoin", unfollowed := true, recurses := true, named := ["math/bits.deBruijn64tab"], apart := false, laid := [("math/bits.deBruijn64tab", laid_math_bits_deBruijn64tab)], narrowed := true }
def FnExactOrderJoinUptoSaid : Prop := fnExactOrderJoinUptoRow.holds Tryd.pinned (OpenSpec.upto fnExactOrderJoinSpec)

/-- 'laws.FnExactOrderMeet', WHERE WHAT IT READS IS OF BULK AT MOST 1048576: true; the input reads as it did. -/
def fnExactOrderMeetUptoRow : OpenClaim := { program := "ytcmpbdpghoadeaadoor", sum := "0cfdef3f5e4fbed3a51022960cce24d616e0df8e1bd65e1ef2cd054e0fe53b29", func := "loop.example/scottdomains/laws.FnExactOrderMeet", spec := "fnExactOrderMeet", unfollowed := true, recurses := true, named := ["math/bits.deBruijn64tab"], apart := false, laid := [("math/bits.deBruijn64tab", laid_math_bits_deBruijn64tab)], narrowed := true }
def FnExactOrderMeetUptoSaid : Prop := fnExactOrderMeetUptoRow.holds Tryd.pinned (OpenSpec.upto fnExactOrderMeetSpec)

/-- 'laws.FnExactOrderCovers', WHERE WHAT IT READS IS OF BULK AT MOST 1048576: true; the input reads as it did. -/
def fnExactOrderCoversUptoRow : OpenClaim := { program := "ytcmpbdpghoadeaadoor", sum := "0cfdef3f5e4fbed3a51022960cce24d616e0df8e1bd65e1ef2cd054e0fe53b29", func := "loop.example/scottdomains/laws.FnExactOrderCovers", spec := "fnExactOrderCovers", unfollowed := true, recurses := true, named := ["math/bits.deBruijn64tab"], apart := false, laid := [("math/bits.deBruijn64tab", laid_math_bits_deBruijn64tab)], narrowed := true }
def FnExactOrderCoversUptoSaid : Prop := fnExactOrderCoversUptoRow.holds Tryd.pinned (OpenSpec.upto fnExactOrderCoversSpec)

/-- 'laws.FnExactOrderFrom', WHERE WHAT IT READS IS OF BULK AT MOST 1048576: true; the input reads as it did. -/
def fnExactOrderFromUptoRow : OpenClaim := { program := "ytcmpbdpghoadeaadoor", sum := "0cfdef3f5e4fbed3a51022960cce24d616e0df8e1bd65e1ef2cd054e0fe53b29", func := "loop.example/scottdomains/laws.FnExactOrderFrom", spec := "fnExactOrderFrom", unfollowed := true, recurses := true, named := ["math/bits.deBruijn64tab"], apart := false, laid := [("math/bits.deBruijn64tab", laid_math_bits_deBruijn64tab)], narrowed := true }
def FnExactOrderFromUptoSaid : Prop := fnExactOrderFromUptoRow.holds Tryd.pinned (OpenSpec.upto fnExactOrderFromSpec)

/-- 'laws.FnExactOrderBack', WHERE WHAT IT READS IS OF BULK AT MOST 1048576: true; the input reads as it did. -/
def fnExactOrderBackUptoRow : OpenClaim := { program := "ytcmpbdpghoadeaadoor", sum := "0cfdef3f5e4fbed3a51022960cce24d616e0df8e1bd65e1ef2cd054e0fe53b29", func := "loop.example/scottdomains/laws.FnExactOrderBack", spec := "fnExactOrderBack", unfollowed := true, recurses := true, named := ["math/bits.deBruijn64tab"], apart := false, laid := [("math/bits.deBruijn64tab", laid_math_bits_deBruijn64tab)], narrowed := true }
def FnExactOrderBackUptoSaid : Prop := fnExactOrderBackUptoRow.holds Tryd.pinned (OpenSpec.upto fnExactOrderBackSpec)

/-- 'laws.FnExactOrderHeight', WHERE WHAT IT READS IS OF BULK AT MOST 1048576: true; the input reads as it did. -/
def fnExactOrderHeightUptoRow : OpenClaim := { program := "ytcmpbdpghoadeaadoor", sum := "0cfdef3f5e4fbed3a51022960cce24d616e0df8e1bd65e1ef2cd054e0fe53b29", func := "loop.example/scottdomains/laws.FnExactOrderHeight", spec := "fnExactOrderHeight", unfollowed := true, recurses := true, named := ["math/bits.deBruijn64tab"], apart := false, laid := [("math/bits.deBruijn64tab", laid_math_bits_deBruijn64tab)], narrowed := true }
def FnExactOrderHeightUptoSaid : Prop := fnExactOrderHeightUptoRow.holds Tryd.pinned (OpenSpec.upto fnExactOrderHeightSpec)

/-- 'laws.FnExactDomainIs', WHERE WHAT IT READS IS OF BULK AT MOST 1048576: true; the input reads as it did. -/
def fnExactDomainIsUptoRow : OpenClaim := { program := "ytcmpbdpghoadeaadoor", sum := "0cfdef3f5e4fbed3a51022960cce24d616e0df8e1bd65e1ef2cd054e0fe53b29", func := "loop.example/scottdomains/laws.FnExactDomainIs", spec := "fnExactDomainIs", unfollowed := true, recurses := true, named := ["math/bits.deBruijn64tab"], apart := false, laid := [("math/bits.deBruijn64tab", laid_math_bits_deBruijn64tab)], narrowed := true }
def FnExactDomainIsUptoSaid : Prop := fnExactDomainIsUptoRow.holds Tryd.pinned (OpenSpec.upto fnExactDomainIsSpec)

/-- 'laws.FnExactOrderMaps', WHERE WHAT IT READS IS OF BULK AT MOST 1048576: true; the input reads as it did. -/
def fnExactOrderMapsUptoRow : OpenClaim := { program := "ytcmpbdpghoadeaadoor", sum := "0cfdef3f5e4fbed3a51022960cce24d616e0df8e1bd65e1ef2cd054e0fe53b29", func := "loop.example/scottdomains/laws.FnExactOrderMaps", spec := "fnExactOrderMaps", unfollowed := true, recurses := true, named := ["math/bits.deBruijn64tab"], apart := false, laid := [("math/bits.deBruijn64tab", laid_math_bits_deBruijn64tab)], narrowed := true }
def FnExactOrderMapsUptoSaid : Prop := fnExactOrderMapsUptoRow.holds Tryd.pinned (OpenSpec.upto fnExactOrderMapsSpec)

/-- 'laws.FnExactOrderSame', WHERE WHAT IT READS IS OF BULK AT MOST 1048576: true; the input reads as it did. -/
def fnExactOrderSameUptoRow : OpenClaim := { program := "ytcmpbdpghoadeaadoor", sum := "0cfdef3f5e4fbed3a51022960cce24d616e0df8e1bd65e1ef2cd054e0fe53b29", func := "loop.example/scottdomains/laws.FnExactOrderSame", spec := "fnExactOrderSame", unfollowed := true, recurses := true, named := ["math/bits.deBruijn64tab"], apart := false, laid := [("math/bits.deBruijn64tab", laid_math_bits_deBruijn64tab)], narrowed := true }
def FnExactOrderSameUptoSaid : Prop := fnExactOrderSameUptoRow.holds Tryd.pinned (OpenSpec.upto fnExactOrderSameSpec)

/-- 'laws.FnExactOrderWays', WHERE WHAT IT READS IS OF BULK AT MOST 1048576: true; the input reads as it did. -/
def fnExactOrderWaysUptoRow : OpenClaim := { program := "ytcmpbdpghoadeaadoor", sum := "0cfdef3f5e4fbed3a51022960cce24d616e0df8e1bd65e1ef2cd054e0fe53b29", func := "loop.example/scottdomains/laws.FnExactOrderWays", spec := "fnExactOrderWays", unfollowed := true, recurses := true, named := ["math/bits.deBruijn64tab"], apart := false, laid := [("math/bits.deBruijn64tab", laid_math_bits_deBruijn64tab)], narrowed := true }
def FnExactOrderWaysUptoSaid : Prop := fnExactOrderWaysUptoRow.holds Tryd.pinned (OpenSpec.upto fnExactOrderWaysSpec)

/-- 'laws.FnHeight', WHERE WHAT IT READS IS OF BULK AT MOST 1048576: true; the input reads as it did. -/
def fnHeightUptoRow : OpenClaim := { program := "ytcmpbdpghoadeaadoor", sum := "0cfdef3f5e4fbed3a51022960cce24d616e0df8e1bd65e1ef2cd054e0fe53b29", func := "loop.example/scottdomains/laws.FnHeight", spec := "fnHeight", unfollowed := true, recurses := true, named := ["math/bits.deBruijn64tab"], apart := false, laid := [("math/bits.deBruijn64tab", laid_math_bits_deBruijn64tab)], narrowed := true }
def FnHeightUptoSaid : Prop := fnHeightUptoRow.holds Tryd.pinned (OpenSpec.upto fnHeightSpec)

/-- 'laws.FnWays', WHERE WHAT IT READS IS OF BULK AT MOST 1048576: true; the input reads as it did. -/
def fnWaysUptoRow : OpenClaim := { program := "ytcmpbdpghoadeaadoor", sum := "0cfdef3f5e4fbed3a51022960cce24d616e0df8e1bd65e1ef2cd054e0fe53b29", func := "loop.example/scottdomains/laws.FnWays", spec := "fnWays", unfollowed := true, recurses := true, named := ["math/bits.deBruijn64tab"], apart := false, laid := [("math/bits.deBruijn64tab", laid_math_bits_deBruijn64tab)], narrowed := true }
def FnWaysUptoSaid : Prop := fnWaysUptoRow.holds Tryd.pinned (OpenSpec.upto fnWaysSpec)

end Rows
end Go.Proofs.YtcmpbdpghoadeaaDoor
