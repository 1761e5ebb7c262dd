/-
  NARROWER THAN 'FOR EVERY INPUT', by the rows' own cells (each row's printed sentence says how): FnLift: laid · FnProduct: laid · FnSum: laid · FnCut: laid · FnMonotone: laid · FnAfter: laid · FnFix: laid · FnStrict: laid · FnStable: laid · FnFunPair: laid · FnStep: laid · FnFunBelow: laid · FnFrom: laid.
  DERIVED. THE GIVEN ROWS OF THIS SEAT. 13 by the template 'for every input the law returns true; each argument reads behind the call as it read before'; 0 by the template 'total and deterministic' (their statements: YtjfbjfclcpcaiaaDoorTotals.lean).
  GIVEN WITH THE SEED: the statements are not yours to turn. If you find one false, say at which input.
  Laid BY PROGRAM, IN A SANDBOX (cutbox-rows.mjs): the forced cells as the released guide's own fill.sh prints them over the translation 1a2909398b710c94… (all of the seat's roots in one cut). By AI agents, Wed Nov 11 2026. No macro, syntax, notation, axiom, sorry.
-/
import Derived.Test.YtjfbjfclcpcaiaaDoorChecked
import GoSem.Claim
import GoSem.ClaimJoined
import GoSem.ClaimMapViews
import Derived.JoinedTies
import Derived.KernelRfl
namespace Go.Proofs.YtjfbjfclcpcaiaaDoor
/- THE CELL 'sum', in the pinned program and in every row, IS THE sha256 OF THE DUMP (.gsa) THAT YtjfbjfclcpcaiaaDoorProg.lean LOADS. Nothing in Lean hashes anything: it is a label: what it is worth is what the hold of that sum in a sandbox is worth. -/
noncomputable def Tryd.pinned : Pinned := { name := "ytjfbjfclcpcaiaadoor", sum := "1a2909398b710c9481132707c56e4bcde16a58a8cc653a82b0e4ea8523f62580", checked := Tryd.checked }
namespace Rows
def none {H : Type} : Left H := { results := [], args := [] }

/- WHAT THE LISTED PACKAGE-LEVEL VARIABLES READ AS WHEN THE CALL BEGINS. Each datum BY PROGRAM (the guide's laid-datum.mjs) off the statement by which the dump's own 'gosem.cut.vars' lays the variable. In a bare row this is a premise. The card (YtjfbjfclcpcaiaaDoorCards.lean) ties it to the program's text. -/
def laid_math_bits_deBruijn64tab {H : Type} : DataW H := .agg [.lit (.int .u8 0), .lit (.int .u8 1), .lit (.int .u8 56), .lit (.int .u8 2), .lit (.int .u8 57), .lit (.int .u8 49), .lit (.int .u8 28), .lit (.int .u8 3), .lit (.int .u8 61), .lit (.int .u8 58), .lit (.int .u8 42), .lit (.int .u8 50), .lit (.int .u8 38), .lit (.int .u8 29), .lit (.int .u8 17), .lit (.int .u8 4), .lit (.int .u8 62), .lit (.int .u8 47), .lit (.int .u8 59), .lit (.int .u8 36), .lit (.int .u8 45), .lit (.int .u8 43), .lit (.int .u8 51), .lit (.int .u8 22), .lit (.int .u8 53), .lit (.int .u8 39), .lit (.int .u8 33), .lit (.int .u8 30), .lit (.int .u8 24), .lit (.int .u8 18), .lit (.int .u8 12), .lit (.int .u8 5), .lit (.int .u8 63), .lit (.int .u8 55), .lit (.int .u8 48), .lit (.int .u8 27), .lit (.int .u8 60), .lit (.int .u8 41), .lit (.int .u8 37), .lit (.int .u8 16), .lit (.int .u8 46), .lit (.int .u8 35), .lit (.int .u8 44), .lit (.int .u8 21), .lit (.int .u8 52), .lit (.int .u8 32), .lit (.int .u8 23), .lit (.int .u8 11), .lit (.int .u8 54), .lit (.int .u8 26), .lit (.int .u8 40), .lit (.int .u8 15), .lit (.int .u8 34), .lit (.int .u8 20), .lit (.int .u8 31), .lit (.int .u8 10), .lit (.int .u8 25), .lit (.int .u8 14), .lit (.int .u8 19), .lit (.int .u8 9), .lit (.int .u8 13), .lit (.int .u8 8), .lit (.int .u8 7), .lit (.int .u8 6)]

/-- 'laws.FnLift': WHATEVER THE INPUT: true; the input reads as it did. -/
def fnLiftSpec : ChangeSpec := { name := "fnLift", fn := fun _ => fun
  | [d] => { results := [.lit (.bool true)], args := [d] }
  | _ => none }
def fnLiftRow : OpenClaim := { program := "ytjfbjfclcpcaiaadoor", sum := "1a2909398b710c9481132707c56e4bcde16a58a8cc653a82b0e4ea8523f62580", func := "loop.example/scottdomains/laws.FnLift", spec := "fnLift", unfollowed := true, recurses := true, named := ["math/bits.deBruijn64tab"], apart := false, laid := [("math/bits.deBruijn64tab", laid_math_bits_deBruijn64tab)] }
def FnLiftSaid : Prop := fnLiftRow.holds Tryd.pinned (OpenSpec.ofChange fnLiftSpec)

/-- ITS FALSE NEIGHBOUR: 'it returns false'. Refute it at one input. -/
def fnLiftWrong : ChangeSpec := { name := "fnLift", fn := fun _ => fun
  | [d] => { results := [.lit (.bool false)], args := [d] }
  | _ => none }
def FnLiftWrongFalsely : Prop := fnLiftRow.holds Tryd.pinned (OpenSpec.ofChange fnLiftWrong)

/-- 'laws.FnProduct': WHATEVER THE INPUT: true; the input reads as it did. -/
def fnProductSpec : ChangeSpec := { name := "fnProduct", fn := fun _ => fun
  | [d1, d2] => { results := [.lit (.bool true)], args := [d1, d2] }
  | _ => none }
def fnProductRow : OpenClaim := { program := "ytjfbjfclcpcaiaadoor", sum := "1a2909398b710c9481132707c56e4bcde16a58a8cc653a82b0e4ea8523f62580", func := "loop.example/scottdomains/laws.FnProduct", spec := "fnProduct", unfollowed := true, recurses := true, named := ["math/bits.deBruijn64tab"], apart := false, laid := [("math/bits.deBruijn64tab", laid_math_bits_deBruijn64tab)] }
def FnProductSaid : Prop := fnProductRow.holds Tryd.pinned (OpenSpec.ofChange fnProductSpec)

/-- ITS FALSE NEIGHBOUR: 'it returns false'. Refute it at one input. -/
def fnProductWrong : ChangeSpec := { name := "fnProduct", fn := fun _ => fun
  | [d1, d2] => { results := [.lit (.bool false)], args := [d1, d2] }
  | _ => none }
def FnProductWrongFalsely : Prop := fnProductRow.holds Tryd.pinned (OpenSpec.ofChange fnProductWrong)

/-- 'laws.FnSum': WHATEVER THE INPUT: true; the input reads as it did. -/
def fnSumSpec : ChangeSpec := { name := "fnSum", fn := fun _ => fun
  | [d] => { results := [.lit (.bool true)], args := [d] }
  | _ => none }
def fnSumRow : OpenClaim := { program := "ytjfbjfclcpcaiaadoor", sum := "1a2909398b710c9481132707c56e4bcde16a58a8cc653a82b0e4ea8523f62580", func := "loop.example/scottdomains/laws.FnSum", spec := "fnSum", unfollowed := true, recurses := true, named := ["math/bits.deBruijn64tab"], apart := false, laid := [("math/bits.deBruijn64tab", laid_math_bits_deBruijn64tab)] }
def FnSumSaid : Prop := fnSumRow.holds Tryd.pinned (OpenSpec.ofChange fnSumSpec)

/-- ITS FALSE NEIGHBOUR: 'it returns false'. Refute it at one input. -/
def fnSumWrong : ChangeSpec := { name := "fnSum", fn := fun _ => fun
  | [d] => { results := [.lit (.bool false)], args := [d] }
  | _ => none }
def FnSumWrongFalsely : Prop := fnSumRow.holds Tryd.pinned (OpenSpec.ofChange fnSumWrong)

/-- 'laws.FnCut': WHATEVER THE INPUT: true; the input reads as it did. -/
def fnCutSpec : ChangeSpec := { name := "fnCut", fn := fun _ => fun
  | [d] => { results := [.lit (.bool true)], args := [d] }
  | _ => none }
def fnCutRow : OpenClaim := { program := "ytjfbjfclcpcaiaadoor", sum := "1a2909398b710c9481132707c56e4bcde16a58a8cc653a82b0e4ea8523f62580", func := "loop.example/scottdomains/laws.FnCut", spec := "fnCut", unfollowed := true, recurses := true, named := ["math/bits.deBruijn64tab"], apart := false, laid := [("math/bits.deBruijn64tab", laid_math_bits_deBruijn64tab)] }
def FnCutSaid : Prop := fnCutRow.holds Tryd.pinned (OpenSpec.ofChange fnCutSpec)

/-- ITS FALSE NEIGHBOUR: 'it returns false'. Refute it at one input. -/
def fnCutWrong : ChangeSpec := { name := "fnCut", fn := fun _ => fun
  | [d] => { results := [.lit (.bool false)], args := [d] }
  | _ => none }
def FnCutWrongFalsely : Prop := fnCutRow.holds Tryd.pinned (OpenSpec.ofChange fnCutWrong)

/-- 'laws.FnMonotone': WHATEVER THE INPUT: true; the input reads as it did. -/
def fnMonotoneSpec : ChangeSpec := { name := "fnMonotone", fn := fun _ => fun
  | [d] => { results := [.lit (.bool true)], args := [d] }
  | _ => none }
def fnMonotoneRow : OpenClaim := { program := "ytjfbjfclcpcaiaadoor", sum := "1a2909398b710c9481132707c56e4bcde16a58a8cc653a82b0e4ea8523f62580", func := "loop.example/scottdomains/laws.FnMonotone", spec := "fnMonotone", unfollowed := true, recurses := true, named := ["math/bits.deBruijn64tab"], apart := false, laid := [("math/bits.deBruijn64tab", laid_math_bits_deBruijn64tab)] }
def FnMonotoneSaid : Prop := fnMonotoneRow.holds Tryd.pinned (OpenSpec.ofChange fnMonotoneSpec)

/-- ITS FALSE NEIGHBOUR: 'it returns false'. Refute it at one input. -/
def fnMonotoneWrong : ChangeSpec := { name := "fnMonotone", fn := fun _ => fun
  | [d] => { results := [.lit (.bool false)], args := [d] }
  | _ => none }
def FnMonotoneWrongFalsely : Prop := fnMonotoneRow.holds Tryd.pinned (OpenSpec.ofChange fnMonotoneWrong)

/-- 'laws.FnAfter': WHATEVER THE INPUT: true; the input reads as it did. -/
def fnAfterSpec : ChangeSpec := { name := "fnAfter", fn := fun _ => fun
  | [d] => { results := [.lit (.bool true)], args := [d] }
  | _ => none }
def fnAfterRow : OpenClaim := { program := "ytjfbjfclcpcaiaadoor", sum := "1a2909398b710c9481132707c56e4bcde16a58a8cc653a82b0e4ea8523f62580", func := "loop.example/scottdomains/laws.FnAfter", spec := "fnAfter", unfollowed := true, recurses := true, named := ["math/bits.deBruijn64tab"], apart := false, laid := [("math/bits.deBruijn64tab", laid_math_bits_deBruijn64tab)] }
def FnAfterSaid : Prop := fnAfterRow.holds Tryd.pinned (OpenSpec.ofChange fnAfterSpec)

/-- ITS FALSE NEIGHBOUR: 'it returns false'. Refute it at one input. -/
def fnAfterWrong : ChangeSpec := { name := "fnAfter", fn := fun _ => fun
  | [d] => { results := [.lit (.bool false)], args := [d] }
  | _ => none }
def FnAfterWrongFalsely : Prop := fnAfterRow.holds Tryd.pinned (OpenSpec.ofChange fnAfterWrong)

/-- 'laws.FnFix': WHATEVER THE INPUT: true; the input reads as it did. -/
def fnFixSpec : ChangeSpec := { name := "fnFix", fn := fun _ => fun
  | [d] => { results := [.lit (.bool true)], args := [d] }
  | _ => none }
def fnFixRow : OpenClaim := { program := "ytjfbjfclcpcaiaadoor", sum := "1a2909398b710c9481132707c56e4bcde16a58a8cc653a82b0e4ea8523f62580", func := "loop.example/scottdomains/laws.FnFix", spec := "fnFix", unfollowed := true, recurses := true, named := ["math/bits.deBruijn64tab"], apart := false, laid := [("math/bits.deBruijn64tab", laid_math_bits_deBruijn64tab)] }
def FnFixSaid : Prop := fnFixRow.holds Tryd.pinned (OpenSpec.ofChange fnFixSpec)

/-- ITS FALSE NEIGHBOUR: 'it returns false'. Refute it at one input. -/
def fnFixWrong : ChangeSpec := { name := "fnFix", fn := fun _ => fun
  | [d] => { results := [.lit (.bool false)], args := [d] }
  | _ => none }
def FnFixWrongFalsely : Prop := fnFixRow.holds Tryd.pinned (OpenSpec.ofChange fnFixWrong)

/-- 'laws.FnStrict': WHATEVER THE INPUT: true; the input reads as it did. -/
def fnStrictSpec : ChangeSpec := { name := "fnStrict", fn := fun _ => fun
  | [d] => { results := [.lit (.bool true)], args := [d] }
  | _ => none }
def fnStrictRow : OpenClaim := { program := "ytjfbjfclcpcaiaadoor", sum := "1a2909398b710c9481132707c56e4bcde16a58a8cc653a82b0e4ea8523f62580", func := "loop.example/scottdomains/laws.FnStrict", spec := "fnStrict", unfollowed := true, recurses := true, named := ["math/bits.deBruijn64tab"], apart := false, laid := [("math/bits.deBruijn64tab", laid_math_bits_deBruijn64tab)] }
def FnStrictSaid : Prop := fnStrictRow.holds Tryd.pinned (OpenSpec.ofChange fnStrictSpec)

/-- ITS FALSE NEIGHBOUR: 'it returns false'. Refute it at one input. -/
def fnStrictWrong : ChangeSpec := { name := "fnStrict", fn := fun _ => fun
  | [d] => { results := [.lit (.bool false)], args := [d] }
  | _ => none }
def FnStrictWrongFalsely : Prop := fnStrictRow.holds Tryd.pinned (OpenSpec.ofChange fnStrictWrong)

/-- 'laws.FnStable': WHATEVER THE INPUT: true; the input reads as it did. -/
def fnStableSpec : ChangeSpec := { name := "fnStable", fn := fun _ => fun
  | [d] => { results := [.lit (.bool true)], args := [d] }
  | _ => none }
def fnStableRow : OpenClaim := { program := "ytjfbjfclcpcaiaadoor", sum := "1a2909398b710c9481132707c56e4bcde16a58a8cc653a82b0e4ea8523f62580", func := "loop.example/scottdomains/laws.FnStable", spec := "fnStable", unfollowed := true, recurses := true, named := ["math/bits.deBruijn64tab"], apart := false, laid := [("math/bits.deBruijn64tab", laid_math_bits_deBruijn64tab)] }
def FnStableSaid : Prop := fnStableRow.holds Tryd.pinned (OpenSpec.ofChange fnStableSpec)

/-- ITS FALSE NEIGHBOUR: 'it returns false'. Refute it at one input. -/
def fnStableWrong : ChangeSpec := { name := "fnStable", fn := fun _ => fun
  | [d] => { results := [.lit (.bool false)], args := [d] }
  | _ => none }
def FnStableWrongFalsely : Prop := fnStableRow.holds Tryd.pinned (OpenSpec.ofChange fnStableWrong)

/-- 'laws.FnFunPair': WHATEVER THE INPUT: true; the input reads as it did. -/
def fnFunPairSpec : ChangeSpec := { name := "fnFunPair", fn := fun _ => fun
  | [d] => { results := [.lit (.bool true)], args := [d] }
  | _ => none }
def fnFunPairRow : OpenClaim := { program := "ytjfbjfclcpcaiaadoor", sum := "1a2909398b710c9481132707c56e4bcde16a58a8cc653a82b0e4ea8523f62580", func := "loop.example/scottdomains/laws.FnFunPair", spec := "fnFunPair", unfollowed := true, recurses := true, named := ["math/bits.deBruijn64tab"], apart := false, laid := [("math/bits.deBruijn64tab", laid_math_bits_deBruijn64tab)] }
def FnFunPairSaid : Prop := fnFunPairRow.holds Tryd.pinned (OpenSpec.ofChange fnFunPairSpec)

/-- ITS FALSE NEIGHBOUR: 'it returns false'. Refute it at one input. -/
def fnFunPairWrong : ChangeSpec := { name := "fnFunPair", fn := fun _ => fun
  | [d] => { results := [.lit (.bool false)], args := [d] }
  | _ => none }
def FnFunPairWrongFalsely : Prop := fnFunPairRow.holds Tryd.pinned (OpenSpec.ofChange fnFunPairWrong)

/-- 'laws.FnStep': WHATEVER THE INPUT: true; the input reads as it did. -/
def fnStepSpec : ChangeSpec := { name := "fnStep", fn := fun _ => fun
  | [d1, d2] => { results := [.lit (.bool true)], args := [d1, d2] }
  | _ => none }
def fnStepRow : OpenClaim := { program := "ytjfbjfclcpcaiaadoor", sum := "1a2909398b710c9481132707c56e4bcde16a58a8cc653a82b0e4ea8523f62580", func := "loop.example/scottdomains/laws.FnStep", spec := "fnStep", unfollowed := true, recurses := true, named := ["math/bits.deBruijn64tab"], apart := false, laid := [("math/bits.deBruijn64tab", laid_math_bits_deBruijn64tab)] }
def FnStepSaid : Prop := fnStepRow.holds Tryd.pinned (OpenSpec.ofChange fnStepSpec)

/-- ITS FALSE NEIGHBOUR: 'it returns false'. Refute it at one input. -/
def fnStepWrong : ChangeSpec := { name := "fnStep", fn := fun _ => fun
  | [d1, d2] => { results := [.lit (.bool false)], args := [d1, d2] }
  | _ => none }
def FnStepWrongFalsely : Prop := fnStepRow.holds Tryd.pinned (OpenSpec.ofChange fnStepWrong)

/-- 'laws.FnFunBelow': WHATEVER THE INPUT: true; the input reads as it did. -/
def fnFunBelowSpec : ChangeSpec := { name := "fnFunBelow", fn := fun _ => fun
  | [d] => { results := [.lit (.bool true)], args := [d] }
  | _ => none }
def fnFunBelowRow : OpenClaim := { program := "ytjfbjfclcpcaiaadoor", sum := "1a2909398b710c9481132707c56e4bcde16a58a8cc653a82b0e4ea8523f62580", func := "loop.example/scottdomains/laws.FnFunBelow", spec := "fnFunBelow", unfollowed := true, recurses := true, named := ["math/bits.deBruijn64tab"], apart := false, laid := [("math/bits.deBruijn64tab", laid_math_bits_deBruijn64tab)] }
def FnFunBelowSaid : Prop := fnFunBelowRow.holds Tryd.pinned (OpenSpec.ofChange fnFunBelowSpec)

/-- ITS FALSE NEIGHBOUR: 'it returns false'. Refute it at one input. -/
def fnFunBelowWrong : ChangeSpec := { name := "fnFunBelow", fn := fun _ => fun
  | [d] => { results := [.lit (.bool false)], args := [d] }
  | _ => none }
def FnFunBelowWrongFalsely : Prop := fnFunBelowRow.holds Tryd.pinned (OpenSpec.ofChange fnFunBelowWrong)

/-- 'laws.FnFrom': WHATEVER THE INPUT: true; the input reads as it did. -/
def fnFromSpec : ChangeSpec := { name := "fnFrom", fn := fun _ => fun
  | [d] => { results := [.lit (.bool true)], args := [d] }
  | _ => none }
def fnFromRow : OpenClaim := { program := "ytjfbjfclcpcaiaadoor", sum := "1a2909398b710c9481132707c56e4bcde16a58a8cc653a82b0e4ea8523f62580", func := "loop.example/scottdomains/laws.FnFrom", spec := "fnFrom", unfollowed := true, recurses := true, named := ["math/bits.deBruijn64tab"], apart := false, laid := [("math/bits.deBruijn64tab", laid_math_bits_deBruijn64tab)] }
def FnFromSaid : Prop := fnFromRow.holds Tryd.pinned (OpenSpec.ofChange fnFromSpec)

/-- ITS FALSE NEIGHBOUR: 'it returns false'. Refute it at one input. -/
def fnFromWrong : ChangeSpec := { name := "fnFrom", fn := fun _ => fun
  | [d] => { results := [.lit (.bool false)], args := [d] }
  | _ => none }
def FnFromWrongFalsely : Prop := fnFromRow.holds Tryd.pinned (OpenSpec.ofChange fnFromWrong)

/- THE SECOND FORM. 'bulk': how many values and letters a reading holds, each counted each time it is reached (what is shared counts as often as it is met; a slice's spare places count too). A statement '..UptoSaid' is the law's where the arguments, and the package variables that the reading takes, are together of bulk at most 1048576: NARROWER than '..Said'. Prove '..Said' where nothing that the law and all that it calls make is longer than what came in: it says more and counts as full. Else prove '..UptoSaid'. A law counts once. -/
mutual
def uptoBulk {H : Type} : DataW H → Nat
  | .lit (.string bytes) => bytes.length + 1
  | .lit _ => 1
  | .nil => 1
  | .ptr d => uptoBulk d + 1
  | .slice elems spare => uptoBulkAll elems + uptoBulkAll spare + 1
  | .agg parts => uptoBulkAll parts + 1
  | .iface _ d => uptoBulk d + 1
  | .map entries => uptoBulkEntries entries + 1
  | .held _ => 1
def uptoBulkAll {H : Type} : List (DataW H) → Nat
  | [] => 0
  | d :: r => uptoBulk d + uptoBulkAll r
def uptoBulkEntries {H : Type} : List (Lit × DataW H) → Nat
  | [] => 0
  | x :: r => uptoBulkEntry x + uptoBulkEntries r
def uptoBulkEntry {H : Type} : Lit × DataW H → Nat
  | (.string bytes, d) => bytes.length + uptoBulk d + 1
  | (_, d) => uptoBulk d + 1
 end
def uptoSmall : (H : Type) → List (DataW H) → Bool := fun _ ds => decide (uptoBulkAll ds ≤ 1048576)
def OpenSpec.upto (s : _root_.Go.ChangeSpec) : _root_.Go.OpenSpec := { _root_.Go.OpenSpec.ofChange s with cond := some uptoSmall }

/-- 'laws.FnLift', WHERE WHAT IT READS IS OF BULK AT MOST 1048576: true; the input reads as it did. -/
def fnLiftUptoRow : OpenClaim := { program := "ytjfbjfclcpcaiaadoor", sum := "1a2909398b710c9481132707c56e4bcde16a58a8cc653a82b0e4ea8523f62580", func := "loop.example/scottdomains/laws.FnLift", spec := "fnLift", unfollowed := true, recurses := true, named := ["math/bits.deBruijn64tab"], apart := false, laid := [("math/bits.deBruijn64tab", laid_math_bits_deBruijn64tab)], narrowed := true }
def FnLiftUptoSaid : Prop := fnLiftUptoRow.holds Tryd.pinned (OpenSpec.upto fnLiftSpec)

/-- 'laws.FnProduct', WHERE WHAT IT READS IS OF BULK AT MOST 1048576: true; the input reads as it did. -/
def fnProductUptoRow : OpenClaim := { program := "ytjfbjfclcpcaiaadoor", sum := "1a2909398b710c9481132707c56e4bcde16a58a8cc653a82b0e4ea8523f62580", func := "loop.example/scottdomains/laws.FnProduct", spec := "fnProduct", unfollowed := true, recurses := true, named := ["math/bits.deBruijn64tab"], apart := false, laid := [("math/bits.deBruijn64tab", laid_math_bits_deBruijn64tab)], narrowed := true }
def FnProductUptoSaid : Prop := fnProductUptoRow.holds Tryd.pinned (OpenSpec.upto fnProductSpec)

/-- 'laws.FnSum', WHERE WHAT IT READS IS OF BULK AT MOST 1048576: true; the input reads as it did. -/
def fnSumUptoRow : OpenClaim := { program := "ytjfbjfclcpcaiaadoor", sum := "1a2909398b710c9481132707c56e4bcde16a58a8cc653a82b0e4ea8523f62580", func := "loop.example/scottdomains/laws.FnSum", spec := "fnSum", unfollowed := true, recurses := true, named := ["math/bits.deBruijn64tab"], apart := false, laid := [("math/bits.deBruijn64tab", laid_math_bits_deBruijn64tab)], narrowed := true }
def FnSumUptoSaid : Prop := fnSumUptoRow.holds Tryd.pinned (OpenSpec.upto fnSumSpec)

/-- 'laws.FnCut', WHERE WHAT IT READS IS OF BULK AT MOST 1048576: true; the input reads as it did. -/
def fnCutUptoRow : OpenClaim := { program := "ytjfbjfclcpcaiaadoor", sum := "1a2909398b710c9481132707c56e4bcde16a58a8cc653a82b0e4ea8523f62580", func := "loop.example/scottdomains/laws.FnCut", spec := "fnCut", unfollowed := true, recurses := true, named := ["math/bits.deBruijn64tab"], apart := false, laid := [("math/bits.deBruijn64tab", laid_math_bits_deBruijn64tab)], narrowed := true }
def FnCutUptoSaid : Prop := fnCutUptoRow.holds Tryd.pinned (OpenSpec.upto fnCutSpec)

/-- 'laws.FnMonotone', WHERE WHAT IT READS IS OF BULK AT MOST 1048576: true; the input reads as it did. -/
def fnMonotoneUptoRow : OpenClaim := { program := "ytjfbjfclcpcaiaadoor", sum := "1a2909398b710c9481132707c56e4bcde16a58a8cc653a82b0e4ea8523f62580", func := "loop.example/scottdomains/laws.FnMonotone", spec := "fnMonotone", unfollowed := true, recurses := true, named := ["math/bits.deBruijn64tab"], apart := false, laid := [("math/bits.deBruijn64tab", laid_math_bits_deBruijn64tab)], narrowed := true }
def FnMonotoneUptoSaid : Prop := fnMonotoneUptoRow.holds Tryd.pinned (OpenSpec.upto fnMonotoneSpec)

/-- 'laws.FnAfter', WHERE WHAT IT READS IS OF BULK AT MOST 1048576: true; the input reads as it did. -/
def fnAfterUptoRow : OpenClaim := { program := "ytjfbjfclcpcaiaadoor", sum := "1a2909398b710c9481132707c56e4bcde16a58a8cc653a82b0e4ea8523f62580", func := "loop.example/scottdomains/laws.FnAfter", spec := "fnAfter", unfollowed := true, recurses := true, named := ["math/bits.deBruijn64tab"], apart := false, laid := [("math/bits.deBruijn64tab", laid_math_bits_deBruijn64tab)], narrowed := true }
def FnAfterUptoSaid : Prop := fnAfterUptoRow.holds Tryd.pinned (OpenSpec.upto fnAfterSpec)

/-- 'laws.FnFix', WHERE WHAT IT READS IS OF BULK AT MOST 1048576: true; the input reads as it did. -/
def fnFixUptoRow : OpenClaim := { program := "ytjfbjfclcpcaiaadoor", sum := "1a2909398b710c9481132707c56e4bcde16a58a8cc653a82b0e4ea8523f62580", func := "loop.example/scottdomains/laws.FnFix", spec := "fnFix", unfollowed := true, recurses := true, named := ["math/bits.deBruijn64tab"], apart := false, laid := [("math/bits.deBruijn64tab", laid_math_bits_deBruijn64tab)], narrowed := true }
def FnFixUptoSaid : Prop := fnFixUptoRow.holds Tryd.pinned (OpenSpec.upto fnFixSpec)

/-- 'laws.FnStrict', WHERE WHAT IT READS IS OF BULK AT MOST 1048576: true; the input reads as it did. -/
def fnStrictUptoRow : OpenClaim := { program := "ytjfbjfclcpcaiaadoor", sum := "1a2909398b710c9481132707c56e4bcde16a58a8cc653a82b0e4ea8523f62580", func := "loop.example/scottdomains/laws.FnStrict", spec := "fnStrict", unfollowed := true, recurses := true, named := ["math/bits.deBruijn64tab"], apart := false, laid := [("math/bits.deBruijn64tab", laid_math_bits_deBruijn64tab)], narrowed := true }
def FnStrictUptoSaid : Prop := fnStrictUptoRow.holds Tryd.pinned (OpenSpec.upto fnStrictSpec)

/-- 'laws.FnStable', WHERE WHAT IT READS IS OF BULK AT MOST 1048576: true; the input reads as it did. -/
def fnStableUptoRow : OpenClaim := { program := "ytjfbjfclcpcaiaadoor", sum := "1a2909398b710c9481132707c56e4bcde16a58a8cc653a82b0e4ea8523f62580", func := "loop.example/scottdomains/laws.FnStable", spec := "fnStable", unfollowed := true, recurses := true, named := ["math/bits.deBruijn64tab"], apart := false, laid := [("math/bits.deBruijn64tab", laid_math_bits_deBruijn64tab)], narrowed := true }
def FnStableUptoSaid : Prop := fnStableUptoRow.holds Tryd.pinned (OpenSpec.upto fnStableSpec)

/-- 'laws.FnFunPair', WHERE WHAT IT READS IS OF BULK AT MOST 1048576: true; the input reads as it did. -/
def fnFunPairUptoRow : OpenClaim := { program := "ytjfbjfclcpcaiaadoor", sum := "1a2909398b710c9481132707c56e4bcde16a58a8cc653a82b0e4ea8523f62580", func := "loop.example/scottdomains/laws.FnFunPair", spec := "fnFunPair", unfollowed := true, recurses := true, named := ["math/bits.deBruijn64tab"], apart := false, laid := [("math/bits.deBruijn64tab", laid_math_bits_deBruijn64tab)], narrowed := true }
def FnFunPairUptoSaid : Prop := fnFunPairUptoRow.holds Tryd.pinned (OpenSpec.upto fnFunPairSpec)

/-- 'laws.FnStep', WHERE WHAT IT READS IS OF BULK AT MOST 1048576: true; the input reads as it did. -/
def fnStepUptoRow : OpenClaim := { program := "ytjfbjfclcpcaiaadoor", sum := "1a2909398b710c9481132707c56e4bcde16a58a8cc653a82b0e4ea8523f62580", func := "loop.example/scottdomains/laws.FnStep", spec := "fnStep", unfollowed := true, recurses := true, named := ["math/bits.deBruijn64tab"], apart := false, laid := [("math/bits.deBruijn64tab", laid_math_bits_deBruijn64tab)], narrowed := true }
def FnStepUptoSaid : Prop := fnStepUptoRow.holds Tryd.pinned (OpenSpec.upto fnStepSpec)

/-- 'laws.FnFunBelow', WHERE WHAT IT READS IS OF BULK AT MOST 1048576: true; the input reads as it did. -/
def fnFunBelowUptoRow : OpenClaim := { program := "ytjfbjfclcpcaiaadoor", sum := "1a2909398b710c9481132707c56e4bcde16a58a8cc653a82b0e4ea8523f62580", func := "loop.example/scottdomains/laws.FnFunBelow", spec := "fnFunBelow", unfollowed := true, recurses := true, named := ["math/bits.deBruijn64tab"], apart := false, laid := [("math/bits.deBruijn64tab", laid_math_bits_deBruijn64tab)], narrowed := true }
def FnFunBelowUptoSaid : Prop := fnFunBelowUptoRow.holds Tryd.pinned (OpenSpec.upto fnFunBelowSpec)

/-- 'laws.FnFrom', WHERE WHAT IT READS IS OF BULK AT MOST 1048576: true; the input reads as it did. -/
def fnFromUptoRow : OpenClaim := { program := "ytjfbjfclcpcaiaadoor", sum := "1a2909398b710c9481132707c56e4bcde16a58a8cc653a82b0e4ea8523f62580", func := "loop.example/scottdomains/laws.FnFrom", spec := "fnFrom", unfollowed := true, recurses := true, named := ["math/bits.deBruijn64tab"], apart := false, laid := [("math/bits.deBruijn64tab", laid_math_bits_deBruijn64tab)], narrowed := true }
def FnFromUptoSaid : Prop := fnFromUptoRow.holds Tryd.pinned (OpenSpec.upto fnFromSpec)

end Rows
end Go.Proofs.YtjfbjfclcpcaiaaDoor
