/-
  NARROWER THAN 'FOR EVERY INPUT', by the rows' own cells (each row's printed sentence says how): FnExactFunMonotone: laid · FnExactFunAfter: laid · FnExactFunFix: laid · FnExactFunStrict: laid · FnExactFunBelow: laid · FnExactFunPair: laid · FnExactFunStep: laid · FnExactFunMeet: laid · FnExactFunJoin: laid · FnExactDomainLift: laid · FnExactDomainProduct: laid · FnExactDomainSum: laid · FnExactFunParts: laid.
  DERIVED. THE GIVEN ROWS OF THIS SEAT. 13 by the template 'for every input the law returns true; each argument reads behind the call as it read before'; 0 by the template 'total and deterministic' (their statements: YtnniffjjbekodaaDoorTotals.lean).
  GIVEN WITH THE SEED: the statements are not yours to turn. If you find one false, say at which input.
  Laid BY PROGRAM, IN A SANDBOX (cutbox-rows.mjs): the forced cells as the released guide's own fill.sh prints them over the translation 3899b4a836e83fe6… (all of the seat's roots in one cut). By AI agents, Wed Nov 11 2026. No macro, syntax, notation, axiom, sorry.
-/
import Derived.Test.YtnniffjjbekodaaDoorChecked
import GoSem.Claim
import GoSem.ClaimJoined
import GoSem.ClaimMapViews
import Derived.JoinedTies
import Derived.KernelRfl
namespace Go.Proofs.YtnniffjjbekodaaDoor
/- THE CELL 'sum', in the pinned program and in every row, IS THE sha256 OF THE DUMP (.gsa) THAT YtnniffjjbekodaaDoorProg.lean LOADS. Nothing in Lean hashes anything: it is a label: what it is worth is what the hold of that sum in a sandbox is worth. -/
noncomputable def Tryd.pinned : Pinned := { name := "ytnniffjjbekodaadoor", sum := "3899b4a836e83fe626c67e2ec3e0006893c7c0292f69558fb85b46fa1da9afd1", checked := Tryd.checked }
namespace Rows
def none {H : Type} : Left H := { results := [], args := [] }

/- WHAT THE LISTED PACKAGE-LEVEL VARIABLES READ AS WHEN THE CALL BEGINS. Each datum BY PROGRAM (the guide's laid-datum.mjs) off the statement by which the dump's own 'gosem.cut.vars' lays the variable. In a bare row this is a premise. The card (YtnniffjjbekodaaDoorCards.lean) ties it to the program's text. -/
def laid_math_bits_deBruijn64tab {H : Type} : DataW H := .agg [.lit (.int .u8 0), .lit (.int .u8 1), .lit (.int .u8 56), .lit (.int .u8 2), .lit (.int .u8 57), .lit (.int .u8 49), .lit (.int .u8 28), .lit (.int .u8 3), .lit (.int .u8 61), .lit (.int .u8 58), .lit (.int .u8 42), .lit (.int .u8 50), .lit (.int .u8 38), .lit (.int .u8 29), .lit (.int .u8 17), .lit (.int .u8 4), .lit (.int .u8 62), .lit (.int .u8 47), .lit (.int .u8 59), .lit (.int .u8 36), .lit (.int .u8 45), .lit (.int .u8 43), .lit (.int .u8 51), .lit (.int .u8 22), .lit (.int .u8 53), .lit (.int .u8 39), .lit (.int .u8 33), .lit (.int .u8 30), .lit (.int .u8 24), .lit (.int .u8 18), .lit (.int .u8 12), .lit (.int .u8 5), .lit (.int .u8 63), .lit (.int .u8 55), .lit (.int .u8 48), .lit (.int .u8 27), .lit (.int .u8 60), .lit (.int .u8 41), .lit (.int .u8 37), .lit (.int .u8 16), .lit (.int .u8 46), .lit (.int .u8 35), .lit (.int .u8 44), .lit (.int .u8 21), .lit (.int .u8 52), .lit (.int .u8 32), .lit (.int .u8 23), .lit (.int .u8 11), .lit (.int .u8 54), .lit (.int .u8 26), .lit (.int .u8 40), .lit (.int .u8 15), .lit (.int .u8 34), .lit (.int .u8 20), .lit (.int .u8 31), .lit (.int .u8 10), .lit (.int .u8 25), .lit (.int .u8 14), .lit (.int .u8 19), .lit (.int .u8 9), .lit (.int .u8 13), .lit (.int .u8 8), .lit (.int .u8 7), .lit (.int .u8 6)]

/-- 'laws.FnExactFunMonotone': WHATEVER THE INPUT: true; the input reads as it did. -/
def fnExactFunMonotoneSpec : ChangeSpec := { name := "fnExactFunMonotone", fn := fun _ => fun
  | [d1, d2, d3] => { results := [.lit (.bool true)], args := [d1, d2, d3] }
  | _ => none }
def fnExactFunMonotoneRow : OpenClaim := { program := "ytnniffjjbekodaadoor", sum := "3899b4a836e83fe626c67e2ec3e0006893c7c0292f69558fb85b46fa1da9afd1", func := "loop.example/scottdomains/laws.FnExactFunMonotone", spec := "fnExactFunMonotone", unfollowed := true, recurses := true, named := ["math/bits.deBruijn64tab"], apart := false, laid := [("math/bits.deBruijn64tab", laid_math_bits_deBruijn64tab)] }
def FnExactFunMonotoneSaid : Prop := fnExactFunMonotoneRow.holds Tryd.pinned (OpenSpec.ofChange fnExactFunMonotoneSpec)

/-- ITS FALSE NEIGHBOUR: 'it returns false'. Refute it at one input. -/
def fnExactFunMonotoneWrong : ChangeSpec := { name := "fnExactFunMonotone", fn := fun _ => fun
  | [d1, d2, d3] => { results := [.lit (.bool false)], args := [d1, d2, d3] }
  | _ => none }
def FnExactFunMonotoneWrongFalsely : Prop := fnExactFunMonotoneRow.holds Tryd.pinned (OpenSpec.ofChange fnExactFunMonotoneWrong)

/-- 'laws.FnExactFunAfter': WHATEVER THE INPUT: true; the input reads as it did. -/
def fnExactFunAfterSpec : ChangeSpec := { name := "fnExactFunAfter", fn := fun _ => fun
  | [d1, d2, d3, d4, d5] => { results := [.lit (.bool true)], args := [d1, d2, d3, d4, d5] }
  | _ => none }
def fnExactFunAfterRow : OpenClaim := { program := "ytnniffjjbekodaadoor", sum := "3899b4a836e83fe626c67e2ec3e0006893c7c0292f69558fb85b46fa1da9afd1", func := "loop.example/scottdomains/laws.FnExactFunAfter", spec := "fnExactFunAfter", unfollowed := true, recurses := true, named := ["math/bits.deBruijn64tab"], apart := false, laid := [("math/bits.deBruijn64tab", laid_math_bits_deBruijn64tab)] }
def FnExactFunAfterSaid : Prop := fnExactFunAfterRow.holds Tryd.pinned (OpenSpec.ofChange fnExactFunAfterSpec)

/-- ITS FALSE NEIGHBOUR: 'it returns false'. Refute it at one input. -/
def fnExactFunAfterWrong : ChangeSpec := { name := "fnExactFunAfter", fn := fun _ => fun
  | [d1, d2, d3, d4, d5] => { results := [.lit (.bool false)], args := [d1, d2, d3, d4, d5] }
  | _ => none }
def FnExactFunAfterWrongFalsely : Prop := fnExactFunAfterRow.holds Tryd.pinned (OpenSpec.ofChange fnExactFunAfterWrong)

/-- 'laws.FnExactFunFix': WHATEVER THE INPUT: true; the input reads as it did. -/
def fnExactFunFixSpec : ChangeSpec := { name := "fnExactFunFix", fn := fun _ => fun
  | [d1, d2] => { results := [.lit (.bool true)], args := [d1, d2] }
  | _ => none }
def fnExactFunFixRow : OpenClaim := { program := "ytnniffjjbekodaadoor", sum := "3899b4a836e83fe626c67e2ec3e0006893c7c0292f69558fb85b46fa1da9afd1", func := "loop.example/scottdomains/laws.FnExactFunFix", spec := "fnExactFunFix", unfollowed := true, recurses := true, named := ["math/bits.deBruijn64tab"], apart := false, laid := [("math/bits.deBruijn64tab", laid_math_bits_deBruijn64tab)] }
def FnExactFunFixSaid : Prop := fnExactFunFixRow.holds Tryd.pinned (OpenSpec.ofChange fnExactFunFixSpec)

/-- ITS FALSE NEIGHBOUR: 'it returns false'. Refute it at one input. -/
def fnExactFunFixWrong : ChangeSpec := { name := "fnExactFunFix", fn := fun _ => fun
  | [d1, d2] => { results := [.lit (.bool false)], args := [d1, d2] }
  | _ => none }
def FnExactFunFixWrongFalsely : Prop := fnExactFunFixRow.holds Tryd.pinned (OpenSpec.ofChange fnExactFunFixWrong)

/-- 'laws.FnExactFunStrict': WHATEVER THE INPUT: true; the input reads as it did. -/
def fnExactFunStrictSpec : ChangeSpec := { name := "fnExactFunStrict", fn := fun _ => fun
  | [d1, d2, d3] => { results := [.lit (.bool true)], args := [d1, d2, d3] }
  | _ => none }
def fnExactFunStrictRow : OpenClaim := { program := "ytnniffjjbekodaadoor", sum := "3899b4a836e83fe626c67e2ec3e0006893c7c0292f69558fb85b46fa1da9afd1", func := "loop.example/scottdomains/laws.FnExactFunStrict", spec := "fnExactFunStrict", unfollowed := true, recurses := true, named := ["math/bits.deBruijn64tab"], apart := false, laid := [("math/bits.deBruijn64tab", laid_math_bits_deBruijn64tab)] }
def FnExactFunStrictSaid : Prop := fnExactFunStrictRow.holds Tryd.pinned (OpenSpec.ofChange fnExactFunStrictSpec)

/-- ITS FALSE NEIGHBOUR: 'it returns false'. Refute it at one input. -/
def fnExactFunStrictWrong : ChangeSpec := { name := "fnExactFunStrict", fn := fun _ => fun
  | [d1, d2, d3] => { results := [.lit (.bool false)], args := [d1, d2, d3] }
  | _ => none }
def FnExactFunStrictWrongFalsely : Prop := fnExactFunStrictRow.holds Tryd.pinned (OpenSpec.ofChange fnExactFunStrictWrong)

/-- 'laws.FnExactFunBelow': WHATEVER THE INPUT: true; the input reads as it did. -/
def fnExactFunBelowSpec : ChangeSpec := { name := "fnExactFunBelow", fn := fun _ => fun
  | [d1, d2, d3, d4] => { results := [.lit (.bool true)], args := [d1, d2, d3, d4] }
  | _ => none }
def fnExactFunBelowRow : OpenClaim := { program := "ytnniffjjbekodaadoor", sum := "3899b4a836e83fe626c67e2ec3e0006893c7c0292f69558fb85b46fa1da9afd1", func := "loop.example/scottdomains/laws.FnExactFunBelow", spec := "fnExactFunBelow", unfollowed := true, recurses := true, named := ["math/bits.deBruijn64tab"], apart := false, laid := [("math/bits.deBruijn64tab", laid_math_bits_deBruijn64tab)] }
def FnExactFunBelowSaid : Prop := fnExactFunBelowRow.holds Tryd.pinned (OpenSpec.ofChange fnExactFunBelowSpec)

/-- ITS FALSE NEIGHBOUR: 'it returns false'. Refute it at one input. -/
def fnExactFunBelowWrong : ChangeSpec := { name := "fnExactFunBelow", fn := fun _ => fun
  | [d1, d2, d3, d4] => { results := [.lit (.bool false)], args := [d1, d2, d3, d4] }
  | _ => none }
def FnExactFunBelowWrongFalsely : Prop := fnExactFunBelowRow.holds Tryd.pinned (OpenSpec.ofChange fnExactFunBelowWrong)

/-- 'laws.FnExactFunPair': WHATEVER THE INPUT: true; the input reads as it did. -/
def fnExactFunPairSpec : ChangeSpec := { name := "fnExactFunPair", fn := fun _ => fun
  | [d1, d2, d3, d4, d5] => { results := [.lit (.bool true)], args := [d1, d2, d3, d4, d5] }
  | _ => none }
def fnExactFunPairRow : OpenClaim := { program := "ytnniffjjbekodaadoor", sum := "3899b4a836e83fe626c67e2ec3e0006893c7c0292f69558fb85b46fa1da9afd1", func := "loop.example/scottdomains/laws.FnExactFunPair", spec := "fnExactFunPair", unfollowed := true, recurses := true, named := ["math/bits.deBruijn64tab"], apart := false, laid := [("math/bits.deBruijn64tab", laid_math_bits_deBruijn64tab)] }
def FnExactFunPairSaid : Prop := fnExactFunPairRow.holds Tryd.pinned (OpenSpec.ofChange fnExactFunPairSpec)

/-- ITS FALSE NEIGHBOUR: 'it returns false'. Refute it at one input. -/
def fnExactFunPairWrong : ChangeSpec := { name := "fnExactFunPair", fn := fun _ => fun
  | [d1, d2, d3, d4, d5] => { results := [.lit (.bool false)], args := [d1, d2, d3, d4, d5] }
  | _ => none }
def FnExactFunPairWrongFalsely : Prop := fnExactFunPairRow.holds Tryd.pinned (OpenSpec.ofChange fnExactFunPairWrong)

/-- 'laws.FnExactFunStep': WHATEVER THE INPUT: true; the input reads as it did. -/
def fnExactFunStepSpec : ChangeSpec := { name := "fnExactFunStep", fn := fun _ => fun
  | [d1, d2, d3, d4] => { results := [.lit (.bool true)], args := [d1, d2, d3, d4] }
  | _ => none }
def fnExactFunStepRow : OpenClaim := { program := "ytnniffjjbekodaadoor", sum := "3899b4a836e83fe626c67e2ec3e0006893c7c0292f69558fb85b46fa1da9afd1", func := "loop.example/scottdomains/laws.FnExactFunStep", spec := "fnExactFunStep", unfollowed := true, recurses := true, named := ["math/bits.deBruijn64tab"], apart := false, laid := [("math/bits.deBruijn64tab", laid_math_bits_deBruijn64tab)] }
def FnExactFunStepSaid : Prop := fnExactFunStepRow.holds Tryd.pinned (OpenSpec.ofChange fnExactFunStepSpec)

/-- ITS FALSE NEIGHBOUR: 'it returns false'. Refute it at one input. -/
def fnExactFunStepWrong : ChangeSpec := { name := "fnExactFunStep", fn := fun _ => fun
  | [d1, d2, d3, d4] => { results := [.lit (.bool false)], args := [d1, d2, d3, d4] }
  | _ => none }
def FnExactFunStepWrongFalsely : Prop := fnExactFunStepRow.holds Tryd.pinned (OpenSpec.ofChange fnExactFunStepWrong)

/-- 'laws.FnExactFunMeet': WHATEVER THE INPUT: true; the input reads as it did. -/
def fnExactFunMeetSpec : ChangeSpec := { name := "fnExactFunMeet", fn := fun _ => fun
  | [d1, d2, d3, d4] => { results := [.lit (.bool true)], args := [d1, d2, d3, d4] }
  | _ => none }
def fnExactFunMeetRow : OpenClaim := { program := "ytnniffjjbekodaadoor", sum := "3899b4a836e83fe626c67e2ec3e0006893c7c0292f69558fb85b46fa1da9afd1", func := "loop.example/scottdomains/laws.FnExactFunMeet", spec := "fnExactFunMeet", unfollowed := true, recurses := true, named := ["math/bits.deBruijn64tab"], apart := false, laid := [("math/bits.deBruijn64tab", laid_math_bits_deBruijn64tab)] }
def FnExactFunMeetSaid : Prop := fnExactFunMeetRow.holds Tryd.pinned (OpenSpec.ofChange fnExactFunMeetSpec)

/-- ITS FALSE NEIGHBOUR: 'it returns false'. Refute it at one input. -/
def fnExactFunMeetWrong : ChangeSpec := { name := "fnExactFunMeet", fn := fun _ => fun
  | [d1, d2, d3, d4] => { results := [.lit (.bool false)], args := [d1, d2, d3, d4] }
  | _ => none }
def FnExactFunMeetWrongFalsely : Prop := fnExactFunMeetRow.holds Tryd.pinned (OpenSpec.ofChange fnExactFunMeetWrong)

/-- 'laws.FnExactFunJoin': WHATEVER THE INPUT: true; the input reads as it did. -/
def fnExactFunJoinSpec : ChangeSpec := { name := "fnExactFunJoin", fn := fun _ => fun
  | [d1, d2, d3, d4] => { results := [.lit (.bool true)], args := [d1, d2, d3, d4] }
  | _ => none }
def fnExactFunJoinRow : OpenClaim := { program := "ytnniffjjbekodaadoor", sum := "3899b4a836e83fe626c67e2ec3e0006893c7c0292f69558fb85b46fa1da9afd1", func := "loop.example/scottdomains/laws.FnExactFunJoin", spec := "fnExactFunJoin", unfollowed := true, recurses := true, named := ["math/bits.deBruijn64tab"], apart := false, laid := [("math/bits.deBruijn64tab", laid_math_bits_deBruijn64tab)] }
def FnExactFunJoinSaid : Prop := fnExactFunJoinRow.holds Tryd.pinned (OpenSpec.ofChange fnExactFunJoinSpec)

/-- ITS FALSE NEIGHBOUR: 'it returns false'. Refute it at one input. -/
def fnExactFunJoinWrong : ChangeSpec := { name := "fnExactFunJoin", fn := fun _ => fun
  | [d1, d2, d3, d4] => { results := [.lit (.bool false)], args := [d1, d2, d3, d4] }
  | _ => none }
def FnExactFunJoinWrongFalsely : Prop := fnExactFunJoinRow.holds Tryd.pinned (OpenSpec.ofChange fnExactFunJoinWrong)

/-- 'laws.FnExactDomainLift': WHATEVER THE INPUT: true; the input reads as it did. -/
def fnExactDomainLiftSpec : ChangeSpec := { name := "fnExactDomainLift", fn := fun _ => fun
  | [d] => { results := [.lit (.bool true)], args := [d] }
  | _ => none }
def fnExactDomainLiftRow : OpenClaim := { program := "ytnniffjjbekodaadoor", sum := "3899b4a836e83fe626c67e2ec3e0006893c7c0292f69558fb85b46fa1da9afd1", func := "loop.example/scottdomains/laws.FnExactDomainLift", spec := "fnExactDomainLift", unfollowed := true, recurses := true, named := ["math/bits.deBruijn64tab"], apart := false, laid := [("math/bits.deBruijn64tab", laid_math_bits_deBruijn64tab)] }
def FnExactDomainLiftSaid : Prop := fnExactDomainLiftRow.holds Tryd.pinned (OpenSpec.ofChange fnExactDomainLiftSpec)

/-- ITS FALSE NEIGHBOUR: 'it returns false'. Refute it at one input. -/
def fnExactDomainLiftWrong : ChangeSpec := { name := "fnExactDomainLift", fn := fun _ => fun
  | [d] => { results := [.lit (.bool false)], args := [d] }
  | _ => none }
def FnExactDomainLiftWrongFalsely : Prop := fnExactDomainLiftRow.holds Tryd.pinned (OpenSpec.ofChange fnExactDomainLiftWrong)

/-- 'laws.FnExactDomainProduct': WHATEVER THE INPUT: true; the input reads as it did. -/
def fnExactDomainProductSpec : ChangeSpec := { name := "fnExactDomainProduct", fn := fun _ => fun
  | [d1, d2] => { results := [.lit (.bool true)], args := [d1, d2] }
  | _ => none }
def fnExactDomainProductRow : OpenClaim := { program := "ytnniffjjbekodaadoor", sum := "3899b4a836e83fe626c67e2ec3e0006893c7c0292f69558fb85b46fa1da9afd1", func := "loop.example/scottdomains/laws.FnExactDomainProduct", spec := "fnExactDomainProduct", unfollowed := true, recurses := true, named := ["math/bits.deBruijn64tab"], apart := false, laid := [("math/bits.deBruijn64tab", laid_math_bits_deBruijn64tab)] }
def FnExactDomainProductSaid : Prop := fnExactDomainProductRow.holds Tryd.pinned (OpenSpec.ofChange fnExactDomainProductSpec)

/-- ITS FALSE NEIGHBOUR: 'it returns false'. Refute it at one input. -/
def fnExactDomainProductWrong : ChangeSpec := { name := "fnExactDomainProduct", fn := fun _ => fun
  | [d1, d2] => { results := [.lit (.bool false)], args := [d1, d2] }
  | _ => none }
def FnExactDomainProductWrongFalsely : Prop := fnExactDomainProductRow.holds Tryd.pinned (OpenSpec.ofChange fnExactDomainProductWrong)

/-- 'laws.FnExactDomainSum': WHATEVER THE INPUT: true; the input reads as it did. -/
def fnExactDomainSumSpec : ChangeSpec := { name := "fnExactDomainSum", fn := fun _ => fun
  | [d1, d2] => { results := [.lit (.bool true)], args := [d1, d2] }
  | _ => none }
def fnExactDomainSumRow : OpenClaim := { program := "ytnniffjjbekodaadoor", sum := "3899b4a836e83fe626c67e2ec3e0006893c7c0292f69558fb85b46fa1da9afd1", func := "loop.example/scottdomains/laws.FnExactDomainSum", spec := "fnExactDomainSum", unfollowed := true, recurses := true, named := ["math/bits.deBruijn64tab"], apart := false, laid := [("math/bits.deBruijn64tab", laid_math_bits_deBruijn64tab)] }
def FnExactDomainSumSaid : Prop := fnExactDomainSumRow.holds Tryd.pinned (OpenSpec.ofChange fnExactDomainSumSpec)

/-- ITS FALSE NEIGHBOUR: 'it returns false'. Refute it at one input. -/
def fnExactDomainSumWrong : ChangeSpec := { name := "fnExactDomainSum", fn := fun _ => fun
  | [d1, d2] => { results := [.lit (.bool false)], args := [d1, d2] }
  | _ => none }
def FnExactDomainSumWrongFalsely : Prop := fnExactDomainSumRow.holds Tryd.pinned (OpenSpec.ofChange fnExactDomainSumWrong)

/-- 'laws.FnExactFunParts': WHATEVER THE INPUT: true; the input reads as it did. -/
def fnExactFunPartsSpec : ChangeSpec := { name := "fnExactFunParts", fn := fun _ => fun
  | [d1, d2, d3, d4] => { results := [.lit (.bool true)], args := [d1, d2, d3, d4] }
  | _ => none }
def fnExactFunPartsRow : OpenClaim := { program := "ytnniffjjbekodaadoor", sum := "3899b4a836e83fe626c67e2ec3e0006893c7c0292f69558fb85b46fa1da9afd1", func := "loop.example/scottdomains/laws.FnExactFunParts", spec := "fnExactFunParts", unfollowed := true, recurses := true, named := ["math/bits.deBruijn64tab"], apart := false, laid := [("math/bits.deBruijn64tab", laid_math_bits_deBruijn64tab)] }
def FnExactFunPartsSaid : Prop := fnExactFunPartsRow.holds Tryd.pinned (OpenSpec.ofChange fnExactFunPartsSpec)

/-- ITS FALSE NEIGHBOUR: 'it returns false'. Refute it at one input. -/
def fnExactFunPartsWrong : ChangeSpec := { name := "fnExactFunParts", fn := fun _ => fun
  | [d1, d2, d3, d4] => { results := [.lit (.bool false)], args := [d1, d2, d3, d4] }
  | _ => none }
def FnExactFunPartsWrongFalsely : Prop := fnExactFunPartsRow.holds Tryd.pinned (OpenSpec.ofChange fnExactFunPartsWrong)

/- THE SECOND FORM. 'bulk': how many values and letters a reading holds, each counted each time it is reached (what is shared counts as often as it is met; a slice's spare places count too). A statement '..UptoSaid' is the law's where the arguments, and the package variables that the reading takes, are together of bulk at most 1048576: NARROWER than '..Said'. Prove '..Said' where nothing that the law and all that it calls make is longer than what came in: it says more and counts as full. Else prove '..UptoSaid'. A law counts once. -/
mutual
def uptoBulk {H : Type} : DataW H → Nat
  | .lit (.string bytes) => bytes.length + 1
  | .lit _ => 1
  | .nil => 1
  | .ptr d => uptoBulk d + 1
  | .slice elems spare => uptoBulkAll elems + uptoBulkAll spare + 1
  | .agg parts => uptoBulkAll parts + 1
  | .iface _ d => uptoBulk d + 1
  | .map entries => uptoBulkEntries entries + 1
  | .held _ => 1
def uptoBulkAll {H : Type} : List (DataW H) → Nat
  | [] => 0
  | d :: r => uptoBulk d + uptoBulkAll r
def uptoBulkEntries {H : Type} : List (Lit × DataW H) → Nat
  | [] => 0
  | x :: r => uptoBulkEntry x + uptoBulkEntries r
def uptoBulkEntry {H : Type} : Lit × DataW H → Nat
  | (.string bytes, d) => bytes.length + uptoBulk d + 1
  | (_, d) => uptoBulk d + 1
 end
def uptoSmall : (H : Type) → List (DataW H) → Bool := fun _ ds => decide (uptoBulkAll ds ≤ 1048576)
def OpenSpec.upto (s : _root_.Go.ChangeSpec) : _root_.Go.OpenSpec := { _root_.Go.OpenSpec.ofChange s with cond := some uptoSmall }

/-- 'laws.FnExactFunMonotone', WHERE WHAT IT READS IS OF BULK AT MOST 1048576: true; the input reads as it did. -/
def fnExactFunMonotoneUptoRow : OpenClaim := { program := "ytnniffjjbekodaadoor", sum := "3899b4a836e83fe626c67e2ec3e0006893c7c0292f69558fb85b46fa1da9afd1", func := "loop.example/scottdomains/laws.FnExactFunMonotone", spec := "fnExactFunMonotone", unfollowed := true, recurses := true, named := ["math/bits.deBruijn64tab"], apart := false, laid := [("math/bits.deBruijn64tab", laid_math_bits_deBruijn64tab)], narrowed := true }
def FnExactFunMonotoneUptoSaid : Prop := fnExactFunMonotoneUptoRow.holds Tryd.pinned (OpenSpec.upto fnExactFunMonotoneSpec)

/-- 'laws.FnExactFunAfter', WHERE WHAT IT READS IS OF BULK AT MOST 1048576: true; the input reads as it did. -/
def fnExactFunAfterUptoRow : OpenClaim := { program := "ytnniffjjbekodaadoor", sum := "3899b4a836e83fe626c67e2ec3e0006893c7c0292f69558fb85b46fa1da9afd1", func := "loop.example/scottdomains/laws.FnExactFunAfter", spec := "fnExactFunAfter", unfollowed := true, recurses := true, named := ["math/bits.deBruijn64tab"], apart := false, laid := [("math/bits.deBruijn64tab", laid_math_bits_deBruijn64tab)], narrowed := true }
def FnExactFunAfterUptoSaid : Prop := fnExactFunAfterUptoRow.holds Tryd.pinned (OpenSpec.upto fnExactFunAfterSpec)

/-- 'laws.FnExactFunFix', WHERE WHAT IT READS IS OF BULK AT MOST 1048576: true; the input reads as it did. -/
def fnExactFunFixUptoRow : OpenClaim := { program := "ytnniffjjbekodaadoor", sum := "3899b4a836e83fe626c67e2ec3e0006893c7c0292f69558fb85b46fa1da9afd1", func := "loop.example/scottdomains/laws.FnExactFunFix", spec := "fnExactFunFix", unfollowed := true, recurses := true, named := ["math/bits.deBruijn64tab"], apart := false, laid := [("math/bits.deBruijn64tab", laid_math_bits_deBruijn64tab)], narrowed := true }
def FnExactFunFixUptoSaid : Prop := fnExactFunFixUptoRow.holds Tryd.pinned (OpenSpec.upto fnExactFunFixSpec)

/-- 'laws.FnExactFunStrict', WHERE WHAT IT READS IS OF BULK AT MOST 1048576: true; the input reads as it did. -/
def fnExactFunStrictUptoRow : OpenClaim := { program := "ytnniffjjbekodaadoor", sum := "3899b4a836e83fe626c67e2ec3e0006893c7c0292f69558fb85b46fa1da9afd1", func := "loop.example/scottdomains/laws.FnExactFunStrict", spec := "fnExactFunStrict", unfollowed := true, recurses := true, named := ["math/bits.deBruijn64tab"], apart := false, laid := [("math/bits.deBruijn64tab", laid_math_bits_deBruijn64tab)], narrowed := true }
def FnExactFunStrictUptoSaid : Prop := fnExactFunStrictUptoRow.holds Tryd.pinned (OpenSpec.upto fnExactFunStrictSpec)

/-- 'laws.FnExactFunBelow', WHERE WHAT IT READS IS OF BULK AT MOST 1048576: true; the input reads as it did. -/
def fnExactFunBelowUptoRow : OpenClaim := { program := "ytnniffjjbekodaadoor", sum := "3899b4a836e83fe626c67e2ec3e0006893c7c0292f69558fb85b46fa1da9afd1", func := "loop.example/scottdomains/laws.FnExactFunBelow", spec := "fnExactFunBelow", unfollowed := true, recurses := true, named := ["math/bits.deBruijn64tab"], apart := false, laid := [("math/bits.deBruijn64tab", laid_math_bits_deBruijn64tab)], narrowed := true }
def FnExactFunBelowUptoSaid : Prop := fnExactFunBelowUptoRow.holds Tryd.pinned (OpenSpec.upto fnExactFunBelowSpec)

/-- 'laws.FnExactFunPair', WHERE WHAT IT READS IS OF BULK AT MOST 1048576: true; the input reads as it did. -/
def fnExactFunPairUptoRow : OpenClaim := { program := "ytnniffjjbekodaadoor", sum := "3899b4a836e83fe626c67e2ec3e0006893c7c0292f69558fb85b46fa1da9afd1", func := "loop.example/scottdomains/laws.FnExactFunPair", spec := "fnExactFunPair", unfollowed := true, recurses := true, named := ["math/bits.deBruijn64tab"], apart := false, laid := [("math/bits.deBruijn64tab", laid_math_bits_deBruijn64tab)], narrowed := true }
def FnExactFunPairUptoSaid : Prop := fnExactFunPairUptoRow.holds Tryd.pinned (OpenSpec.upto fnExactFunPairSpec)

/-- 'laws.FnExactFunStep', WHERE WHAT IT READS IS OF BULK AT MOST 1048576: true; the input reads as it did. -/
def fnExactFunStepUptoRow : OpenClaim := { program := "ytnniffjjbekodaadoor", sum := "3899b4a836e83fe626c67e2ec3e0006893c7c0292f69558fb85b46fa1da9afd1", func := "loop.example/scottdomains/laws.FnExactFunStep", spec := "fnExactFunStep", unfollowed := true, recurses := true, named := ["math/bits.deBruijn64tab"], apart := false, laid := [("math/bits.deBruijn64tab", laid_math_bits_deBruijn64tab)], narrowed := true }
def FnExactFunStepUptoSaid : Prop := fnExactFunStepUptoRow.holds Tryd.pinned (OpenSpec.upto fnExactFunStepSpec)

/-- 'laws.FnExactFunMeet', WHERE WHAT IT READS IS OF BULK AT MOST 1048576: true; the input reads as it did. -/
def fnExactFunMeetUptoRow : OpenClaim := { program := "ytnniffjjbekodaadoor", sum := "3899b4a836e83fe626c67e2ec3e0006893c7c0292f69558fb85b46fa1da9afd1", func := "loop.example/scottdomains/laws.FnExactFunMeet", spec := "fnExactFunMeet", unfollowed := true, recurses := true, named := ["math/bits.deBruijn64tab"], apart := false, laid := [("math/bits.deBruijn64tab", laid_math_bits_deBruijn64tab)], narrowed := true }
def FnExactFunMeetUptoSaid : Prop := fnExactFunMeetUptoRow.holds Tryd.pinned (OpenSpec.upto fnExactFunMeetSpec)

/-- 'laws.FnExactFunJoin', WHERE WHAT IT READS IS OF BULK AT MOST 1048576: true; the input reads as it did. -/
def fnExactFunJoinUptoRow : OpenClaim := { program := "ytnniffjjbekodaadoor", sum := "3899b4a836e83fe626c67e2ec3e0006893c7c0292f69558fb85b46fa1da9afd1", func := "loop.example/scottdomains/laws.FnExactFunJoin", spec := "fnExactFunJoin", unfollowed := true, recurses := true, named := ["math/bits.deBruijn64tab"], apart := false, laid := [("math/bits.deBruijn64tab", laid_math_bits_deBruijn64tab)], narrowed := true }
def FnExactFunJoinUptoSaid : Prop := fnExactFunJoinUptoRow.holds Tryd.pinned (OpenSpec.upto fnExactFunJoinSpec)

/-- 'laws.FnExactDomainLift', WHERE WHAT IT READS IS OF BULK AT MOST 1048576: true; the input reads as it did. -/
def fnExactDomainLiftUptoRow : OpenClaim := { program := "ytnniffjjbekodaadoor", sum := "3899b4a836e83fe626c67e2ec3e0006893c7c0292f69558fb85b46fa1da9afd1", func := "loop.example/scottdomains/laws.FnExactDomainLift", spec := "fnExactDomainLift", unfollowed := true, recurses := true, named := ["math/bits.deBruijn64tab"], apart := false, laid := [("math/bits.deBruijn64tab", laid_math_bits_deBruijn64tab)], narrowed := true }
def FnExactDomainLiftUptoSaid : Prop := fnExactDomainLiftUptoRow.holds Tryd.pinned (OpenSpec.upto fnExactDomainLiftSpec)

/-- 'laws.FnExactDomainProduct', WHERE WHAT IT READS IS OF BULK AT MOST 1048576: true; the input reads as it did. -/
def fnExactDomainProductUptoRow : OpenClaim := { program := "ytnniffjjbekodaadoor", sum := "3899b4a836e83fe626c67e2ec3e0006893c7c0292f69558fb85b46fa1da9afd1", func := "loop.example/scottdomains/laws.FnExactDomainProduct", spec := "fnExactDomainProduct", unfollowed := true, recurses := true, named := ["math/bits.deBruijn64tab"], apart := false, laid := [("math/bits.deBruijn64tab", laid_math_bits_deBruijn64tab)], narrowed := true }
def FnExactDomainProductUptoSaid : Prop := fnExactDomainProductUptoRow.holds Tryd.pinned (OpenSpec.upto fnExactDomainProductSpec)

/-- 'laws.FnExactDomainSum', WHERE WHAT IT READS IS OF BULK AT MOST 1048576: true; the input reads as it did. -/
def fnExactDomainSumUptoRow : OpenClaim := { program := "ytnniffjjbekodaadoor", sum := "3899b4a836e83fe626c67e2ec3e0006893c7c0292f69558fb85b46fa1da9afd1", func := "loop.example/scottdomains/laws.FnExactDomainSum", spec := "fnExactDomainSum", unfollowed := true, recurses := true, named := ["math/bits.deBruijn64tab"], apart := false, laid := [("math/bits.deBruijn64tab", laid_math_bits_deBruijn64tab)], narrowed := true }
def FnExactDomainSumUptoSaid : Prop := fnExactDomainSumUptoRow.holds Tryd.pinned (OpenSpec.upto fnExactDomainSumSpec)

/-- 'laws.FnExactFunParts', WHERE WHAT IT READS IS OF BULK AT MOST 1048576: true; the input reads as it did. -/
def fnExactFunPartsUptoRow : OpenClaim := { program := "ytnniffjjbekodaadoor", sum := "3899b4a836e83fe626c67e2ec3e0006893c7c0292f69558fb85b46fa1da9afd1", func := "loop.example/scottdomains/laws.FnExactFunParts", spec := "fnExactFunParts", unfollowed := true, recurses := true, named := ["math/bits.deBruijn64tab"], apart := false, laid := [("math/bits.deBruijn64tab", laid_math_bits_deBruijn64tab)], narrowed := true }
def FnExactFunPartsUptoSaid : Prop := fnExactFunPartsUptoRow.holds Tryd.pinned (OpenSpec.upto fnExactFunPartsSpec)

end Rows
end Go.Proofs.YtnniffjjbekodaaDoor
