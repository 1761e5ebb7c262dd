/-
  NARROWER THAN 'FOR EVERY INPUT', by the rows' own cells (each row's printed sentence says how): FnFunJoin: laid · FnFunMeet: laid · FnIndex: laid · FnFuns: laid · FnFun: laid · FnSteps: laid · FnFunParts: laid · FnCurry: laid · FnUncurry: laid · FnPairIs: laid · FnPairAfter: laid · FnProjection: laid · FnFrom: laid.
  DERIVED. THE GIVEN ROWS OF THIS SEAT. 13 by the template 'for every input the law returns true; each argument reads behind the call as it read before'; 0 by the template 'total and deterministic' (their statements: YtkomghohdhengaaDoorTotals.lean).
  GIVEN WITH THE SEED: the statements are not yours to turn. If you find one false, say at which input.
  Laid BY PROGRAM, IN A SANDBOX (cutbox-rows.mjs): the forced cells as the released guide's own fill.sh prints them over the translation b5f9081aef638804… (all of the seat's roots in one cut). By AI agents, Wed Nov 11 2026. No macro, syntax, notation, axiom, sorry.
-/
import Derived.Test.YtkomghohdhengaaDoorChecked
import GoSem.Claim
import GoSem.ClaimJoined
import GoSem.ClaimMapViews
import Derived.JoinedTies
import Derived.KernelRfl
namespace Go.Proofs.YtkomghohdhengaaDoor
/- THE CELL 'sum', in the pinned program and in every row, IS THE sha256 OF THE DUMP (.gsa) THAT YtkomghohdhengaaDoorProg.lean LOADS. Nothing in Lean hashes anything: it is a label: what it is worth is what the hold of that sum in a sandbox is worth. -/
noncomputable def Tryd.pinned : Pinned := { name := "ytkomghohdhengaadoor", sum := "b5f9081aef638804282cfd7164e55b7c0f803866bc49116be9deed7737bc3ebd", checked := Tryd.checked }
namespace Rows
def none {H : Type} : Left H := { results := [], args := [] }

/- WHAT THE LISTED PACKAGE-LEVEL VARIABLES READ AS WHEN THE CALL BEGINS. Each datum BY PROGRAM (the guide's laid-datum.mjs) off the statement by which the dump's own 'gosem.cut.vars' lays the variable. In a bare row this is a premise. The card (YtkomghohdhengaaDoorCards.lean) ties it to the program's text. -/
def laid_math_bits_deBruijn64tab {H : Type} : DataW H := .agg [.lit (.int .u8 0), .lit (.int .u8 1), .lit (.int .u8 56), .lit (.int .u8 2), .lit (.int .u8 57), .lit (.int .u8 49), .lit (.int .u8 28), .lit (.int .u8 3), .lit (.int .u8 61), .lit (.int .u8 58), .lit (.int .u8 42), .lit (.int .u8 50), .lit (.int .u8 38), .lit (.int .u8 29), .lit (.int .u8 17), .lit (.int .u8 4), .lit (.int .u8 62), .lit (.int .u8 47), .lit (.int .u8 59), .lit (.int .u8 36), .lit (.int .u8 45), .lit (.int .u8 43), .lit (.int .u8 51), .lit (.int .u8 22), .lit (.int .u8 53), .lit (.int .u8 39), .lit (.int .u8 33), .lit (.int .u8 30), .lit (.int .u8 24), .lit (.int .u8 18), .lit (.int .u8 12), .lit (.int .u8 5), .lit (.int .u8 63), .lit (.int .u8 55), .lit (.int .u8 48), .lit (.int .u8 27), .lit (.int .u8 60), .lit (.int .u8 41), .lit (.int .u8 37), .lit (.int .u8 16), .lit (.int .u8 46), .lit (.int .u8 35), .lit (.int .u8 44), .lit (.int .u8 21), .lit (.int .u8 52), .lit (.int .u8 32), .lit (.int .u8 23), .lit (.int .u8 11), .lit (.int .u8 54), .lit (.int .u8 26), .lit (.int .u8 40), .lit (.int .u8 15), .lit (.int .u8 34), .lit (.int .u8 20), .lit (.int .u8 31), .lit (.int .u8 10), .lit (.int .u8 25), .lit (.int .u8 14), .lit (.int .u8 19), .lit (.int .u8 9), .lit (.int .u8 13), .lit (.int .u8 8), .lit (.int .u8 7), .lit (.int .u8 6)]

/-- 'laws.FnFunJoin': WHATEVER THE INPUT: true; the input reads as it did. -/
def fnFunJoinSpec : ChangeSpec := { name := "fnFunJoin", fn := fun _ => fun
  | [d] => { results := [.lit (.bool true)], args := [d] }
  | _ => none }
def fnFunJoinRow : OpenClaim := { program := "ytkomghohdhengaadoor", sum := "b5f9081aef638804282cfd7164e55b7c0f803866bc49116be9deed7737bc3ebd", func := "loop.example/scottdomains/laws.FnFunJoin", spec := "fnFunJoin", unfollowed := true, recurses := true, named := ["math/bits.deBruijn64tab"], apart := false, laid := [("math/bits.deBruijn64tab", laid_math_bits_deBruijn64tab)] }
def FnFunJoinSaid : Prop := fnFunJoinRow.holds Tryd.pinned (OpenSpec.ofChange fnFunJoinSpec)

/-- ITS FALSE NEIGHBOUR: 'it returns false'. Refute it at one input. -/
def fnFunJoinWrong : ChangeSpec := { name := "fnFunJoin", fn := fun _ => fun
  | [d] => { results := [.lit (.bool false)], args := [d] }
  | _ => none }
def FnFunJoinWrongFalsely : Prop := fnFunJoinRow.holds Tryd.pinned (OpenSpec.ofChange fnFunJoinWrong)

/-- 'laws.FnFunMeet': WHATEVER THE INPUT: true; the input reads as it did. -/
def fnFunMeetSpec : ChangeSpec := { name := "fnFunMeet", fn := fun _ => fun
  | [d] => { results := [.lit (.bool true)], args := [d] }
  | _ => none }
def fnFunMeetRow : OpenClaim := { program := "ytkomghohdhengaadoor", sum := "b5f9081aef638804282cfd7164e55b7c0f803866bc49116be9deed7737bc3ebd", func := "loop.example/scottdomains/laws.FnFunMeet", spec := "fnFunMeet", unfollowed := true, recurses := true, named := ["math/bits.deBruijn64tab"], apart := false, laid := [("math/bits.deBruijn64tab", laid_math_bits_deBruijn64tab)] }
def FnFunMeetSaid : Prop := fnFunMeetRow.holds Tryd.pinned (OpenSpec.ofChange fnFunMeetSpec)

/-- ITS FALSE NEIGHBOUR: 'it returns false'. Refute it at one input. -/
def fnFunMeetWrong : ChangeSpec := { name := "fnFunMeet", fn := fun _ => fun
  | [d] => { results := [.lit (.bool false)], args := [d] }
  | _ => none }
def FnFunMeetWrongFalsely : Prop := fnFunMeetRow.holds Tryd.pinned (OpenSpec.ofChange fnFunMeetWrong)

/-- 'laws.FnIndex': WHATEVER THE INPUT: true; the input reads as it did. -/
def fnIndexSpec : ChangeSpec := { name := "fnIndex", fn := fun _ => fun
  | [d] => { results := [.lit (.bool true)], args := [d] }
  | _ => none }
def fnIndexRow : OpenClaim := { program := "ytkomghohdhengaadoor", sum := "b5f9081aef638804282cfd7164e55b7c0f803866bc49116be9deed7737bc3ebd", func := "loop.example/scottdomains/laws.FnIndex", spec := "fnIndex", unfollowed := true, recurses := true, named := ["math/bits.deBruijn64tab"], apart := false, laid := [("math/bits.deBruijn64tab", laid_math_bits_deBruijn64tab)] }
def FnIndexSaid : Prop := fnIndexRow.holds Tryd.pinned (OpenSpec.ofChange fnIndexSpec)

/-- ITS FALSE NEIGHBOUR: 'it returns false'. Refute it at one input. -/
def fnIndexWrong : ChangeSpec := { name := "fnIndex", fn := fun _ => fun
  | [d] => { results := [.lit (.bool false)], args := [d] }
  | _ => none }
def FnIndexWrongFalsely : Prop := fnIndexRow.holds Tryd.pinned (OpenSpec.ofChange fnIndexWrong)

/-- 'laws.FnFuns': WHATEVER THE INPUT: true; the input reads as it did. -/
def fnFunsSpec : ChangeSpec := { name := "fnFuns", fn := fun _ => fun
  | [d1, d2] => { results := [.lit (.bool true)], args := [d1, d2] }
  | _ => none }
def fnFunsRow : OpenClaim := { program := "ytkomghohdhengaadoor", sum := "b5f9081aef638804282cfd7164e55b7c0f803866bc49116be9deed7737bc3ebd", func := "loop.example/scottdomains/laws.FnFuns", spec := "fnFuns", unfollowed := true, recurses := true, named := ["math/bits.deBruijn64tab"], apart := false, laid := [("math/bits.deBruijn64tab", laid_math_bits_deBruijn64tab)] }
def FnFunsSaid : Prop := fnFunsRow.holds Tryd.pinned (OpenSpec.ofChange fnFunsSpec)

/-- ITS FALSE NEIGHBOUR: 'it returns false'. Refute it at one input. -/
def fnFunsWrong : ChangeSpec := { name := "fnFuns", fn := fun _ => fun
  | [d1, d2] => { results := [.lit (.bool false)], args := [d1, d2] }
  | _ => none }
def FnFunsWrongFalsely : Prop := fnFunsRow.holds Tryd.pinned (OpenSpec.ofChange fnFunsWrong)

/-- 'laws.FnFun': WHATEVER THE INPUT: true; the input reads as it did. -/
def fnFunSpec : ChangeSpec := { name := "fnFun", fn := fun _ => fun
  | [d] => { results := [.lit (.bool true)], args := [d] }
  | _ => none }
def fnFunRow : OpenClaim := { program := "ytkomghohdhengaadoor", sum := "b5f9081aef638804282cfd7164e55b7c0f803866bc49116be9deed7737bc3ebd", func := "loop.example/scottdomains/laws.FnFun", spec := "fnFun", unfollowed := true, recurses := true, named := ["math/bits.deBruijn64tab"], apart := false, laid := [("math/bits.deBruijn64tab", laid_math_bits_deBruijn64tab)] }
def FnFunSaid : Prop := fnFunRow.holds Tryd.pinned (OpenSpec.ofChange fnFunSpec)

/-- ITS FALSE NEIGHBOUR: 'it returns false'. Refute it at one input. -/
def fnFunWrong : ChangeSpec := { name := "fnFun", fn := fun _ => fun
  | [d] => { results := [.lit (.bool false)], args := [d] }
  | _ => none }
def FnFunWrongFalsely : Prop := fnFunRow.holds Tryd.pinned (OpenSpec.ofChange fnFunWrong)

/-- 'laws.FnSteps': WHATEVER THE INPUT: true; the input reads as it did. -/
def fnStepsSpec : ChangeSpec := { name := "fnSteps", fn := fun _ => fun
  | [d] => { results := [.lit (.bool true)], args := [d] }
  | _ => none }
def fnStepsRow : OpenClaim := { program := "ytkomghohdhengaadoor", sum := "b5f9081aef638804282cfd7164e55b7c0f803866bc49116be9deed7737bc3ebd", func := "loop.example/scottdomains/laws.FnSteps", spec := "fnSteps", unfollowed := true, recurses := true, named := ["math/bits.deBruijn64tab"], apart := false, laid := [("math/bits.deBruijn64tab", laid_math_bits_deBruijn64tab)] }
def FnStepsSaid : Prop := fnStepsRow.holds Tryd.pinned (OpenSpec.ofChange fnStepsSpec)

/-- ITS FALSE NEIGHBOUR: 'it returns false'. Refute it at one input. -/
def fnStepsWrong : ChangeSpec := { name := "fnSteps", fn := fun _ => fun
  | [d] => { results := [.lit (.bool false)], args := [d] }
  | _ => none }
def FnStepsWrongFalsely : Prop := fnStepsRow.holds Tryd.pinned (OpenSpec.ofChange fnStepsWrong)

/-- 'laws.FnFunParts': WHATEVER THE INPUT: true; the input reads as it did. -/
def fnFunPartsSpec : ChangeSpec := { name := "fnFunParts", fn := fun _ => fun
  | [d] => { results := [.lit (.bool true)], args := [d] }
  | _ => none }
def fnFunPartsRow : OpenClaim := { program := "ytkomghohdhengaadoor", sum := "b5f9081aef638804282cfd7164e55b7c0f803866bc49116be9deed7737bc3ebd", func := "loop.example/scottdomains/laws.FnFunParts", spec := "fnFunParts", unfollowed := true, recurses := true, named := ["math/bits.deBruijn64tab"], apart := false, laid := [("math/bits.deBruijn64tab", laid_math_bits_deBruijn64tab)] }
def FnFunPartsSaid : Prop := fnFunPartsRow.holds Tryd.pinned (OpenSpec.ofChange fnFunPartsSpec)

/-- ITS FALSE NEIGHBOUR: 'it returns false'. Refute it at one input. -/
def fnFunPartsWrong : ChangeSpec := { name := "fnFunParts", fn := fun _ => fun
  | [d] => { results := [.lit (.bool false)], args := [d] }
  | _ => none }
def FnFunPartsWrongFalsely : Prop := fnFunPartsRow.holds Tryd.pinned (OpenSpec.ofChange fnFunPartsWrong)

/-- 'laws.FnCurry': WHATEVER THE INPUT: true; the input reads as it did. -/
def fnCurrySpec : ChangeSpec := { name := "fnCurry", fn := fun _ => fun
  | [d] => { results := [.lit (.bool true)], args := [d] }
  | _ => none }
def fnCurryRow : OpenClaim := { program := "ytkomghohdhengaadoor", sum := "b5f9081aef638804282cfd7164e55b7c0f803866bc49116be9deed7737bc3ebd", func := "loop.example/scottdomains/laws.FnCurry", spec := "fnCurry", unfollowed := true, recurses := true, named := ["math/bits.deBruijn64tab"], apart := false, laid := [("math/bits.deBruijn64tab", laid_math_bits_deBruijn64tab)] }
def FnCurrySaid : Prop := fnCurryRow.holds Tryd.pinned (OpenSpec.ofChange fnCurrySpec)

/-- ITS FALSE NEIGHBOUR: 'it returns false'. Refute it at one input. -/
def fnCurryWrong : ChangeSpec := { name := "fnCurry", fn := fun _ => fun
  | [d] => { results := [.lit (.bool false)], args := [d] }
  | _ => none }
def FnCurryWrongFalsely : Prop := fnCurryRow.holds Tryd.pinned (OpenSpec.ofChange fnCurryWrong)

/-- 'laws.FnUncurry': WHATEVER THE INPUT: true; the input reads as it did. -/
def fnUncurrySpec : ChangeSpec := { name := "fnUncurry", fn := fun _ => fun
  | [d] => { results := [.lit (.bool true)], args := [d] }
  | _ => none }
def fnUncurryRow : OpenClaim := { program := "ytkomghohdhengaadoor", sum := "b5f9081aef638804282cfd7164e55b7c0f803866bc49116be9deed7737bc3ebd", func := "loop.example/scottdomains/laws.FnUncurry", spec := "fnUncurry", unfollowed := true, recurses := true, named := ["math/bits.deBruijn64tab"], apart := false, laid := [("math/bits.deBruijn64tab", laid_math_bits_deBruijn64tab)] }
def FnUncurrySaid : Prop := fnUncurryRow.holds Tryd.pinned (OpenSpec.ofChange fnUncurrySpec)

/-- ITS FALSE NEIGHBOUR: 'it returns false'. Refute it at one input. -/
def fnUncurryWrong : ChangeSpec := { name := "fnUncurry", fn := fun _ => fun
  | [d] => { results := [.lit (.bool false)], args := [d] }
  | _ => none }
def FnUncurryWrongFalsely : Prop := fnUncurryRow.holds Tryd.pinned (OpenSpec.ofChange fnUncurryWrong)

/-- 'laws.FnPairIs': WHATEVER THE INPUT: true; the input reads as it did. -/
def fnPairIsSpec : ChangeSpec := { name := "fnPairIs", fn := fun _ => fun
  | [d] => { results := [.lit (.bool true)], args := [d] }
  | _ => none }
def fnPairIsRow : OpenClaim := { program := "ytkomghohdhengaadoor", sum := "b5f9081aef638804282cfd7164e55b7c0f803866bc49116be9deed7737bc3ebd", func := "loop.example/scottdomains/laws.FnPairIs", spec := "fnPairIs", unfollowed := true, recurses := true, named := ["math/bits.deBruijn64tab"], apart := false, laid := [("math/bits.deBruijn64tab", laid_math_bits_deBruijn64tab)] }
def FnPairIsSaid : Prop := fnPairIsRow.holds Tryd.pinned (OpenSpec.ofChange fnPairIsSpec)

/-- ITS FALSE NEIGHBOUR: 'it returns false'. Refute it at one input. -/
def fnPairIsWrong : ChangeSpec := { name := "fnPairIs", fn := fun _ => fun
  | [d] => { results := [.lit (.bool false)], args := [d] }
  | _ => none }
def FnPairIsWrongFalsely : Prop := fnPairIsRow.holds Tryd.pinned (OpenSpec.ofChange fnPairIsWrong)

/-- 'laws.FnPairAfter': WHATEVER THE INPUT: true; the input reads as it did. -/
def fnPairAfterSpec : ChangeSpec := { name := "fnPairAfter", fn := fun _ => fun
  | [d] => { results := [.lit (.bool true)], args := [d] }
  | _ => none }
def fnPairAfterRow : OpenClaim := { program := "ytkomghohdhengaadoor", sum := "b5f9081aef638804282cfd7164e55b7c0f803866bc49116be9deed7737bc3ebd", func := "loop.example/scottdomains/laws.FnPairAfter", spec := "fnPairAfter", unfollowed := true, recurses := true, named := ["math/bits.deBruijn64tab"], apart := false, laid := [("math/bits.deBruijn64tab", laid_math_bits_deBruijn64tab)] }
def FnPairAfterSaid : Prop := fnPairAfterRow.holds Tryd.pinned (OpenSpec.ofChange fnPairAfterSpec)

/-- ITS FALSE NEIGHBOUR: 'it returns false'. Refute it at one input. -/
def fnPairAfterWrong : ChangeSpec := { name := "fnPairAfter", fn := fun _ => fun
  | [d] => { results := [.lit (.bool false)], args := [d] }
  | _ => none }
def FnPairAfterWrongFalsely : Prop := fnPairAfterRow.holds Tryd.pinned (OpenSpec.ofChange fnPairAfterWrong)

/-- 'laws.FnProjection': WHATEVER THE INPUT: true; the input reads as it did. -/
def fnProjectionSpec : ChangeSpec := { name := "fnProjection", fn := fun _ => fun
  | [d] => { results := [.lit (.bool true)], args := [d] }
  | _ => none }
def fnProjectionRow : OpenClaim := { program := "ytkomghohdhengaadoor", sum := "b5f9081aef638804282cfd7164e55b7c0f803866bc49116be9deed7737bc3ebd", func := "loop.example/scottdomains/laws.FnProjection", spec := "fnProjection", unfollowed := true, recurses := true, named := ["math/bits.deBruijn64tab"], apart := false, laid := [("math/bits.deBruijn64tab", laid_math_bits_deBruijn64tab)] }
def FnProjectionSaid : Prop := fnProjectionRow.holds Tryd.pinned (OpenSpec.ofChange fnProjectionSpec)

/-- ITS FALSE NEIGHBOUR: 'it returns false'. Refute it at one input. -/
def fnProjectionWrong : ChangeSpec := { name := "fnProjection", fn := fun _ => fun
  | [d] => { results := [.lit (.bool false)], args := [d] }
  | _ => none }
def FnProjectionWrongFalsely : Prop := fnProjectionRow.holds Tryd.pinned (OpenSpec.ofChange fnProjectionWrong)

/-- 'laws.FnFrom': WHATEVER THE INPUT: true; the input reads as it did. -/
def fnFromSpec : ChangeSpec := { name := "fnFrom", fn := fun _ => fun
  | [d] => { results := [.lit (.bool true)], args := [d] }
  | _ => none }
def fnFromRow : OpenClaim := { program := "ytkomghohdhengaadoor", sum := "b5f9081aef638804282cfd7164e55b7c0f803866bc49116be9deed7737bc3ebd", func := "loop.example/scottdomains/laws.FnFrom", spec := "fnFrom", unfollowed := true, recurses := true, named := ["math/bits.deBruijn64tab"], apart := false, laid := [("math/bits.deBruijn64tab", laid_math_bits_deBruijn64tab)] }
def FnFromSaid : Prop := fnFromRow.holds Tryd.pinned (OpenSpec.ofChange fnFromSpec)

/-- ITS FALSE NEIGHBOUR: 'it returns false'. Refute it at one input. -/
def fnFromWrong : ChangeSpec := { name := "fnFrom", fn := fun _ => fun
  | [d] => { results := [.lit (.bool false)], args := [d] }
  | _ => none }
def FnFromWrongFalsely : Prop := fnFromRow.holds Tryd.pinned (OpenSpec.ofChange fnFromWrong)

/- THE SECOND FORM. 'bulk': how many values and letters a reading holds, each counted each time it is reached (what is shared counts as often as it is met; a slice's spare places count too). A statement '..UptoSaid' is the law's where the arguments, and the package variables that the reading takes, are together of bulk at most 1048576: NARROWER than '..Said'. Prove '..Said' where nothing that the law and all that it calls make is longer than what came in: it says more and counts as full. Else prove '..UptoSaid'. A law counts once. -/
mutual
def uptoBulk {H : Type} : DataW H → Nat
  | .lit (.string bytes) => bytes.length + 1
  | .lit _ => 1
  | .nil => 1
  | .ptr d => uptoBulk d + 1
  | .slice elems spare => uptoBulkAll elems + uptoBulkAll spare + 1
  | .agg parts => uptoBulkAll parts + 1
  | .iface _ d => uptoBulk d + 1
  | .map entries => uptoBulkEntries entries + 1
  | .held _ => 1
def uptoBulkAll {H : Type} : List (DataW H) → Nat
  | [] => 0
  | d :: r => uptoBulk d + uptoBulkAll r
def uptoBulkEntries {H : Type} : List (Lit × DataW H) → Nat
  | [] => 0
  | x :: r => uptoBulkEntry x + uptoBulkEntries r
def uptoBulkEntry {H : Type} : Lit × DataW H → Nat
  | (.string bytes, d) => bytes.length + uptoBulk d + 1
  | (_, d) => uptoBulk d + 1
 end
def uptoSmall : (H : Type) → List (DataW H) → Bool := fun _ ds => decide (uptoBulkAll ds ≤ 1048576)
def OpenSpec.upto (s : _root_.Go.ChangeSpec) : _root_.Go.OpenSpec := { _root_.Go.OpenSpec.ofChange s with cond := some uptoSmall }

/-- 'laws.FnFunJoin', WHERE WHAT IT READS IS OF BULK AT MOST 1048576: true; the input reads as it did. -/
def fnFunJoinUptoRow : OpenClaim := { program := "ytkomghohdhengaadoor", sum := "b5f9081aef638804282cfd7164e55b7c0f803866bc49116be9deed7737bc3ebd", func := "loop.example/scottdomains/laws.FnFunJoin", spec := "fnFunJoin", unfollowed := true, recurses := true, named := ["math/bits.deBruijn64tab"], apart := false, laid := [("math/bits.deBruijn64tab", laid_math_bits_deBruijn64tab)], narrowed := true }
def FnFunJoinUptoSaid : Prop := fnFunJoinUptoRow.holds Tryd.pinned (OpenSpec.upto fnFunJoinSpec)

/-- 'laws.FnFunMeet', WHERE WHAT IT READS IS OF BULK AT MOST 1048576: true; the input reads as it did. -/
def fnFunMeetUptoRow : OpenClaim := { program := "ytkomghohdhengaadoor", sum := "b5f9081aef638804282cfd7164e55b7c0f803866bc49116be9deed7737bc3ebd", func := "loop.example/scottdomains/laws.FnFunMeet", spec := "fnFunMeet", unfollowed := true, recurses := true, named := ["math/bits.deBruijn64tab"], apart := false, laid := [("math/bits.deBruijn64tab", laid_math_bits_deBruijn64tab)], narrowed := true }
def FnFunMeetUptoSaid : Prop := fnFunMeetUptoRow.holds Tryd.pinned (OpenSpec.upto fnFunMeetSpec)

/-- 'laws.FnIndex', WHERE WHAT IT READS IS OF BULK AT MOST 1048576: true; the input reads as it did. -/
def fnIndexUptoRow : OpenClaim := { program := "ytkomghohdhengaadoor", sum := "b5f9081aef638804282cfd7164e55b7c0f803866bc49116be9deed7737bc3ebd", func := "loop.example/scottdomains/laws.FnIndex", spec := "fnIndex", unfollowed := true, recurses := true, named := ["math/bits.deBruijn64tab"], apart := false, laid := [("math/bits.deBruijn64tab", laid_math_bits_deBruijn64tab)], narrowed := true }
def FnIndexUptoSaid : Prop := fnIndexUptoRow.holds Tryd.pinned (OpenSpec.upto fnIndexSpec)

/-- 'laws.FnFuns', WHERE WHAT IT READS IS OF BULK AT MOST 1048576: true; the input reads as it did. -/
def fnFunsUptoRow : OpenClaim := { program := "ytkomghohdhengaadoor", sum := "b5f9081aef638804282cfd7164e55b7c0f803866bc49116be9deed7737bc3ebd", func := "loop.example/scottdomains/laws.FnFuns", spec := "fnFuns", unfollowed := true, recurses := true, named := ["math/bits.deBruijn64tab"], apart := false, laid := [("math/bits.deBruijn64tab", laid_math_bits_deBruijn64tab)], narrowed := true }
def FnFunsUptoSaid : Prop := fnFunsUptoRow.holds Tryd.pinned (OpenSpec.upto fnFunsSpec)

/-- 'laws.FnFun', WHERE WHAT IT READS IS OF BULK AT MOST 1048576: true; the input reads as it did. -/
def fnFunUptoRow : OpenClaim := { program := "ytkomghohdhengaadoor", sum := "b5f9081aef638804282cfd7164e55b7c0f803866bc49116be9deed7737bc3ebd", func := "loop.example/scottdomains/laws.FnFun", spec := "fnFun", unfollowed := true, recurses := true, named := ["math/bits.deBruijn64tab"], apart := false, laid := [("math/bits.deBruijn64tab", laid_math_bits_deBruijn64tab)], narrowed := true }
def FnFunUptoSaid : Prop := fnFunUptoRow.holds Tryd.pinned (OpenSpec.upto fnFunSpec)

/-- 'laws.FnSteps', WHERE WHAT IT READS IS OF BULK AT MOST 1048576: true; the input reads as it did. -/
def fnStepsUptoRow : OpenClaim := { program := "ytkomghohdhengaadoor", sum := "b5f9081aef638804282cfd7164e55b7c0f803866bc49116be9deed7737bc3ebd", func := "loop.example/scottdomains/laws.FnSteps", spec := "fnSteps", unfollowed := true, recurses := true, named := ["math/bits.deBruijn64tab"], apart := false, laid := [("math/bits.deBruijn64tab", laid_math_bits_deBruijn64tab)], narrowed := true }
def FnStepsUptoSaid : Prop := fnStepsUptoRow.holds Tryd.pinned (OpenSpec.upto fnStepsSpec)

/-- 'laws.FnFunParts', WHERE WHAT IT READS IS OF BULK AT MOST 1048576: true; the input reads as it did. -/
def fnFunPartsUptoRow : OpenClaim := { program := "ytkomghohdhengaadoor", sum := "b5f9081aef638804282cfd7164e55b7c0f803866bc49116be9deed7737bc3ebd", func := "loop.example/scottdomains/laws.FnFunParts", spec := "fnFunParts", unfollowed := true, recurses := true, named := ["math/bits.deBruijn64tab"], apart := false, laid := [("math/bits.deBruijn64tab", laid_math_bits_deBruijn64tab)], narrowed := true }
def FnFunPartsUptoSaid : Prop := fnFunPartsUptoRow.holds Tryd.pinned (OpenSpec.upto fnFunPartsSpec)

/-- 'laws.FnCurry', WHERE WHAT IT READS IS OF BULK AT MOST 1048576: true; the input reads as it did. -/
def fnCurryUptoRow : OpenClaim := { program := "ytkomghohdhengaadoor", sum := "b5f9081aef638804282cfd7164e55b7c0f803866bc49116be9deed7737bc3ebd", func := "loop.example/scottdomains/laws.FnCurry", spec := "fnCurry", unfollowed := true, recurses := true, named := ["math/bits.deBruijn64tab"], apart := false, laid := [("math/bits.deBruijn64tab", laid_math_bits_deBruijn64tab)], narrowed := true }
def FnCurryUptoSaid : Prop := fnCurryUptoRow.holds Tryd.pinned (OpenSpec.upto fnCurrySpec)

/-- 'laws.FnUncurry', WHERE WHAT IT READS IS OF BULK AT MOST 1048576: true; the input reads as it did. -/
def fnUncurryUptoRow : OpenClaim := { program := "ytkomghohdhengaadoor", sum := "b5f9081aef638804282cfd7164e55b7c0f803866bc49116be9deed7737bc3ebd", func := "loop.example/scottdomains/laws.FnUncurry", spec := "fnUncurry", unfollowed := true, recurses := true, named := ["math/bits.deBruijn64tab"], apart := false, laid := [("math/bits.deBruijn64tab", laid_math_bits_deBruijn64tab)], narrowed := true }
def FnUncurryUptoSaid : Prop := fnUncurryUptoRow.holds Tryd.pinned (OpenSpec.upto fnUncurrySpec)

/-- 'laws.FnPairIs', WHERE WHAT IT READS IS OF BULK AT MOST 1048576: true; the input reads as it did. -/
def fnPairIsUptoRow : OpenClaim := { program := "ytkomghohdhengaadoor", sum := "b5f9081aef638804282cfd7164e55b7c0f803866bc49116be9deed7737bc3ebd", func := "loop.example/scottdomains/laws.FnPairIs", spec := "fnPairIs", unfollowed := true, recurses := true, named := ["math/bits.deBruijn64tab"], apart := false, laid := [("math/bits.deBruijn64tab", laid_math_bits_deBruijn64tab)], narrowed := true }
def FnPairIsUptoSaid : Prop := fnPairIsUptoRow.holds Tryd.pinned (OpenSpec.upto fnPairIsSpec)

/-- 'laws.FnPairAfter', WHERE WHAT IT READS IS OF BULK AT MOST 1048576: true; the input reads as it did. -/
def fnPairAfterUptoRow : OpenClaim := { program := "ytkomghohdhengaadoor", sum := "b5f9081aef638804282cfd7164e55b7c0f803866bc49116be9deed7737bc3ebd", func := "loop.example/scottdomains/laws.FnPairAfter", spec := "fnPairAfter", unfollowed := true, recurses := true, named := ["math/bits.deBruijn64tab"], apart := false, laid := [("math/bits.deBruijn64tab", laid_math_bits_deBruijn64tab)], narrowed := true }
def FnPairAfterUptoSaid : Prop := fnPairAfterUptoRow.holds Tryd.pinned (OpenSpec.upto fnPairAfterSpec)

/-- 'laws.FnProjection', WHERE WHAT IT READS IS OF BULK AT MOST 1048576: true; the input reads as it did. -/
def fnProjectionUptoRow : OpenClaim := { program := "ytkomghohdhengaadoor", sum := "b5f9081aef638804282cfd7164e55b7c0f803866bc49116be9deed7737bc3ebd", func := "loop.example/scottdomains/laws.FnProjection", spec := "fnProjection", unfollowed := true, recurses := true, named := ["math/bits.deBruijn64tab"], apart := false, laid := [("math/bits.deBruijn64tab", laid_math_bits_deBruijn64tab)], narrowed := true }
def FnProjectionUptoSaid : Prop := fnProjectionUptoRow.holds Tryd.pinned (OpenSpec.upto fnProjectionSpec)

/-- 'laws.FnFrom', WHERE WHAT IT READS IS OF BULK AT MOST 1048576: true; the input reads as it did. -/
def fnFromUptoRow : OpenClaim := { program := "ytkomghohdhengaadoor", sum := "b5f9081aef638804282cfd7164e55b7c0f803866bc49116be9deed7737bc3ebd", func := "loop.example/scottdomains/laws.FnFrom", spec := "fnFrom", unfollowed := true, recurses := true, named := ["math/bits.deBruijn64tab"], apart := false, laid := [("math/bits.deBruijn64tab", laid_math_bits_deBruijn64tab)], narrowed := true }
def FnFromUptoSaid : Prop := fnFromUptoRow.holds Tryd.pinned (OpenSpec.upto fnFromSpec)

end Rows
end Go.Proofs.YtkomghohdhengaaDoor
