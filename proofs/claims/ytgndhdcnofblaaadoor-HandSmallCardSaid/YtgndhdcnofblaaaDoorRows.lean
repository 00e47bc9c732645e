/-
  NARROWER THAN 'FOR EVERY INPUT', by the rows' own cells (each row's printed sentence says how): HandTells: laid · HandSmall: laid · HandTurned: laid · HandDeal: laid · HandMore: laid · HandLosers: laid · HandBalanced: laid · HandSuits: laid.
  DERIVED. THE GIVEN ROWS OF THIS SEAT. 8 by the template 'for every input the law returns true; each argument reads behind the call as it read before'; 0 by the template 'total and deterministic' (their statements: YtgndhdcnofblaaaDoorTotals.lean).
  GIVEN WITH THE SEED: the statements are not yours to turn. If you find one false, say at which input.
  Laid BY PROGRAM, IN A SANDBOX (cutbox-rows.mjs): the forced cells as the released guide's own fill.sh prints them over the translation 567dfc52c85bbae3… (all of the seat's roots in one cut). By AI agents, Wed Nov 11 2026. No macro, syntax, notation, axiom, sorry.
-/
import Derived.Test.YtgndhdcnofblaaaDoorChecked
import GoSem.Claim
import GoSem.ClaimJoined
import GoSem.ClaimMapViews
import Derived.JoinedTies
import Derived.KernelRfl
namespace Go.Proofs.YtgndhdcnofblaaaDoor
/- THE CELL 'sum', in the pinned program and in every row, IS THE sha256 OF THE DUMP (.gsa) THAT YtgndhdcnofblaaaDoorProg.lean LOADS. Nothing in Lean hashes anything: it is a label: what it is worth is what the hold of that sum in a sandbox is worth. -/
noncomputable def Tryd.pinned : Pinned := { name := "ytgndhdcnofblaaadoor", sum := "567dfc52c85bbae3f279b877982dc79a1a0185814b99cc6b8611e9f9f9de8b5e", checked := Tryd.checked }
namespace Rows
def none {H : Type} : Left H := { results := [], args := [] }

/- WHAT THE LISTED PACKAGE-LEVEL VARIABLES READ AS WHEN THE CALL BEGINS. Each datum BY PROGRAM (the guide's laid-datum.mjs) off the statement by which the dump's own 'gosem.cut.vars' lays the variable. In a bare row this is a premise. The card (YtgndhdcnofblaaaDoorCards.lean) ties it to the program's text. -/
def laid_math_bits_deBruijn32tab {H : Type} : DataW H := .agg [.lit (.int .u8 0), .lit (.int .u8 1), .lit (.int .u8 28), .lit (.int .u8 2), .lit (.int .u8 29), .lit (.int .u8 14), .lit (.int .u8 24), .lit (.int .u8 3), .lit (.int .u8 30), .lit (.int .u8 22), .lit (.int .u8 20), .lit (.int .u8 15), .lit (.int .u8 25), .lit (.int .u8 17), .lit (.int .u8 4), .lit (.int .u8 8), .lit (.int .u8 31), .lit (.int .u8 27), .lit (.int .u8 13), .lit (.int .u8 23), .lit (.int .u8 21), .lit (.int .u8 19), .lit (.int .u8 16), .lit (.int .u8 7), .lit (.int .u8 26), .lit (.int .u8 12), .lit (.int .u8 18), .lit (.int .u8 6), .lit (.int .u8 11), .lit (.int .u8 5), .lit (.int .u8 10), .lit (.int .u8 9)]
def laid_math_bits_deBruijn64tab {H : Type} : DataW H := .agg [.lit (.int .u8 0), .lit (.int .u8 1), .lit (.int .u8 56), .lit (.int .u8 2), .lit (.int .u8 57), .lit (.int .u8 49), .lit (.int .u8 28), .lit (.int .u8 3), .lit (.int .u8 61), .lit (.int .u8 58), .lit (.int .u8 42), .lit (.int .u8 50), .lit (.int .u8 38), .lit (.int .u8 29), .lit (.int .u8 17), .lit (.int .u8 4), .lit (.int .u8 62), .lit (.int .u8 47), .lit (.int .u8 59), .lit (.int .u8 36), .lit (.int .u8 45), .lit (.int .u8 43), .lit (.int .u8 51), .lit (.int .u8 22), .lit (.int .u8 53), .lit (.int .u8 39), .lit (.int .u8 33), .lit (.int .u8 30), .lit (.int .u8 24), .lit (.int .u8 18), .lit (.int .u8 12), .lit (.int .u8 5), .lit (.int .u8 63), .lit (.int .u8 55), .lit (.int .u8 48), .lit (.int .u8 27), .lit (.int .u8 60), .lit (.int .u8 41), .lit (.int .u8 37), .lit (.int .u8 16), .lit (.int .u8 46), .lit (.int .u8 35), .lit (.int .u8 44), .lit (.int .u8 21), .lit (.int .u8 52), .lit (.int .u8 32), .lit (.int .u8 23), .lit (.int .u8 11), .lit (.int .u8 54), .lit (.int .u8 26), .lit (.int .u8 40), .lit (.int .u8 15), .lit (.int .u8 34), .lit (.int .u8 20), .lit (.int .u8 31), .lit (.int .u8 10), .lit (.int .u8 25), .lit (.int .u8 14), .lit (.int .u8 19), .lit (.int .u8 9), .lit (.int .u8 13), .lit (.int .u8 8), .lit (.int .u8 7), .lit (.int .u8 6)]
def laid_internal_strconv_uint64pow10 {H : Type} : DataW H := .agg [.lit (.int .u64 1), .lit (.int .u64 10), .lit (.int .u64 100), .lit (.int .u64 1000), .lit (.int .u64 10000), .lit (.int .u64 100000), .lit (.int .u64 1000000), .lit (.int .u64 10000000), .lit (.int .u64 100000000), .lit (.int .u64 1000000000), .lit (.int .u64 10000000000), .lit (.int .u64 100000000000), .lit (.int .u64 1000000000000), .lit (.int .u64 10000000000000), .lit (.int .u64 100000000000000), .lit (.int .u64 1000000000000000), .lit (.int .u64 10000000000000000), .lit (.int .u64 100000000000000000), .lit (.int .u64 1000000000000000000), .lit (.int .u64 10000000000000000000)]

/-- 'finesselaw05.HandTells': WHATEVER THE INPUT: true; the input reads as it did. -/
def handTellsSpec : ChangeSpec := { name := "handTells", fn := fun _ => fun
  | [d1, d2] => { results := [.lit (.bool true)], args := [d1, d2] }
  | _ => none }
def handTellsRow : OpenClaim := { program := "ytgndhdcnofblaaadoor", sum := "567dfc52c85bbae3f279b877982dc79a1a0185814b99cc6b8611e9f9f9de8b5e", func := "finesse/finesselaw05.HandTells", spec := "handTells", inPlace := ["internal/abi.NoEscape", "internal/bytealg.MakeNoZero"], unfollowed := true, recurses := true, named := ["internal/strconv.uint64pow10", "math/bits.deBruijn32tab", "math/bits.deBruijn64tab"], apart := false, laid := [("math/bits.deBruijn32tab", laid_math_bits_deBruijn32tab), ("math/bits.deBruijn64tab", laid_math_bits_deBruijn64tab), ("internal/strconv.uint64pow10", laid_internal_strconv_uint64pow10)] }
def HandTellsSaid : Prop := handTellsRow.holds Tryd.pinned (OpenSpec.ofChange handTellsSpec)

/-- ITS FALSE NEIGHBOUR: 'it returns false'. Refute it at one input. -/
def handTellsWrong : ChangeSpec := { name := "handTells", fn := fun _ => fun
  | [d1, d2] => { results := [.lit (.bool false)], args := [d1, d2] }
  | _ => none }
def HandTellsWrongFalsely : Prop := handTellsRow.holds Tryd.pinned (OpenSpec.ofChange handTellsWrong)

/-- 'finesselaw05.HandSmall': WHATEVER THE INPUT: true; the input reads as it did. -/
def handSmallSpec : ChangeSpec := { name := "handSmall", fn := fun _ => fun
  | [] => { results := [.lit (.bool true)], args := [] }
  | _ => none }
def handSmallRow : OpenClaim := { program := "ytgndhdcnofblaaadoor", sum := "567dfc52c85bbae3f279b877982dc79a1a0185814b99cc6b8611e9f9f9de8b5e", func := "finesse/finesselaw05.HandSmall", spec := "handSmall", inPlace := ["internal/abi.NoEscape", "internal/bytealg.MakeNoZero"], unfollowed := true, recurses := true, named := ["internal/strconv.uint64pow10", "math/bits.deBruijn32tab", "math/bits.deBruijn64tab"], apart := false, laid := [("math/bits.deBruijn32tab", laid_math_bits_deBruijn32tab), ("math/bits.deBruijn64tab", laid_math_bits_deBruijn64tab), ("internal/strconv.uint64pow10", laid_internal_strconv_uint64pow10)] }
def HandSmallSaid : Prop := handSmallRow.holds Tryd.pinned (OpenSpec.ofChange handSmallSpec)

/-- ITS FALSE NEIGHBOUR: 'it returns false'. Refute it at one input. -/
def handSmallWrong : ChangeSpec := { name := "handSmall", fn := fun _ => fun
  | [] => { results := [.lit (.bool false)], args := [] }
  | _ => none }
def HandSmallWrongFalsely : Prop := handSmallRow.holds Tryd.pinned (OpenSpec.ofChange handSmallWrong)

/-- 'finesselaw05.HandTurned': WHATEVER THE INPUT: true; the input reads as it did. -/
def handTurnedSpec : ChangeSpec := { name := "handTurned", fn := fun _ => fun
  | [d1, d2] => { results := [.lit (.bool true)], args := [d1, d2] }
  | _ => none }
def handTurnedRow : OpenClaim := { program := "ytgndhdcnofblaaadoor", sum := "567dfc52c85bbae3f279b877982dc79a1a0185814b99cc6b8611e9f9f9de8b5e", func := "finesse/finesselaw05.HandTurned", spec := "handTurned", inPlace := ["internal/abi.NoEscape", "internal/bytealg.MakeNoZero"], unfollowed := true, recurses := true, named := ["internal/strconv.uint64pow10", "math/bits.deBruijn32tab", "math/bits.deBruijn64tab"], apart := false, laid := [("math/bits.deBruijn32tab", laid_math_bits_deBruijn32tab), ("math/bits.deBruijn64tab", laid_math_bits_deBruijn64tab), ("internal/strconv.uint64pow10", laid_internal_strconv_uint64pow10)] }
def HandTurnedSaid : Prop := handTurnedRow.holds Tryd.pinned (OpenSpec.ofChange handTurnedSpec)

/-- ITS FALSE NEIGHBOUR: 'it returns false'. Refute it at one input. -/
def handTurnedWrong : ChangeSpec := { name := "handTurned", fn := fun _ => fun
  | [d1, d2] => { results := [.lit (.bool false)], args := [d1, d2] }
  | _ => none }
def HandTurnedWrongFalsely : Prop := handTurnedRow.holds Tryd.pinned (OpenSpec.ofChange handTurnedWrong)

/-- 'finesselaw05.HandDeal': WHATEVER THE INPUT: true; the input reads as it did. -/
def handDealSpec : ChangeSpec := { name := "handDeal", fn := fun _ => fun
  | [d] => { results := [.lit (.bool true)], args := [d] }
  | _ => none }
def handDealRow : OpenClaim := { program := "ytgndhdcnofblaaadoor", sum := "567dfc52c85bbae3f279b877982dc79a1a0185814b99cc6b8611e9f9f9de8b5e", func := "finesse/finesselaw05.HandDeal", spec := "handDeal", inPlace := ["internal/abi.NoEscape", "internal/bytealg.MakeNoZero"], unfollowed := true, recurses := true, named := ["internal/strconv.uint64pow10", "math/bits.deBruijn32tab", "math/bits.deBruijn64tab"], apart := false, laid := [("math/bits.deBruijn32tab", laid_math_bits_deBruijn32tab), ("math/bits.deBruijn64tab", laid_math_bits_deBruijn64tab), ("internal/strconv.uint64pow10", laid_internal_strconv_uint64pow10)] }
def HandDealSaid : Prop := handDealRow.holds Tryd.pinned (OpenSpec.ofChange handDealSpec)

/-- ITS FALSE NEIGHBOUR: 'it returns false'. Refute it at one input. -/
def handDealWrong : ChangeSpec := { name := "handDeal", fn := fun _ => fun
  | [d] => { results := [.lit (.bool false)], args := [d] }
  | _ => none }
def HandDealWrongFalsely : Prop := handDealRow.holds Tryd.pinned (OpenSpec.ofChange handDealWrong)

/-- 'finesselaw05.HandMore': WHATEVER THE INPUT: true; the input reads as it did. -/
def handMoreSpec : ChangeSpec := { name := "handMore", fn := fun _ => fun
  | [d1, d2] => { results := [.lit (.bool true)], args := [d1, d2] }
  | _ => none }
def handMoreRow : OpenClaim := { program := "ytgndhdcnofblaaadoor", sum := "567dfc52c85bbae3f279b877982dc79a1a0185814b99cc6b8611e9f9f9de8b5e", func := "finesse/finesselaw05.HandMore", spec := "handMore", inPlace := ["internal/abi.NoEscape", "internal/bytealg.MakeNoZero"], unfollowed := true, recurses := true, named := ["internal/strconv.uint64pow10", "math/bits.deBruijn32tab", "math/bits.deBruijn64tab"], apart := false, laid := [("math/bits.deBruijn32tab", laid_math_bits_deBruijn32tab), ("math/bits.deBruijn64tab", laid_math_bits_deBruijn64tab), ("internal/strconv.uint64pow10", laid_internal_strconv_uint64pow10)] }
def HandMoreSaid : Prop := handMoreRow.holds Tryd.pinned (OpenSpec.ofChange handMoreSpec)

/-- ITS FALSE NEIGHBOUR: 'it returns false'. Refute it at one input. -/
def handMoreWrong : ChangeSpec := { name := "handMore", fn := fun _ => fun
  | [d1, d2] => { results := [.lit (.bool false)], args := [d1, d2] }
  | _ => none }
def HandMoreWrongFalsely : Prop := handMoreRow.holds Tryd.pinned (OpenSpec.ofChange handMoreWrong)

/-- 'finesselaw05.HandLosers': WHATEVER THE INPUT: true; the input reads as it did. -/
def handLosersSpec : ChangeSpec := { name := "handLosers", fn := fun _ => fun
  | [d] => { results := [.lit (.bool true)], args := [d] }
  | _ => none }
def handLosersRow : OpenClaim := { program := "ytgndhdcnofblaaadoor", sum := "567dfc52c85bbae3f279b877982dc79a1a0185814b99cc6b8611e9f9f9de8b5e", func := "finesse/finesselaw05.HandLosers", spec := "handLosers", inPlace := ["internal/abi.NoEscape", "internal/bytealg.MakeNoZero"], unfollowed := true, recurses := true, named := ["internal/strconv.uint64pow10", "math/bits.deBruijn32tab", "math/bits.deBruijn64tab"], apart := false, laid := [("math/bits.deBruijn32tab", laid_math_bits_deBruijn32tab), ("math/bits.deBruijn64tab", laid_math_bits_deBruijn64tab), ("internal/strconv.uint64pow10", laid_internal_strconv_uint64pow10)] }
def HandLosersSaid : Prop := handLosersRow.holds Tryd.pinned (OpenSpec.ofChange handLosersSpec)

/-- ITS FALSE NEIGHBOUR: 'it returns false'. Refute it at one input. -/
def handLosersWrong : ChangeSpec := { name := "handLosers", fn := fun _ => fun
  | [d] => { results := [.lit (.bool false)], args := [d] }
  | _ => none }
def HandLosersWrongFalsely : Prop := handLosersRow.holds Tryd.pinned (OpenSpec.ofChange handLosersWrong)

/-- 'finesselaw05.HandBalanced': WHATEVER THE INPUT: true; the input reads as it did. -/
def handBalancedSpec : ChangeSpec := { name := "handBalanced", fn := fun _ => fun
  | [d1, d2] => { results := [.lit (.bool true)], args := [d1, d2] }
  | _ => none }
def handBalancedRow : OpenClaim := { program := "ytgndhdcnofblaaadoor", sum := "567dfc52c85bbae3f279b877982dc79a1a0185814b99cc6b8611e9f9f9de8b5e", func := "finesse/finesselaw05.HandBalanced", spec := "handBalanced", inPlace := ["internal/abi.NoEscape", "internal/bytealg.MakeNoZero"], unfollowed := true, recurses := true, named := ["internal/strconv.uint64pow10", "math/bits.deBruijn32tab", "math/bits.deBruijn64tab"], apart := false, laid := [("math/bits.deBruijn32tab", laid_math_bits_deBruijn32tab), ("math/bits.deBruijn64tab", laid_math_bits_deBruijn64tab), ("internal/strconv.uint64pow10", laid_internal_strconv_uint64pow10)] }
def HandBalancedSaid : Prop := handBalancedRow.holds Tryd.pinned (OpenSpec.ofChange handBalancedSpec)

/-- ITS FALSE NEIGHBOUR: 'it returns false'. Refute it at one input. -/
def handBalancedWrong : ChangeSpec := { name := "handBalanced", fn := fun _ => fun
  | [d1, d2] => { results := [.lit (.bool false)], args := [d1, d2] }
  | _ => none }
def HandBalancedWrongFalsely : Prop := handBalancedRow.holds Tryd.pinned (OpenSpec.ofChange handBalancedWrong)

/-- 'finesselaw05.HandSuits': WHATEVER THE INPUT: true; the input reads as it did. -/
def handSuitsSpec : ChangeSpec := { name := "handSuits", fn := fun _ => fun
  | [d] => { results := [.lit (.bool true)], args := [d] }
  | _ => none }
def handSuitsRow : OpenClaim := { program := "ytgndhdcnofblaaadoor", sum := "567dfc52c85bbae3f279b877982dc79a1a0185814b99cc6b8611e9f9f9de8b5e", func := "finesse/finesselaw05.HandSuits", spec := "handSuits", inPlace := ["internal/abi.NoEscape", "internal/bytealg.MakeNoZero"], unfollowed := true, recurses := true, named := ["internal/strconv.uint64pow10", "math/bits.deBruijn32tab", "math/bits.deBruijn64tab"], apart := false, laid := [("math/bits.deBruijn32tab", laid_math_bits_deBruijn32tab), ("math/bits.deBruijn64tab", laid_math_bits_deBruijn64tab), ("internal/strconv.uint64pow10", laid_internal_strconv_uint64pow10)] }
def HandSuitsSaid : Prop := handSuitsRow.holds Tryd.pinned (OpenSpec.ofChange handSuitsSpec)

/-- ITS FALSE NEIGHBOUR: 'it returns false'. Refute it at one input. -/
def handSuitsWrong : ChangeSpec := { name := "handSuits", fn := fun _ => fun
  | [d] => { results := [.lit (.bool false)], args := [d] }
  | _ => none }
def HandSuitsWrongFalsely : Prop := handSuitsRow.holds Tryd.pinned (OpenSpec.ofChange handSuitsWrong)

/- THE SECOND FORM. 'bulk': how many values and letters a reading holds, each counted each time it is reached (what is shared counts as often as it is met; a slice's spare places count too). A statement '..UptoSaid' is the law's where the arguments, and the package variables that the reading takes, are together of bulk at most 1048576: NARROWER than '..Said'. Prove '..Said' where nothing that the law and all that it calls make is longer than what came in: it says more and counts as full. Else prove '..UptoSaid'. A law counts once. -/
mutual
def uptoBulk {H : Type} : DataW H → Nat
  | .lit (.string bytes) => bytes.length + 1
  | .lit _ => 1
  | .nil => 1
  | .ptr d => uptoBulk d + 1
  | .slice elems spare => uptoBulkAll elems + uptoBulkAll spare + 1
  | .agg parts => uptoBulkAll parts + 1
  | .iface _ d => uptoBulk d + 1
  | .map entries => uptoBulkEntries entries + 1
  | .held _ => 1
def uptoBulkAll {H : Type} : List (DataW H) → Nat
  | [] => 0
  | d :: r => uptoBulk d + uptoBulkAll r
def uptoBulkEntries {H : Type} : List (Lit × DataW H) → Nat
  | [] => 0
  | x :: r => uptoBulkEntry x + uptoBulkEntries r
def uptoBulkEntry {H : Type} : Lit × DataW H → Nat
  | (.string bytes, d) => bytes.length + uptoBulk d + 1
  | (_, d) => uptoBulk d + 1
 end
def uptoSmall : (H : Type) → List (DataW H) → Bool := fun _ ds => decide (uptoBulkAll ds ≤ 1048576)
def OpenSpec.upto (s : _root_.Go.ChangeSpec) : _root_.Go.OpenSpec := { _root_.Go.OpenSpec.ofChange s with cond := some uptoSmall }

/-- 'finesselaw05.HandTells', WHERE WHAT IT READS IS OF BULK AT MOST 1048576: true; the input reads as it did. -/
def handTellsUptoRow : OpenClaim := { program := "ytgndhdcnofblaaadoor", sum := "567dfc52c85bbae3f279b877982dc79a1a0185814b99cc6b8611e9f9f9de8b5e", func := "finesse/finesselaw05.HandTells", spec := "handTells", inPlace := ["internal/abi.NoEscape", "internal/bytealg.MakeNoZero"], unfollowed := true, recurses := true, named := ["internal/strconv.uint64pow10", "math/bits.deBruijn32tab", "math/bits.deBruijn64tab"], apart := false, laid := [("math/bits.deBruijn32tab", laid_math_bits_deBruijn32tab), ("math/bits.deBruijn64tab", laid_math_bits_deBruijn64tab), ("internal/strconv.uint64pow10", laid_internal_strconv_uint64pow10)], narrowed := true }
def HandTellsUptoSaid : Prop := handTellsUptoRow.holds Tryd.pinned (OpenSpec.upto handTellsSpec)

/-- 'finesselaw05.HandSmall', WHERE WHAT IT READS IS OF BULK AT MOST 1048576: true; the input reads as it did. -/
def handSmallUptoRow : OpenClaim := { program := "ytgndhdcnofblaaadoor", sum := "567dfc52c85bbae3f279b877982dc79a1a0185814b99cc6b8611e9f9f9de8b5e", func := "finesse/finesselaw05.HandSmall", spec := "handSmall", inPlace := ["internal/abi.NoEscape", "internal/bytealg.MakeNoZero"], unfollowed := true, recurses := true, named := ["internal/strconv.uint64pow10", "math/bits.deBruijn32tab", "math/bits.deBruijn64tab"], apart := false, laid := [("math/bits.deBruijn32tab", laid_math_bits_deBruijn32tab), ("math/bits.deBruijn64tab", laid_math_bits_deBruijn64tab), ("internal/strconv.uint64pow10", laid_internal_strconv_uint64pow10)], narrowed := true }
def HandSmallUptoSaid : Prop := handSmallUptoRow.holds Tryd.pinned (OpenSpec.upto handSmallSpec)

/-- 'finesselaw05.HandTurned', WHERE WHAT IT READS IS OF BULK AT MOST 1048576: true; the input reads as it did. -/
def handTurnedUptoRow : OpenClaim := { program := "ytgndhdcnofblaaadoor", sum := "567dfc52c85bbae3f279b877982dc79a1a0185814b99cc6b8611e9f9f9de8b5e", func := "finesse/finesselaw05.HandTurned", spec := "handTurned", inPlace := ["internal/abi.NoEscape", "internal/bytealg.MakeNoZero"], unfollowed := true, recurses := true, named := ["internal/strconv.uint64pow10", "math/bits.deBruijn32tab", "math/bits.deBruijn64tab"], apart := false, laid := [("math/bits.deBruijn32tab", laid_math_bits_deBruijn32tab), ("math/bits.deBruijn64tab", laid_math_bits_deBruijn64tab), ("internal/strconv.uint64pow10", laid_internal_strconv_uint64pow10)], narrowed := true }
def HandTurnedUptoSaid : Prop := handTurnedUptoRow.holds Tryd.pinned (OpenSpec.upto handTurnedSpec)

/-- 'finesselaw05.HandDeal', WHERE WHAT IT READS IS OF BULK AT MOST 1048576: true; the input reads as it did. -/
def handDealUptoRow : OpenClaim := { program := "ytgndhdcnofblaaadoor", sum := "567dfc52c85bbae3f279b877982dc79a1a0185814b99cc6b8611e9f9f9de8b5e", func := "finesse/finesselaw05.HandDeal", spec := "handDeal", inPlace := ["internal/abi.NoEscape", "internal/bytealg.MakeNoZero"], unfollowed := true, recurses := true, named := ["internal/strconv.uint64pow10", "math/bits.deBruijn32tab", "math/bits.deBruijn64tab"], apart := false, laid := [("math/bits.deBruijn32tab", laid_math_bits_deBruijn32tab), ("math/bits.deBruijn64tab", laid_math_bits_deBruijn64tab), ("internal/strconv.uint64pow10", laid_internal_strconv_uint64pow10)], narrowed := true }
def HandDealUptoSaid : Prop := handDealUptoRow.holds Tryd.pinned (OpenSpec.upto handDealSpec)

/-- 'finesselaw05.HandMore', WHERE WHAT IT READS IS OF BULK AT MOST 1048576: true; the input reads as it did. -/
def handMoreUptoRow : OpenClaim := { program := "ytgndhdcnofblaaadoor", sum := "567dfc52c85bbae3f279b877982dc79a1a0185814b99cc6b8611e9f9f9de8b5e", func := "finesse/finesselaw05.HandMore", spec := "handMore", inPlace := ["internal/abi.NoEscape", "internal/bytealg.MakeNoZero"], unfollowed := true, recurses := true, named := ["internal/strconv.uint64pow10", "math/bits.deBruijn32tab", "math/bits.deBruijn64tab"], apart := false, laid := [("math/bits.deBruijn32tab", laid_math_bits_deBruijn32tab), ("math/bits.deBruijn64tab", laid_math_bits_deBruijn64tab), ("internal/strconv.uint64pow10", laid_internal_strconv_uint64pow10)], narrowed := true }
def HandMoreUptoSaid : Prop := handMoreUptoRow.holds Tryd.pinned (OpenSpec.upto handMoreSpec)

/-- 'finesselaw05.HandLosers', WHERE WHAT IT READS IS OF BULK AT MOST 1048576: true; the input reads as it did. -/
def handLosersUptoRow : OpenClaim := { program := "ytgndhdcnofblaaadoor", sum := "567dfc52c85bbae3f279b877982dc79a1a0185814b99cc6b8611e9f9f9de8b5e", func := "finesse/finesselaw05.HandLosers", spec := "handLosers", inPlace := ["internal/abi.NoEscape", "internal/bytealg.MakeNoZero"], unfollowed := true, recurses := true, named := ["internal/strconv.uint64pow10", "math/bits.deBruijn32tab", "math/bits.deBruijn64tab"], apart := false, laid := [("math/bits.deBruijn32tab", laid_math_bits_deBruijn32tab), ("math/bits.deBruijn64tab", laid_math_bits_deBruijn64tab), ("internal/strconv.uint64pow10", laid_internal_strconv_uint64pow10)], narrowed := true }
def HandLosersUptoSaid : Prop := handLosersUptoRow.holds Tryd.pinned (OpenSpec.upto handLosersSpec)

/-- 'finesselaw05.HandBalanced', WHERE WHAT IT READS IS OF BULK AT MOST 1048576: true; the input reads as it did. -/
def handBalancedUptoRow : OpenClaim := { program := "ytgndhdcnofblaaadoor", sum := "567dfc52c85bbae3f279b877982dc79a1a0185814b99cc6b8611e9f9f9de8b5e", func := "finesse/finesselaw05.HandBalanced", spec := "handBalanced", inPlace := ["internal/abi.NoEscape", "internal/bytealg.MakeNoZero"], unfollowed := true, recurses := true, named := ["internal/strconv.uint64pow10", "math/bits.deBruijn32tab", "math/bits.deBruijn64tab"], apart := false, laid := [("math/bits.deBruijn32tab", laid_math_bits_deBruijn32tab), ("math/bits.deBruijn64tab", laid_math_bits_deBruijn64tab), ("internal/strconv.uint64pow10", laid_internal_strconv_uint64pow10)], narrowed := true }
def HandBalancedUptoSaid : Prop := handBalancedUptoRow.holds Tryd.pinned (OpenSpec.upto handBalancedSpec)

/-- 'finesselaw05.HandSuits', WHERE WHAT IT READS IS OF BULK AT MOST 1048576: true; the input reads as it did. -/
def handSuitsUptoRow : OpenClaim := { program := "ytgndhdcnofblaaadoor", sum := "567dfc52c85bbae3f279b877982dc79a1a0185814b99cc6b8611e9f9f9de8b5e", func := "finesse/finesselaw05.HandSuits", spec := "handSuits", inPlace := ["internal/abi.NoEscape", "internal/bytealg.MakeNoZero"], unfollowed := true, recurses := true, named := ["internal/strconv.uint64pow10", "math/bits.deBruijn32tab", "math/bits.deBruijn64tab"], apart := false, laid := [("math/bits.deBruijn32tab", laid_math_bits_deBruijn32tab), ("math/bits.deBruijn64tab", laid_math_bits_deBruijn64tab), ("internal/strconv.uint64pow10", laid_internal_strconv_uint64pow10)], narrowed := true }
def HandSuitsUptoSaid : Prop := handSuitsUptoRow.holds Tryd.pinned (OpenSpec.upto handSuitsSpec)

end Rows
end Go.Proofs.YtgndhdcnofblaaaDoor
