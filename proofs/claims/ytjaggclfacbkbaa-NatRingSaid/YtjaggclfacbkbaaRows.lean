/-
  No cell of these rows narrows 'for every input' (looked for: loops, veiled, ifaces, maps, wideKeys, modest, calm, conditions, laid).
  DERIVED. THE GIVEN ROWS OF THIS SEAT. 9 by the template 'for every input the law returns true; each argument reads behind the call as it read before'; 0 by the template 'total and deterministic' (their statements: YtjaggclfacbkbaaTotals.lean).
  GIVEN WITH THE SEED: the statements are not yours to turn. If you find one false, say at which input.
  Laid BY PROGRAM, IN A SANDBOX (cutbox-rows.mjs): the forced cells as the released guide's own fill.sh prints them over the translation b8afe5f54e7e779f… (all of the seat's roots in one cut). By AI agents, Wed Nov 11 2026. No macro, syntax, notation, axiom, sorry.
-/
import Derived.Test.YtjaggclfacbkbaaChecked
import GoSem.Claim
import GoSem.ClaimJoined
import GoSem.ClaimMapViews
import Derived.JoinedTies
import Derived.KernelRfl
namespace Go.Proofs.Ytjaggclfacbkbaa
/- THE CELL 'sum', in the pinned program and in every row, IS THE sha256 OF THE DUMP (.gsa) THAT YtjaggclfacbkbaaProg.lean LOADS. Nothing in Lean hashes anything: it is a label: what it is worth is what the hold of that sum in a sandbox is worth. -/
noncomputable def Try.pinned : Pinned := { name := "ytjaggclfacbkbaa", sum := "b8afe5f54e7e779f45dc2be00e08fea42c464f6a47f18dd247107483cdbaf97e", checked := Try.checked }
namespace Rows
def none {H : Type} : Left H := { results := [], args := [] }

/-- 'finesselaw02.NatTells': WHATEVER THE INPUT: true; the input reads as it did. -/
def natTellsSpec : ChangeSpec := { name := "natTells", fn := fun _ => fun
  | [d1, d2] => { results := [.lit (.bool true)], args := [d1, d2] }
  | _ => none }
def natTellsRow : OpenClaim := { program := "ytjaggclfacbkbaa", sum := "b8afe5f54e7e779f45dc2be00e08fea42c464f6a47f18dd247107483cdbaf97e", func := "finesse/finesselaw02.NatTells", spec := "natTells", unfollowed := true, recurses := true, named := ["math/bits.overflowError"], apart := false }
def NatTellsSaid : Prop := natTellsRow.holds Try.pinned (OpenSpec.ofChange natTellsSpec)

/-- ITS FALSE NEIGHBOUR: 'it returns false'. Refute it at one input. -/
def natTellsWrong : ChangeSpec := { name := "natTells", fn := fun _ => fun
  | [d1, d2] => { results := [.lit (.bool false)], args := [d1, d2] }
  | _ => none }
def NatTellsWrongFalsely : Prop := natTellsRow.holds Try.pinned (OpenSpec.ofChange natTellsWrong)

/-- 'finesselaw02.NatMore': WHATEVER THE INPUT: true; the input reads as it did. -/
def natMoreSpec : ChangeSpec := { name := "natMore", fn := fun _ => fun
  | [d1, d2, d3] => { results := [.lit (.bool true)], args := [d1, d2, d3] }
  | _ => none }
def natMoreRow : OpenClaim := { program := "ytjaggclfacbkbaa", sum := "b8afe5f54e7e779f45dc2be00e08fea42c464f6a47f18dd247107483cdbaf97e", func := "finesse/finesselaw02.NatMore", spec := "natMore", unfollowed := true, recurses := true, named := ["math/bits.overflowError"], apart := false }
def NatMoreSaid : Prop := natMoreRow.holds Try.pinned (OpenSpec.ofChange natMoreSpec)

/-- ITS FALSE NEIGHBOUR: 'it returns false'. Refute it at one input. -/
def natMoreWrong : ChangeSpec := { name := "natMore", fn := fun _ => fun
  | [d1, d2, d3] => { results := [.lit (.bool false)], args := [d1, d2, d3] }
  | _ => none }
def NatMoreWrongFalsely : Prop := natMoreRow.holds Try.pinned (OpenSpec.ofChange natMoreWrong)

/-- 'finesselaw02.NatReads': WHATEVER THE INPUT: true; the input reads as it did. -/
def natReadsSpec : ChangeSpec := { name := "natReads", fn := fun _ => fun
  | [d] => { results := [.lit (.bool true)], args := [d] }
  | _ => none }
def natReadsRow : OpenClaim := { program := "ytjaggclfacbkbaa", sum := "b8afe5f54e7e779f45dc2be00e08fea42c464f6a47f18dd247107483cdbaf97e", func := "finesse/finesselaw02.NatReads", spec := "natReads", unfollowed := true, recurses := true, named := ["math/bits.overflowError"], apart := false }
def NatReadsSaid : Prop := natReadsRow.holds Try.pinned (OpenSpec.ofChange natReadsSpec)

/-- ITS FALSE NEIGHBOUR: 'it returns false'. Refute it at one input. -/
def natReadsWrong : ChangeSpec := { name := "natReads", fn := fun _ => fun
  | [d] => { results := [.lit (.bool false)], args := [d] }
  | _ => none }
def NatReadsWrongFalsely : Prop := natReadsRow.holds Try.pinned (OpenSpec.ofChange natReadsWrong)

/-- 'finesselaw02.NatSmall': WHATEVER THE INPUT: true; the input reads as it did. -/
def natSmallSpec : ChangeSpec := { name := "natSmall", fn := fun _ => fun
  | [] => { results := [.lit (.bool true)], args := [] }
  | _ => none }
def natSmallRow : OpenClaim := { program := "ytjaggclfacbkbaa", sum := "b8afe5f54e7e779f45dc2be00e08fea42c464f6a47f18dd247107483cdbaf97e", func := "finesse/finesselaw02.NatSmall", spec := "natSmall", unfollowed := true, recurses := true, named := ["math/bits.overflowError"], apart := false }
def NatSmallSaid : Prop := natSmallRow.holds Try.pinned (OpenSpec.ofChange natSmallSpec)

/-- ITS FALSE NEIGHBOUR: 'it returns false'. Refute it at one input. -/
def natSmallWrong : ChangeSpec := { name := "natSmall", fn := fun _ => fun
  | [] => { results := [.lit (.bool false)], args := [] }
  | _ => none }
def NatSmallWrongFalsely : Prop := natSmallRow.holds Try.pinned (OpenSpec.ofChange natSmallWrong)

/-- 'finesselaw02.NatRing': WHATEVER THE INPUT: true; the input reads as it did. -/
def natRingSpec : ChangeSpec := { name := "natRing", fn := fun _ => fun
  | [d1, d2, d3, d4, d5, d6] => { results := [.lit (.bool true)], args := [d1, d2, d3, d4, d5, d6] }
  | _ => none }
def natRingRow : OpenClaim := { program := "ytjaggclfacbkbaa", sum := "b8afe5f54e7e779f45dc2be00e08fea42c464f6a47f18dd247107483cdbaf97e", func := "finesse/finesselaw02.NatRing", spec := "natRing", unfollowed := true, recurses := true, named := ["math/bits.overflowError"], apart := false }
def NatRingSaid : Prop := natRingRow.holds Try.pinned (OpenSpec.ofChange natRingSpec)

/-- ITS FALSE NEIGHBOUR: 'it returns false'. Refute it at one input. -/
def natRingWrong : ChangeSpec := { name := "natRing", fn := fun _ => fun
  | [d1, d2, d3, d4, d5, d6] => { results := [.lit (.bool false)], args := [d1, d2, d3, d4, d5, d6] }
  | _ => none }
def NatRingWrongFalsely : Prop := natRingRow.holds Try.pinned (OpenSpec.ofChange natRingWrong)

/-- 'finesselaw02.NatDivides': WHATEVER THE INPUT: true; the input reads as it did. -/
def natDividesSpec : ChangeSpec := { name := "natDivides", fn := fun _ => fun
  | [d1, d2] => { results := [.lit (.bool true)], args := [d1, d2] }
  | _ => none }
def natDividesRow : OpenClaim := { program := "ytjaggclfacbkbaa", sum := "b8afe5f54e7e779f45dc2be00e08fea42c464f6a47f18dd247107483cdbaf97e", func := "finesse/finesselaw02.NatDivides", spec := "natDivides", unfollowed := true, recurses := true, named := ["math/bits.overflowError"], apart := false }
def NatDividesSaid : Prop := natDividesRow.holds Try.pinned (OpenSpec.ofChange natDividesSpec)

/-- ITS FALSE NEIGHBOUR: 'it returns false'. Refute it at one input. -/
def natDividesWrong : ChangeSpec := { name := "natDivides", fn := fun _ => fun
  | [d1, d2] => { results := [.lit (.bool false)], args := [d1, d2] }
  | _ => none }
def NatDividesWrongFalsely : Prop := natDividesRow.holds Try.pinned (OpenSpec.ofChange natDividesWrong)

/-- 'finesselaw02.NatChooses': WHATEVER THE INPUT: true; the input reads as it did. -/
def natChoosesSpec : ChangeSpec := { name := "natChooses", fn := fun _ => fun
  | [d1, d2] => { results := [.lit (.bool true)], args := [d1, d2] }
  | _ => none }
def natChoosesRow : OpenClaim := { program := "ytjaggclfacbkbaa", sum := "b8afe5f54e7e779f45dc2be00e08fea42c464f6a47f18dd247107483cdbaf97e", func := "finesse/finesselaw02.NatChooses", spec := "natChooses", unfollowed := true, recurses := true, named := ["math/bits.overflowError"], apart := false }
def NatChoosesSaid : Prop := natChoosesRow.holds Try.pinned (OpenSpec.ofChange natChoosesSpec)

/-- ITS FALSE NEIGHBOUR: 'it returns false'. Refute it at one input. -/
def natChoosesWrong : ChangeSpec := { name := "natChooses", fn := fun _ => fun
  | [d1, d2] => { results := [.lit (.bool false)], args := [d1, d2] }
  | _ => none }
def NatChoosesWrongFalsely : Prop := natChoosesRow.holds Try.pinned (OpenSpec.ofChange natChoosesWrong)

/-- 'finesselaw02.NatBack': WHATEVER THE INPUT: true; the input reads as it did. -/
def natBackSpec : ChangeSpec := { name := "natBack", fn := fun _ => fun
  | [d1, d2, d3] => { results := [.lit (.bool true)], args := [d1, d2, d3] }
  | _ => none }
def natBackRow : OpenClaim := { program := "ytjaggclfacbkbaa", sum := "b8afe5f54e7e779f45dc2be00e08fea42c464f6a47f18dd247107483cdbaf97e", func := "finesse/finesselaw02.NatBack", spec := "natBack", unfollowed := true, recurses := true, named := ["math/bits.overflowError"], apart := false }
def NatBackSaid : Prop := natBackRow.holds Try.pinned (OpenSpec.ofChange natBackSpec)

/-- ITS FALSE NEIGHBOUR: 'it returns false'. Refute it at one input. -/
def natBackWrong : ChangeSpec := { name := "natBack", fn := fun _ => fun
  | [d1, d2, d3] => { results := [.lit (.bool false)], args := [d1, d2, d3] }
  | _ => none }
def NatBackWrongFalsely : Prop := natBackRow.holds Try.pinned (OpenSpec.ofChange natBackWrong)

/-- 'finesselaw02.NatWrong': WHATEVER THE INPUT: true; the input reads as it did. -/
def natWrongSpec : ChangeSpec := { name := "natWrong", fn := fun _ => fun
  | [d1, d2, d3, d4] => { results := [.lit (.bool true)], args := [d1, d2, d3, d4] }
  | _ => none }
def natWrongRow : OpenClaim := { program := "ytjaggclfacbkbaa", sum := "b8afe5f54e7e779f45dc2be00e08fea42c464f6a47f18dd247107483cdbaf97e", func := "finesse/finesselaw02.NatWrong", spec := "natWrong", unfollowed := true, recurses := true, named := ["math/bits.overflowError"], apart := false }
def NatWrongSaid : Prop := natWrongRow.holds Try.pinned (OpenSpec.ofChange natWrongSpec)

/-- ITS FALSE NEIGHBOUR: 'it returns false'. Refute it at one input. -/
def natWrongWrong : ChangeSpec := { name := "natWrong", fn := fun _ => fun
  | [d1, d2, d3, d4] => { results := [.lit (.bool false)], args := [d1, d2, d3, d4] }
  | _ => none }
def NatWrongWrongFalsely : Prop := natWrongRow.holds Try.pinned (OpenSpec.ofChange natWrongWrong)

/- THE SECOND FORM. 'bulk': how many values and letters a reading holds, each counted each time it is reached (what is shared counts as often as it is met; a slice's spare places count too). A statement '..UptoSaid' is the law's where the arguments, and the package variables that the reading takes, are together of bulk at most 1048576: NARROWER than '..Said'. Prove '..Said' where nothing that the law and all that it calls make is longer than what came in: it says more and counts as full. Else prove '..UptoSaid'. A law counts once. -/
mutual
def uptoBulk {H : Type} : DataW H → Nat
  | .lit (.string bytes) => bytes.length + 1
  | .lit _ => 1
  | .nil => 1
  | .ptr d => uptoBulk d + 1
  | .slice elems spare => uptoBulkAll elems + uptoBulkAll spare + 1
  | .agg parts => uptoBulkAll parts + 1
  | .iface _ d => uptoBulk d + 1
  | .map entries => uptoBulkEntries entries + 1
  | .held _ => 1
def uptoBulkAll {H : Type} : List (DataW H) → Nat
  | [] => 0
  | d :: r => uptoBulk d + uptoBulkAll r
def uptoBulkEntries {H : Type} : List (Lit × DataW H) → Nat
  | [] => 0
  | x :: r => uptoBulkEntry x + uptoBulkEntries r
def uptoBulkEntry {H : Type} : Lit × DataW H → Nat
  | (.string bytes, d) => bytes.length + uptoBulk d + 1
  | (_, d) => uptoBulk d + 1
 end
def uptoSmall : (H : Type) → List (DataW H) → Bool := fun _ ds => decide (uptoBulkAll ds ≤ 1048576)
def OpenSpec.upto (s : _root_.Go.ChangeSpec) : _root_.Go.OpenSpec := { _root_.Go.OpenSpec.ofChange s with cond := some uptoSmall }

/-- 'finesselaw02.NatTells', WHERE WHAT IT READS IS OF BULK AT MOST 1048576: true; the input reads as it did. -/
def natTellsUptoRow : OpenClaim := { program := "ytjaggclfacbkbaa", sum := "b8afe5f54e7e779f45dc2be00e08fea42c464f6a47f18dd247107483cdbaf97e", func := "finesse/finesselaw02.NatTells", spec := "natTells", unfollowed := true, recurses := true, named := ["math/bits.overflowError"], apart := false, narrowed := true }
def NatTellsUptoSaid : Prop := natTellsUptoRow.holds Try.pinned (OpenSpec.upto natTellsSpec)

/-- 'finesselaw02.NatMore', WHERE WHAT IT READS IS OF BULK AT MOST 1048576: true; the input reads as it did. -/
def natMoreUptoRow : OpenClaim := { program := "ytjaggclfacbkbaa", sum := "b8afe5f54e7e779f45dc2be00e08fea42c464f6a47f18dd247107483cdbaf97e", func := "finesse/finesselaw02.NatMore", spec := "natMore", unfollowed := true, recurses := true, named := ["math/bits.overflowError"], apart := false, narrowed := true }
def NatMoreUptoSaid : Prop := natMoreUptoRow.holds Try.pinned (OpenSpec.upto natMoreSpec)

/-- 'finesselaw02.NatReads', WHERE WHAT IT READS IS OF BULK AT MOST 1048576: true; the input reads as it did. -/
def natReadsUptoRow : OpenClaim := { program := "ytjaggclfacbkbaa", sum := "b8afe5f54e7e779f45dc2be00e08fea42c464f6a47f18dd247107483cdbaf97e", func := "finesse/finesselaw02.NatReads", spec := "natReads", unfollowed := true, recurses := true, named := ["math/bits.overflowError"], apart := false, narrowed := true }
def NatReadsUptoSaid : Prop := natReadsUptoRow.holds Try.pinned (OpenSpec.upto natReadsSpec)

/-- 'finesselaw02.NatSmall', WHERE WHAT IT READS IS OF BULK AT MOST 1048576: true; the input reads as it did. -/
def natSmallUptoRow : OpenClaim := { program := "ytjaggclfacbkbaa", sum := "b8afe5f54e7e779f45dc2be00e08fea42c464f6a47f18dd247107483cdbaf97e", func := "finesse/finesselaw02.NatSmall", spec := "natSmall", unfollowed := true, recurses := true, named := ["math/bits.overflowError"], apart := false, narrowed := true }
def NatSmallUptoSaid : Prop := natSmallUptoRow.holds Try.pinned (OpenSpec.upto natSmallSpec)

/-- 'finesselaw02.NatRing', WHERE WHAT IT READS IS OF BULK AT MOST 1048576: true; the input reads as it did. -/
def natRingUptoRow : OpenClaim := { program := "ytjaggclfacbkbaa", sum := "b8afe5f54e7e779f45dc2be00e08fea42c464f6a47f18dd247107483cdbaf97e", func := "finesse/finesselaw02.NatRing", spec := "natRing", unfollowed := true, recurses := true, named := ["math/bits.overflowError"], apart := false, narrowed := true }
def NatRingUptoSaid : Prop := natRingUptoRow.holds Try.pinned (OpenSpec.upto natRingSpec)

/-- 'finesselaw02.NatDivides', WHERE WHAT IT READS IS OF BULK AT MOST 1048576: true; the input reads as it did. -/
def natDividesUptoRow : OpenClaim := { program := "ytjaggclfacbkbaa", sum := "b8afe5f54e7e779f45dc2be00e08fea42c464f6a47f18dd247107483cdbaf97e", func := "finesse/finesselaw02.NatDivides", spec := "natDivides", unfollowed := true, recurses := true, named := ["math/bits.overflowError"], apart := false, narrowed := true }
def NatDividesUptoSaid : Prop := natDividesUptoRow.holds Try.pinned (OpenSpec.upto natDividesSpec)

/-- 'finesselaw02.NatChooses', WHERE WHAT IT READS IS OF BULK AT MOST 1048576: true; the input reads as it did. -/
def natChoosesUptoRow : OpenClaim := { program := "ytjaggclfacbkbaa", sum := "b8afe5f54e7e779f45dc2be00e08fea42c464f6a47f18dd247107483cdbaf97e", func := "finesse/finesselaw02.NatChooses", spec := "natChooses", unfollowed := true, recurses := true, named := ["math/bits.overflowError"], apart := false, narrowed := true }
def NatChoosesUptoSaid : Prop := natChoosesUptoRow.holds Try.pinned (OpenSpec.upto natChoosesSpec)

/-- 'finesselaw02.NatBack', WHERE WHAT IT READS IS OF BULK AT MOST 1048576: true; the input reads as it did. -/
def natBackUptoRow : OpenClaim := { program := "ytjaggclfacbkbaa", sum := "b8afe5f54e7e779f45dc2be00e08fea42c464f6a47f18dd247107483cdbaf97e", func := "finesse/finesselaw02.NatBack", spec := "natBack", unfollowed := true, recurses := true, named := ["math/bits.overflowError"], apart := false, narrowed := true }
def NatBackUptoSaid : Prop := natBackUptoRow.holds Try.pinned (OpenSpec.upto natBackSpec)

/-- 'finesselaw02.NatWrong', WHERE WHAT IT READS IS OF BULK AT MOST 1048576: true; the input reads as it did. -/
def natWrongUptoRow : OpenClaim := { program := "ytjaggclfacbkbaa", sum := "b8afe5f54e7e779f45dc2be00e08fea42c464f6a47f18dd247107483cdbaf97e", func := "finesse/finesselaw02.NatWrong", spec := "natWrong", unfollowed := true, recurses := true, named := ["math/bits.overflowError"], apart := false, narrowed := true }
def NatWrongUptoSaid : Prop := natWrongUptoRow.holds Try.pinned (OpenSpec.upto natWrongSpec)

end Rows
end Go.Proofs.Ytjaggclfacbkbaa
