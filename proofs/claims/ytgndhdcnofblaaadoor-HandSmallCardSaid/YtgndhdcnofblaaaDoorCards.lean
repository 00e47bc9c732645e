/-
  DERIVED. GIVEN WITH THE SEED: THE CARDS: each row of YtgndhdcnofblaaaDoorRows.lean that lists a variable, with what it lists TIED to the program's text (the seventh form; the later family's looks); each row that meets fmt, with fmt's text TOLD by the authors' own Lean function (tested against real Go, not proved from fmt's source: count such statements apart). THE CARD IS WHAT COUNTS. Prove the row's statement (the work); the ties are given (YtgndhdcnofblaaaDoorTie.lean); close each card by the builder's one call (the guide's Derived/Test/ToyasCard.lean, 'card_holds'). Laid BY PROGRAM, IN A SANDBOX (cutbox-door.mjs). By AI agents, Wed Nov 11 2026. No macro, syntax, notation, axiom, sorry.
-/
import Derived.Test.YtgndhdcnofblaaaDoorRows
import GoSem.ClaimSeven
namespace Go.Proofs.YtgndhdcnofblaaaDoor
namespace Rows

/-- THE TIED CARD OF 'finesselaw05.HandTells'. -/
def handTellsCard : Claim7 := { stood := { row := handTellsRow, standIns := [], harness := (true, "78341152391dba05ac104881e3c919e4b1a9ecf73e67f4e099849f981df125cf"), looks := false }, kinds := [], alts := [], laidByText := true, laidKinds := [.data, .data, .data], laidTests := true, laidLooks := .later }
def HandTellsCardSaid : Prop := Claim7.holds Tryd.pinned (.plain (OpenSpec.ofChange handTellsSpec)) handTellsCard

/-- THE TIED CARD OF 'finesselaw05.HandSmall'. -/
def handSmallCard : Claim7 := { stood := { row := handSmallRow, standIns := [], harness := (true, "78341152391dba05ac104881e3c919e4b1a9ecf73e67f4e099849f981df125cf"), looks := false }, kinds := [], alts := [], laidByText := true, laidKinds := [.data, .data, .data], laidTests := true, laidLooks := .later }
def HandSmallCardSaid : Prop := Claim7.holds Tryd.pinned (.plain (OpenSpec.ofChange handSmallSpec)) handSmallCard

/-- THE TIED CARD OF 'finesselaw05.HandTurned'. -/
def handTurnedCard : Claim7 := { stood := { row := handTurnedRow, standIns := [], harness := (true, "78341152391dba05ac104881e3c919e4b1a9ecf73e67f4e099849f981df125cf"), looks := false }, kinds := [], alts := [], laidByText := true, laidKinds := [.data, .data, .data], laidTests := true, laidLooks := .later }
def HandTurnedCardSaid : Prop := Claim7.holds Tryd.pinned (.plain (OpenSpec.ofChange handTurnedSpec)) handTurnedCard

/-- THE TIED CARD OF 'finesselaw05.HandDeal'. -/
def handDealCard : Claim7 := { stood := { row := handDealRow, standIns := [], harness := (true, "78341152391dba05ac104881e3c919e4b1a9ecf73e67f4e099849f981df125cf"), looks := false }, kinds := [], alts := [], laidByText := true, laidKinds := [.data, .data, .data], laidTests := true, laidLooks := .later }
def HandDealCardSaid : Prop := Claim7.holds Tryd.pinned (.plain (OpenSpec.ofChange handDealSpec)) handDealCard

/-- THE TIED CARD OF 'finesselaw05.HandMore'. -/
def handMoreCard : Claim7 := { stood := { row := handMoreRow, standIns := [], harness := (true, "78341152391dba05ac104881e3c919e4b1a9ecf73e67f4e099849f981df125cf"), looks := false }, kinds := [], alts := [], laidByText := true, laidKinds := [.data, .data, .data], laidTests := true, laidLooks := .later }
def HandMoreCardSaid : Prop := Claim7.holds Tryd.pinned (.plain (OpenSpec.ofChange handMoreSpec)) handMoreCard

/-- THE TIED CARD OF 'finesselaw05.HandLosers'. -/
def handLosersCard : Claim7 := { stood := { row := handLosersRow, standIns := [], harness := (true, "78341152391dba05ac104881e3c919e4b1a9ecf73e67f4e099849f981df125cf"), looks := false }, kinds := [], alts := [], laidByText := true, laidKinds := [.data, .data, .data], laidTests := true, laidLooks := .later }
def HandLosersCardSaid : Prop := Claim7.holds Tryd.pinned (.plain (OpenSpec.ofChange handLosersSpec)) handLosersCard

/-- THE TIED CARD OF 'finesselaw05.HandBalanced'. -/
def handBalancedCard : Claim7 := { stood := { row := handBalancedRow, standIns := [], harness := (true, "78341152391dba05ac104881e3c919e4b1a9ecf73e67f4e099849f981df125cf"), looks := false }, kinds := [], alts := [], laidByText := true, laidKinds := [.data, .data, .data], laidTests := true, laidLooks := .later }
def HandBalancedCardSaid : Prop := Claim7.holds Tryd.pinned (.plain (OpenSpec.ofChange handBalancedSpec)) handBalancedCard

/-- THE TIED CARD OF 'finesselaw05.HandSuits'. -/
def handSuitsCard : Claim7 := { stood := { row := handSuitsRow, standIns := [], harness := (true, "78341152391dba05ac104881e3c919e4b1a9ecf73e67f4e099849f981df125cf"), looks := false }, kinds := [], alts := [], laidByText := true, laidKinds := [.data, .data, .data], laidTests := true, laidLooks := .later }
def HandSuitsCardSaid : Prop := Claim7.holds Tryd.pinned (.plain (OpenSpec.ofChange handSuitsSpec)) handSuitsCard

/-- THE SECOND FORM's CARD OF 'finesselaw05.HandTells'. -/
def handTellsUptoCard : Claim7 := { stood := { row := handTellsUptoRow, standIns := [], harness := (true, "78341152391dba05ac104881e3c919e4b1a9ecf73e67f4e099849f981df125cf"), looks := false }, kinds := [], alts := [], laidByText := true, laidKinds := [.data, .data, .data], laidTests := true, laidLooks := .later }
def HandTellsUptoCardSaid : Prop := Claim7.holds Tryd.pinned (.plain (OpenSpec.upto handTellsSpec)) handTellsUptoCard

/-- THE SECOND FORM's CARD OF 'finesselaw05.HandSmall'. -/
def handSmallUptoCard : Claim7 := { stood := { row := handSmallUptoRow, standIns := [], harness := (true, "78341152391dba05ac104881e3c919e4b1a9ecf73e67f4e099849f981df125cf"), looks := false }, kinds := [], alts := [], laidByText := true, laidKinds := [.data, .data, .data], laidTests := true, laidLooks := .later }
def HandSmallUptoCardSaid : Prop := Claim7.holds Tryd.pinned (.plain (OpenSpec.upto handSmallSpec)) handSmallUptoCard

/-- THE SECOND FORM's CARD OF 'finesselaw05.HandTurned'. -/
def handTurnedUptoCard : Claim7 := { stood := { row := handTurnedUptoRow, standIns := [], harness := (true, "78341152391dba05ac104881e3c919e4b1a9ecf73e67f4e099849f981df125cf"), looks := false }, kinds := [], alts := [], laidByText := true, laidKinds := [.data, .data, .data], laidTests := true, laidLooks := .later }
def HandTurnedUptoCardSaid : Prop := Claim7.holds Tryd.pinned (.plain (OpenSpec.upto handTurnedSpec)) handTurnedUptoCard

/-- THE SECOND FORM's CARD OF 'finesselaw05.HandDeal'. -/
def handDealUptoCard : Claim7 := { stood := { row := handDealUptoRow, standIns := [], harness := (true, "78341152391dba05ac104881e3c919e4b1a9ecf73e67f4e099849f981df125cf"), looks := false }, kinds := [], alts := [], laidByText := true, laidKinds := [.data, .data, .data], laidTests := true, laidLooks := .later }
def HandDealUptoCardSaid : Prop := Claim7.holds Tryd.pinned (.plain (OpenSpec.upto handDealSpec)) handDealUptoCard

/-- THE SECOND FORM's CARD OF 'finesselaw05.HandMore'. -/
def handMoreUptoCard : Claim7 := { stood := { row := handMoreUptoRow, standIns := [], harness := (true, "78341152391dba05ac104881e3c919e4b1a9ecf73e67f4e099849f981df125cf"), looks := false }, kinds := [], alts := [], laidByText := true, laidKinds := [.data, .data, .data], laidTests := true, laidLooks := .later }
def HandMoreUptoCardSaid : Prop := Claim7.holds Tryd.pinned (.plain (OpenSpec.upto handMoreSpec)) handMoreUptoCard

/-- THE SECOND FORM's CARD OF 'finesselaw05.HandLosers'. -/
def handLosersUptoCard : Claim7 := { stood := { row := handLosersUptoRow, standIns := [], harness := (true, "78341152391dba05ac104881e3c919e4b1a9ecf73e67f4e099849f981df125cf"), looks := false }, kinds := [], alts := [], laidByText := true, laidKinds := [.data, .data, .data], laidTests := true, laidLooks := .later }
def HandLosersUptoCardSaid : Prop := Claim7.holds Tryd.pinned (.plain (OpenSpec.upto handLosersSpec)) handLosersUptoCard

/-- THE SECOND FORM's CARD OF 'finesselaw05.HandBalanced'. -/
def handBalancedUptoCard : Claim7 := { stood := { row := handBalancedUptoRow, standIns := [], harness := (true, "78341152391dba05ac104881e3c919e4b1a9ecf73e67f4e099849f981df125cf"), looks := false }, kinds := [], alts := [], laidByText := true, laidKinds := [.data, .data, .data], laidTests := true, laidLooks := .later }
def HandBalancedUptoCardSaid : Prop := Claim7.holds Tryd.pinned (.plain (OpenSpec.upto handBalancedSpec)) handBalancedUptoCard

/-- THE SECOND FORM's CARD OF 'finesselaw05.HandSuits'. -/
def handSuitsUptoCard : Claim7 := { stood := { row := handSuitsUptoRow, standIns := [], harness := (true, "78341152391dba05ac104881e3c919e4b1a9ecf73e67f4e099849f981df125cf"), looks := false }, kinds := [], alts := [], laidByText := true, laidKinds := [.data, .data, .data], laidTests := true, laidLooks := .later }
def HandSuitsUptoCardSaid : Prop := Claim7.holds Tryd.pinned (.plain (OpenSpec.upto handSuitsSpec)) handSuitsUptoCard
end Rows
end Go.Proofs.YtgndhdcnofblaaaDoor
