/-
  DERIVED. GIVEN WITH THE SEED: THE CARDS: each row of YtiplgdkpnhamaaaGreatDoorRows.lean that lists a variable, with what it lists TIED to the program's text (the seventh form; the later family's looks); each row that meets fmt, with fmt's text TOLD by the authors' own Lean function (tested against real Go, not proved from fmt's source: count such statements apart). THE CARD IS WHAT COUNTS. Prove the row's statement (the work); the ties are given (YtiplgdkpnhamaaaGreatDoorTie.lean); close each card by the builder's one call (the guide's Derived/Test/ToyasCard.lean, 'card_holds'). Laid BY PROGRAM, IN A SANDBOX (cutbox-door.mjs). By AI agents, Wed Nov 11 2026. No macro, syntax, notation, axiom, sorry.
-/
import Derived.Test.YtiplgdkpnhamaaaGreatDoorRows
import GoSem.ClaimSeven
namespace Go.Proofs.YtiplgdkpnhamaaaGreatDoor
namespace Rows

/-- THE TIED CARD OF 'choruslaw.Transactions'. -/
def transactionsCard : Claim7 := { stood := { row := transactionsRow, standIns := [], harness := (true, "03c224c4c87be22400730a33ef1322c00f1d00c76bdc77cdd8952f2fe7483f35"), looks := true }, kinds := [], alts := [], laidByText := true, laidKinds := [.data, .data, .data, .sentinel, .sentinel], laidTests := true, laidLooks := .later }
def TransactionsCardSaid : Prop := Claim7.holds Tryz.pinned (.plain (OpenSpec.ofChange transactionsSpec)) transactionsCard

/-- THE TIED CARD OF 'choruslaw.Travels'. -/
def travelsCard : Claim7 := { stood := { row := travelsRow, standIns := [], harness := (true, "03c224c4c87be22400730a33ef1322c00f1d00c76bdc77cdd8952f2fe7483f35"), looks := true }, kinds := [], alts := [], laidByText := true, laidKinds := [.data, .data, .data, .sentinel, .sentinel], laidTests := true, laidLooks := .later }
def TravelsCardSaid : Prop := Claim7.holds Tryz.pinned (.plain (OpenSpec.ofChange travelsSpec)) travelsCard

/-- THE TIED CARD OF 'choruslaw.Holds'. -/
def holdsCard : Claim7 := { stood := { row := holdsRow, standIns := [], harness := (true, "03c224c4c87be22400730a33ef1322c00f1d00c76bdc77cdd8952f2fe7483f35"), looks := true }, kinds := [], alts := [], laidByText := true, laidKinds := [.data, .data, .data, .sentinel, .sentinel], laidTests := true, laidLooks := .later }
def HoldsCardSaid : Prop := Claim7.holds Tryz.pinned (.plain (OpenSpec.ofChange holdsSpec)) holdsCard

/-- THE TIED CARD OF 'choruslaw.All'. -/
def allCard : Claim7 := { stood := { row := allRow, standIns := [], harness := (true, "03c224c4c87be22400730a33ef1322c00f1d00c76bdc77cdd8952f2fe7483f35"), looks := true }, kinds := [], alts := [], laidByText := true, laidKinds := [.data, .data, .data, .sentinel, .sentinel], laidTests := true, laidLooks := .later }
def AllCardSaid : Prop := Claim7.holds Tryz.pinned (.plain (OpenSpec.ofChange allSpec)) allCard

/-- THE TIED CARD OF 'choruskeep.Equal'. -/
def equalCard : Claim7 := { stood := { row := equalRow, standIns := [], harness := (true, "03c224c4c87be22400730a33ef1322c00f1d00c76bdc77cdd8952f2fe7483f35"), looks := true }, kinds := [], alts := [], laidByText := true, laidKinds := [.data, .data, .data, .sentinel, .sentinel], laidTests := true, laidLooks := .later }
def EqualCardSaid : Prop := Claim7.holds Tryz.pinned (.plain (OpenSpec.ofChange equalSpec)) equalCard

/-- THE TIED CARD OF 'choruskeep.Wholly'. -/
def whollyCard : Claim7 := { stood := { row := whollyRow, standIns := [], harness := (true, "03c224c4c87be22400730a33ef1322c00f1d00c76bdc77cdd8952f2fe7483f35"), looks := true }, kinds := [], alts := [], laidByText := true, laidKinds := [.data, .data, .data, .sentinel, .sentinel], laidTests := true, laidLooks := .later }
def WhollyCardSaid : Prop := Claim7.holds Tryz.pinned (.plain (OpenSpec.ofChange whollySpec)) whollyCard

/-- THE TIED CARD OF 'choruskeep.Causal'. -/
def causalCard : Claim7 := { stood := { row := causalRow, standIns := [], harness := (true, "03c224c4c87be22400730a33ef1322c00f1d00c76bdc77cdd8952f2fe7483f35"), looks := true }, kinds := [], alts := [], laidByText := true, laidKinds := [.data, .data, .data, .sentinel, .sentinel], laidTests := true, laidLooks := .later }
def CausalCardSaid : Prop := Claim7.holds Tryz.pinned (.plain (OpenSpec.ofChange causalSpec)) causalCard

/-- THE TIED CARD OF 'choruskeep.Snapshot'. -/
def snapshotCard : Claim7 := { stood := { row := snapshotRow, standIns := [], harness := (true, "03c224c4c87be22400730a33ef1322c00f1d00c76bdc77cdd8952f2fe7483f35"), looks := true }, kinds := [], alts := [], laidByText := true, laidKinds := [.data, .data, .data, .sentinel, .sentinel], laidTests := true, laidLooks := .later }
def SnapshotCardSaid : Prop := Claim7.holds Tryz.pinned (.plain (OpenSpec.ofChange snapshotSpec)) snapshotCard

/-- THE TIED CARD OF 'choruskeep.Wins'. -/
def winsCard : Claim7 := { stood := { row := winsRow, standIns := [], harness := (true, "03c224c4c87be22400730a33ef1322c00f1d00c76bdc77cdd8952f2fe7483f35"), looks := true }, kinds := [], alts := [], laidByText := true, laidKinds := [.data, .data, .data, .sentinel, .sentinel], laidTests := true, laidLooks := .later }
def WinsCardSaid : Prop := Claim7.holds Tryz.pinned (.plain (OpenSpec.ofChange winsSpec)) winsCard

/-- THE TIED CARD OF 'choruskeep.Spread'. -/
def spreadCard : Claim7 := { stood := { row := spreadRow, standIns := [], harness := (true, "03c224c4c87be22400730a33ef1322c00f1d00c76bdc77cdd8952f2fe7483f35"), looks := true }, kinds := [], alts := [], laidByText := true, laidKinds := [.data, .data, .data, .sentinel, .sentinel], laidTests := true, laidLooks := .later }
def SpreadCardSaid : Prop := Claim7.holds Tryz.pinned (.plain (OpenSpec.ofChange spreadSpec)) spreadCard

/-- THE TIED CARD OF 'choruskeep.Unpruned'. -/
def unprunedCard : Claim7 := { stood := { row := unprunedRow, standIns := [], harness := (true, "03c224c4c87be22400730a33ef1322c00f1d00c76bdc77cdd8952f2fe7483f35"), looks := true }, kinds := [], alts := [], laidByText := true, laidKinds := [.data, .data, .data, .sentinel, .sentinel], laidTests := true, laidLooks := .later }
def UnprunedCardSaid : Prop := Claim7.holds Tryz.pinned (.plain (OpenSpec.ofChange unprunedSpec)) unprunedCard

/-- THE SECOND FORM's CARD OF 'choruslaw.Transactions'. -/
def transactionsUptoCard : Claim7 := { stood := { row := transactionsUptoRow, standIns := [], harness := (true, "03c224c4c87be22400730a33ef1322c00f1d00c76bdc77cdd8952f2fe7483f35"), looks := true }, kinds := [], alts := [], laidByText := true, laidKinds := [.data, .data, .data, .sentinel, .sentinel], laidTests := true, laidLooks := .later }
def TransactionsUptoCardSaid : Prop := Claim7.holds Tryz.pinned (.plain (OpenSpec.upto transactionsSpec)) transactionsUptoCard

/-- THE SECOND FORM's CARD OF 'choruslaw.Travels'. -/
def travelsUptoCard : Claim7 := { stood := { row := travelsUptoRow, standIns := [], harness := (true, "03c224c4c87be22400730a33ef1322c00f1d00c76bdc77cdd8952f2fe7483f35"), looks := true }, kinds := [], alts := [], laidByText := true, laidKinds := [.data, .data, .data, .sentinel, .sentinel], laidTests := true, laidLooks := .later }
def TravelsUptoCardSaid : Prop := Claim7.holds Tryz.pinned (.plain (OpenSpec.upto travelsSpec)) travelsUptoCard

/-- THE SECOND FORM's CARD OF 'choruslaw.Holds'. -/
def holdsUptoCard : Claim7 := { stood := { row := holdsUptoRow, standIns := [], harness := (true, "03c224c4c87be22400730a33ef1322c00f1d00c76bdc77cdd8952f2fe7483f35"), looks := true }, kinds := [], alts := [], laidByText := true, laidKinds := [.data, .data, .data, .sentinel, .sentinel], laidTests := true, laidLooks := .later }
def HoldsUptoCardSaid : Prop := Claim7.holds Tryz.pinned (.plain (OpenSpec.upto holdsSpec)) holdsUptoCard

/-- THE SECOND FORM's CARD OF 'choruslaw.All'. -/
def allUptoCard : Claim7 := { stood := { row := allUptoRow, standIns := [], harness := (true, "03c224c4c87be22400730a33ef1322c00f1d00c76bdc77cdd8952f2fe7483f35"), looks := true }, kinds := [], alts := [], laidByText := true, laidKinds := [.data, .data, .data, .sentinel, .sentinel], laidTests := true, laidLooks := .later }
def AllUptoCardSaid : Prop := Claim7.holds Tryz.pinned (.plain (OpenSpec.upto allSpec)) allUptoCard

/-- THE SECOND FORM's CARD OF 'choruskeep.Equal'. -/
def equalUptoCard : Claim7 := { stood := { row := equalUptoRow, standIns := [], harness := (true, "03c224c4c87be22400730a33ef1322c00f1d00c76bdc77cdd8952f2fe7483f35"), looks := true }, kinds := [], alts := [], laidByText := true, laidKinds := [.data, .data, .data, .sentinel, .sentinel], laidTests := true, laidLooks := .later }
def EqualUptoCardSaid : Prop := Claim7.holds Tryz.pinned (.plain (OpenSpec.upto equalSpec)) equalUptoCard

/-- THE SECOND FORM's CARD OF 'choruskeep.Wholly'. -/
def whollyUptoCard : Claim7 := { stood := { row := whollyUptoRow, standIns := [], harness := (true, "03c224c4c87be22400730a33ef1322c00f1d00c76bdc77cdd8952f2fe7483f35"), looks := true }, kinds := [], alts := [], laidByText := true, laidKinds := [.data, .data, .data, .sentinel, .sentinel], laidTests := true, laidLooks := .later }
def WhollyUptoCardSaid : Prop := Claim7.holds Tryz.pinned (.plain (OpenSpec.upto whollySpec)) whollyUptoCard

/-- THE SECOND FORM's CARD OF 'choruskeep.Causal'. -/
def causalUptoCard : Claim7 := { stood := { row := causalUptoRow, standIns := [], harness := (true, "03c224c4c87be22400730a33ef1322c00f1d00c76bdc77cdd8952f2fe7483f35"), looks := true }, kinds := [], alts := [], laidByText := true, laidKinds := [.data, .data, .data, .sentinel, .sentinel], laidTests := true, laidLooks := .later }
def CausalUptoCardSaid : Prop := Claim7.holds Tryz.pinned (.plain (OpenSpec.upto causalSpec)) causalUptoCard

/-- THE SECOND FORM's CARD OF 'choruskeep.Snapshot'. -/
def snapshotUptoCard : Claim7 := { stood := { row := snapshotUptoRow, standIns := [], harness := (true, "03c224c4c87be22400730a33ef1322c00f1d00c76bdc77cdd8952f2fe7483f35"), looks := true }, kinds := [], alts := [], laidByText := true, laidKinds := [.data, .data, .data, .sentinel, .sentinel], laidTests := true, laidLooks := .later }
def SnapshotUptoCardSaid : Prop := Claim7.holds Tryz.pinned (.plain (OpenSpec.upto snapshotSpec)) snapshotUptoCard

/-- THE SECOND FORM's CARD OF 'choruskeep.Wins'. -/
def winsUptoCard : Claim7 := { stood := { row := winsUptoRow, standIns := [], harness := (true, "03c224c4c87be22400730a33ef1322c00f1d00c76bdc77cdd8952f2fe7483f35"), looks := true }, kinds := [], alts := [], laidByText := true, laidKinds := [.data, .data, .data, .sentinel, .sentinel], laidTests := true, laidLooks := .later }
def WinsUptoCardSaid : Prop := Claim7.holds Tryz.pinned (.plain (OpenSpec.upto winsSpec)) winsUptoCard

/-- THE SECOND FORM's CARD OF 'choruskeep.Spread'. -/
def spreadUptoCard : Claim7 := { stood := { row := spreadUptoRow, standIns := [], harness := (true, "03c224c4c87be22400730a33ef1322c00f1d00c76bdc77cdd8952f2fe7483f35"), looks := true }, kinds := [], alts := [], laidByText := true, laidKinds := [.data, .data, .data, .sentinel, .sentinel], laidTests := true, laidLooks := .later }
def SpreadUptoCardSaid : Prop := Claim7.holds Tryz.pinned (.plain (OpenSpec.upto spreadSpec)) spreadUptoCard

/-- THE SECOND FORM's CARD OF 'choruskeep.Unpruned'. -/
def unprunedUptoCard : Claim7 := { stood := { row := unprunedUptoRow, standIns := [], harness := (true, "03c224c4c87be22400730a33ef1322c00f1d00c76bdc77cdd8952f2fe7483f35"), looks := true }, kinds := [], alts := [], laidByText := true, laidKinds := [.data, .data, .data, .sentinel, .sentinel], laidTests := true, laidLooks := .later }
def UnprunedUptoCardSaid : Prop := Claim7.holds Tryz.pinned (.plain (OpenSpec.upto unprunedSpec)) unprunedUptoCard
end Rows
end Go.Proofs.YtiplgdkpnhamaaaGreatDoor
