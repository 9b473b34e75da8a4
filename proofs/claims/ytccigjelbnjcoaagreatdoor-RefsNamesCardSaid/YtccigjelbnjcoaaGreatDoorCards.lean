/-
  DERIVED. GIVEN WITH THE SEED: THE CARDS: each row of YtccigjelbnjcoaaGreatDoorRows.lean that lists a variable, with what it lists TIED to the program's text (the seventh form; the later family's looks); each row that meets fmt, with fmt's text TOLD by the authors' own Lean function (tested against real Go, not proved from fmt's source: count such statements apart). THE CARD IS WHAT COUNTS. Prove the row's statement (the work); the ties are given (YtccigjelbnjcoaaGreatDoorTie.lean); close each card by the builder's one call (the guide's Derived/Test/ToyasCard.lean, 'card_holds'). Laid BY PROGRAM, IN A SANDBOX (cutbox-door.mjs). By AI agents, Wed Nov 11 2026. No macro, syntax, notation, axiom, sorry.
-/
import Derived.Test.YtccigjelbnjcoaaGreatDoorRows
import GoSem.ClaimSeven
namespace Go.Proofs.YtccigjelbnjcoaaGreatDoor
namespace Rows

/-- THE TIED CARD OF 'pannierlaw08.RefsOf'. -/
def refsOfCard : Claim7 := { stood := { row := refsOfRow, standIns := [], harness := (true, "a2280228fc3e478eee10a18859f434470ba7e8820b3210ccfa773922f102fbfa"), looks := true }, kinds := [], alts := [], laidByText := true, laidKinds := [.data, .data, .data, .data, .handle, .sentinel, .sentinel, .pinned], laidTests := true, laidLooks := .later }
def RefsOfCardSaid : Prop := Claim7.holds Tryz.pinned (.plain (OpenSpec.ofChange refsOfSpec)) refsOfCard

/-- THE TIED CARD OF 'pannierlaw08.RefsTell'. -/
def refsTellCard : Claim7 := { stood := { row := refsTellRow, standIns := [], harness := (true, "a2280228fc3e478eee10a18859f434470ba7e8820b3210ccfa773922f102fbfa"), looks := true }, kinds := [], alts := [], laidByText := true, laidKinds := [.data, .data, .data, .data, .handle, .sentinel, .sentinel, .pinned], laidTests := true, laidLooks := .later }
def RefsTellCardSaid : Prop := Claim7.holds Tryz.pinned (.plain (OpenSpec.ofChange refsTellSpec)) refsTellCard

/-- THE TIED CARD OF 'pannierlaw08.RefsNames'. -/
def refsNamesCard : Claim7 := { stood := { row := refsNamesRow, standIns := [], harness := (true, "a2280228fc3e478eee10a18859f434470ba7e8820b3210ccfa773922f102fbfa"), looks := true }, kinds := [], alts := [], laidByText := true, laidKinds := [.data, .data, .data, .data, .handle, .sentinel, .sentinel, .pinned], laidTests := true, laidLooks := .later }
def RefsNamesCardSaid : Prop := Claim7.holds Tryz.pinned (.plain (OpenSpec.ofChange refsNamesSpec)) refsNamesCard

/-- THE TIED CARD OF 'pannierlaw08.RefsUnion'. -/
def refsUnionCard : Claim7 := { stood := { row := refsUnionRow, standIns := [], harness := (true, "a2280228fc3e478eee10a18859f434470ba7e8820b3210ccfa773922f102fbfa"), looks := true }, kinds := [], alts := [], laidByText := true, laidKinds := [.data, .data, .data, .data, .handle, .sentinel, .sentinel, .pinned], laidTests := true, laidLooks := .later }
def RefsUnionCardSaid : Prop := Claim7.holds Tryz.pinned (.plain (OpenSpec.ofChange refsUnionSpec)) refsUnionCard

/-- THE SECOND FORM's CARD OF 'pannierlaw08.RefsOf'. -/
def refsOfUptoCard : Claim7 := { stood := { row := refsOfUptoRow, standIns := [], harness := (true, "a2280228fc3e478eee10a18859f434470ba7e8820b3210ccfa773922f102fbfa"), looks := true }, kinds := [], alts := [], laidByText := true, laidKinds := [.data, .data, .data, .data, .handle, .sentinel, .sentinel, .pinned], laidTests := true, laidLooks := .later }
def RefsOfUptoCardSaid : Prop := Claim7.holds Tryz.pinned (.plain (OpenSpec.upto refsOfSpec)) refsOfUptoCard

/-- THE SECOND FORM's CARD OF 'pannierlaw08.RefsTell'. -/
def refsTellUptoCard : Claim7 := { stood := { row := refsTellUptoRow, standIns := [], harness := (true, "a2280228fc3e478eee10a18859f434470ba7e8820b3210ccfa773922f102fbfa"), looks := true }, kinds := [], alts := [], laidByText := true, laidKinds := [.data, .data, .data, .data, .handle, .sentinel, .sentinel, .pinned], laidTests := true, laidLooks := .later }
def RefsTellUptoCardSaid : Prop := Claim7.holds Tryz.pinned (.plain (OpenSpec.upto refsTellSpec)) refsTellUptoCard

/-- THE SECOND FORM's CARD OF 'pannierlaw08.RefsNames'. -/
def refsNamesUptoCard : Claim7 := { stood := { row := refsNamesUptoRow, standIns := [], harness := (true, "a2280228fc3e478eee10a18859f434470ba7e8820b3210ccfa773922f102fbfa"), looks := true }, kinds := [], alts := [], laidByText := true, laidKinds := [.data, .data, .data, .data, .handle, .sentinel, .sentinel, .pinned], laidTests := true, laidLooks := .later }
def RefsNamesUptoCardSaid : Prop := Claim7.holds Tryz.pinned (.plain (OpenSpec.upto refsNamesSpec)) refsNamesUptoCard

/-- THE SECOND FORM's CARD OF 'pannierlaw08.RefsUnion'. -/
def refsUnionUptoCard : Claim7 := { stood := { row := refsUnionUptoRow, standIns := [], harness := (true, "a2280228fc3e478eee10a18859f434470ba7e8820b3210ccfa773922f102fbfa"), looks := true }, kinds := [], alts := [], laidByText := true, laidKinds := [.data, .data, .data, .data, .handle, .sentinel, .sentinel, .pinned], laidTests := true, laidLooks := .later }
def RefsUnionUptoCardSaid : Prop := Claim7.holds Tryz.pinned (.plain (OpenSpec.upto refsUnionSpec)) refsUnionUptoCard
end Rows
end Go.Proofs.YtccigjelbnjcoaaGreatDoor
