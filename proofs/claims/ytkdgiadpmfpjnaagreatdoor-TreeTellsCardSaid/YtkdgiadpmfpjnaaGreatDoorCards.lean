/-
  DERIVED. GIVEN WITH THE SEED: THE CARDS: each row of YtkdgiadpmfpjnaaGreatDoorRows.lean that lists a variable, with what it lists TIED to the program's text (the seventh form; the later family's looks); each row that meets fmt, with fmt's text TOLD by the authors' own Lean function (tested against real Go, not proved from fmt's source: count such statements apart). THE CARD IS WHAT COUNTS. Prove the row's statement (the work); the ties are given (YtkdgiadpmfpjnaaGreatDoorTie.lean); close each card by the builder's one call (the guide's Derived/Test/ToyasCard.lean, 'card_holds'). Laid BY PROGRAM, IN A SANDBOX (cutbox-door.mjs). By AI agents, Wed Nov 11 2026. No macro, syntax, notation, axiom, sorry.
-/
import Derived.Test.YtkdgiadpmfpjnaaGreatDoorRows
import GoSem.ClaimSeven
namespace Go.Proofs.YtkdgiadpmfpjnaaGreatDoor
namespace Rows

/-- THE TIED CARD OF 'pannierlaw05.TreeParses'. -/
def treeParsesCard : Claim7 := { stood := { row := treeParsesRow, standIns := [], harness := (true, "9b69ccf89ecb7331d286e78e435535d18f4eecd7c1fa407b2d246eb454882631"), looks := true }, kinds := [], alts := [], laidByText := true, laidKinds := [.data, .data, .data, .data, .handle, .sentinel, .sentinel, .pinned], laidTests := true, laidLooks := .later }
def TreeParsesCardSaid : Prop := Claim7.holds Tryz.pinned (.plain (OpenSpec.ofChange treeParsesSpec)) treeParsesCard

/-- THE TIED CARD OF 'pannierlaw05.TreeTells'. -/
def treeTellsCard : Claim7 := { stood := { row := treeTellsRow, standIns := [], harness := (true, "9b69ccf89ecb7331d286e78e435535d18f4eecd7c1fa407b2d246eb454882631"), looks := true }, kinds := [], alts := [], laidByText := true, laidKinds := [.data, .data, .data, .data, .handle, .sentinel, .sentinel, .pinned], laidTests := true, laidLooks := .later }
def TreeTellsCardSaid : Prop := Claim7.holds Tryz.pinned (.plain (OpenSpec.ofChange treeTellsSpec)) treeTellsCard

/-- THE TIED CARD OF 'pannierlaw05.TreeGood'. -/
def treeGoodCard : Claim7 := { stood := { row := treeGoodRow, standIns := [], harness := (true, "9b69ccf89ecb7331d286e78e435535d18f4eecd7c1fa407b2d246eb454882631"), looks := true }, kinds := [], alts := [], laidByText := true, laidKinds := [.data, .data, .data, .data, .handle, .sentinel, .sentinel, .pinned], laidTests := true, laidLooks := .later }
def TreeGoodCardSaid : Prop := Claim7.holds Tryz.pinned (.plain (OpenSpec.ofChange treeGoodSpec)) treeGoodCard

/-- THE TIED CARD OF 'pannierlaw05.TreeLeft'. -/
def treeLeftCard : Claim7 := { stood := { row := treeLeftRow, standIns := [], harness := (true, "9b69ccf89ecb7331d286e78e435535d18f4eecd7c1fa407b2d246eb454882631"), looks := true }, kinds := [], alts := [], laidByText := true, laidKinds := [.data, .data, .data, .data, .handle, .sentinel, .sentinel, .pinned], laidTests := true, laidLooks := .later }
def TreeLeftCardSaid : Prop := Claim7.holds Tryz.pinned (.plain (OpenSpec.ofChange treeLeftSpec)) treeLeftCard

/-- THE TIED CARD OF 'pannierlaw05.TreeDeep'. -/
def treeDeepCard : Claim7 := { stood := { row := treeDeepRow, standIns := [], harness := (true, "9b69ccf89ecb7331d286e78e435535d18f4eecd7c1fa407b2d246eb454882631"), looks := true }, kinds := [], alts := [], laidByText := true, laidKinds := [.data, .data, .data, .data, .handle, .sentinel, .sentinel, .pinned], laidTests := true, laidLooks := .later }
def TreeDeepCardSaid : Prop := Claim7.holds Tryz.pinned (.plain (OpenSpec.ofChange treeDeepSpec)) treeDeepCard

/-- THE TIED CARD OF 'pannierlaw05.TreeArgs'. -/
def treeArgsCard : Claim7 := { stood := { row := treeArgsRow, standIns := [], harness := (true, "9b69ccf89ecb7331d286e78e435535d18f4eecd7c1fa407b2d246eb454882631"), looks := true }, kinds := [], alts := [], laidByText := true, laidKinds := [.data, .data, .data, .data, .handle, .sentinel, .sentinel, .pinned], laidTests := true, laidLooks := .later }
def TreeArgsCardSaid : Prop := Claim7.holds Tryz.pinned (.plain (OpenSpec.ofChange treeArgsSpec)) treeArgsCard

/-- THE SECOND FORM's CARD OF 'pannierlaw05.TreeParses'. -/
def treeParsesUptoCard : Claim7 := { stood := { row := treeParsesUptoRow, standIns := [], harness := (true, "9b69ccf89ecb7331d286e78e435535d18f4eecd7c1fa407b2d246eb454882631"), looks := true }, kinds := [], alts := [], laidByText := true, laidKinds := [.data, .data, .data, .data, .handle, .sentinel, .sentinel, .pinned], laidTests := true, laidLooks := .later }
def TreeParsesUptoCardSaid : Prop := Claim7.holds Tryz.pinned (.plain (OpenSpec.upto treeParsesSpec)) treeParsesUptoCard

/-- THE SECOND FORM's CARD OF 'pannierlaw05.TreeTells'. -/
def treeTellsUptoCard : Claim7 := { stood := { row := treeTellsUptoRow, standIns := [], harness := (true, "9b69ccf89ecb7331d286e78e435535d18f4eecd7c1fa407b2d246eb454882631"), looks := true }, kinds := [], alts := [], laidByText := true, laidKinds := [.data, .data, .data, .data, .handle, .sentinel, .sentinel, .pinned], laidTests := true, laidLooks := .later }
def TreeTellsUptoCardSaid : Prop := Claim7.holds Tryz.pinned (.plain (OpenSpec.upto treeTellsSpec)) treeTellsUptoCard

/-- THE SECOND FORM's CARD OF 'pannierlaw05.TreeGood'. -/
def treeGoodUptoCard : Claim7 := { stood := { row := treeGoodUptoRow, standIns := [], harness := (true, "9b69ccf89ecb7331d286e78e435535d18f4eecd7c1fa407b2d246eb454882631"), looks := true }, kinds := [], alts := [], laidByText := true, laidKinds := [.data, .data, .data, .data, .handle, .sentinel, .sentinel, .pinned], laidTests := true, laidLooks := .later }
def TreeGoodUptoCardSaid : Prop := Claim7.holds Tryz.pinned (.plain (OpenSpec.upto treeGoodSpec)) treeGoodUptoCard

/-- THE SECOND FORM's CARD OF 'pannierlaw05.TreeLeft'. -/
def treeLeftUptoCard : Claim7 := { stood := { row := treeLeftUptoRow, standIns := [], harness := (true, "9b69ccf89ecb7331d286e78e435535d18f4eecd7c1fa407b2d246eb454882631"), looks := true }, kinds := [], alts := [], laidByText := true, laidKinds := [.data, .data, .data, .data, .handle, .sentinel, .sentinel, .pinned], laidTests := true, laidLooks := .later }
def TreeLeftUptoCardSaid : Prop := Claim7.holds Tryz.pinned (.plain (OpenSpec.upto treeLeftSpec)) treeLeftUptoCard

/-- THE SECOND FORM's CARD OF 'pannierlaw05.TreeDeep'. -/
def treeDeepUptoCard : Claim7 := { stood := { row := treeDeepUptoRow, standIns := [], harness := (true, "9b69ccf89ecb7331d286e78e435535d18f4eecd7c1fa407b2d246eb454882631"), looks := true }, kinds := [], alts := [], laidByText := true, laidKinds := [.data, .data, .data, .data, .handle, .sentinel, .sentinel, .pinned], laidTests := true, laidLooks := .later }
def TreeDeepUptoCardSaid : Prop := Claim7.holds Tryz.pinned (.plain (OpenSpec.upto treeDeepSpec)) treeDeepUptoCard

/-- THE SECOND FORM's CARD OF 'pannierlaw05.TreeArgs'. -/
def treeArgsUptoCard : Claim7 := { stood := { row := treeArgsUptoRow, standIns := [], harness := (true, "9b69ccf89ecb7331d286e78e435535d18f4eecd7c1fa407b2d246eb454882631"), looks := true }, kinds := [], alts := [], laidByText := true, laidKinds := [.data, .data, .data, .data, .handle, .sentinel, .sentinel, .pinned], laidTests := true, laidLooks := .later }
def TreeArgsUptoCardSaid : Prop := Claim7.holds Tryz.pinned (.plain (OpenSpec.upto treeArgsSpec)) treeArgsUptoCard
end Rows
end Go.Proofs.YtkdgiadpmfpjnaaGreatDoor
