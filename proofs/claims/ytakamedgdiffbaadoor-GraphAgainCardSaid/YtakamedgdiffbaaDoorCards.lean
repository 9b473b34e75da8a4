/-
  DERIVED. GIVEN WITH THE SEED: THE CARDS: each row of YtakamedgdiffbaaDoorRows.lean that lists a variable, with what it lists TIED to the program's text (the seventh form; the later family's looks); each row that meets fmt, with fmt's text TOLD by the authors' own Lean function (tested against real Go, not proved from fmt's source: count such statements apart). THE CARD IS WHAT COUNTS. Prove the row's statement (the work); the ties are given (YtakamedgdiffbaaDoorTie.lean); close each card by the builder's one call (the guide's Derived/Test/ToyasCard.lean, 'card_holds'). Laid BY PROGRAM, IN A SANDBOX (cutbox-door.mjs). By AI agents, Wed Nov 11 2026. No macro, syntax, notation, axiom, sorry.
-/
import Derived.Test.YtakamedgdiffbaaDoorRows
import GoSem.ClaimSeven
namespace Go.Proofs.YtakamedgdiffbaaDoor
namespace Rows

/-- THE TIED CARD OF 'pannierlaw13.GraphAgain'. -/
def graphAgainCard : Claim7 := { stood := { row := graphAgainRow, standIns := [], harness := (true, "984ac8c4d77313dae899abb08f04d45e6acd13d8efc2613a2396f3656f829e80"), looks := false }, kinds := [], alts := [], laidByText := true, laidKinds := [.data], laidTests := true, laidLooks := .later }
def GraphAgainCardSaid : Prop := Claim7.holds Tryd.pinned (.plain (OpenSpec.ofChange graphAgainSpec)) graphAgainCard

/-- THE TIED CARD OF 'pannierlaw13.GraphNone'. -/
def graphNoneCard : Claim7 := { stood := { row := graphNoneRow, standIns := [], harness := (true, "984ac8c4d77313dae899abb08f04d45e6acd13d8efc2613a2396f3656f829e80"), looks := false }, kinds := [], alts := [], laidByText := true, laidKinds := [.data], laidTests := true, laidLooks := .later }
def GraphNoneCardSaid : Prop := Claim7.holds Tryd.pinned (.plain (OpenSpec.ofChange graphNoneSpec)) graphNoneCard

/-- THE TIED CARD OF 'pannierlaw13.GraphRing'. -/
def graphRingCard : Claim7 := { stood := { row := graphRingRow, standIns := [], harness := (true, "984ac8c4d77313dae899abb08f04d45e6acd13d8efc2613a2396f3656f829e80"), looks := false }, kinds := [], alts := [], laidByText := true, laidKinds := [.data], laidTests := true, laidLooks := .later }
def GraphRingCardSaid : Prop := Claim7.holds Tryd.pinned (.plain (OpenSpec.ofChange graphRingSpec)) graphRingCard

/-- THE SECOND FORM's CARD OF 'pannierlaw13.GraphAgain'. -/
def graphAgainUptoCard : Claim7 := { stood := { row := graphAgainUptoRow, standIns := [], harness := (true, "984ac8c4d77313dae899abb08f04d45e6acd13d8efc2613a2396f3656f829e80"), looks := false }, kinds := [], alts := [], laidByText := true, laidKinds := [.data], laidTests := true, laidLooks := .later }
def GraphAgainUptoCardSaid : Prop := Claim7.holds Tryd.pinned (.plain (OpenSpec.upto graphAgainSpec)) graphAgainUptoCard

/-- THE SECOND FORM's CARD OF 'pannierlaw13.GraphNone'. -/
def graphNoneUptoCard : Claim7 := { stood := { row := graphNoneUptoRow, standIns := [], harness := (true, "984ac8c4d77313dae899abb08f04d45e6acd13d8efc2613a2396f3656f829e80"), looks := false }, kinds := [], alts := [], laidByText := true, laidKinds := [.data], laidTests := true, laidLooks := .later }
def GraphNoneUptoCardSaid : Prop := Claim7.holds Tryd.pinned (.plain (OpenSpec.upto graphNoneSpec)) graphNoneUptoCard

/-- THE SECOND FORM's CARD OF 'pannierlaw13.GraphRing'. -/
def graphRingUptoCard : Claim7 := { stood := { row := graphRingUptoRow, standIns := [], harness := (true, "984ac8c4d77313dae899abb08f04d45e6acd13d8efc2613a2396f3656f829e80"), looks := false }, kinds := [], alts := [], laidByText := true, laidKinds := [.data], laidTests := true, laidLooks := .later }
def GraphRingUptoCardSaid : Prop := Claim7.holds Tryd.pinned (.plain (OpenSpec.upto graphRingSpec)) graphRingUptoCard
end Rows
end Go.Proofs.YtakamedgdiffbaaDoor
