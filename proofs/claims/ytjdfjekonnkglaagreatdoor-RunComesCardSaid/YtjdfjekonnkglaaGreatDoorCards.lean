/-
  DERIVED. GIVEN WITH THE SEED: THE CARDS: each row of YtjdfjekonnkglaaGreatDoorRows.lean that lists a variable, with what it lists TIED to the program's text (the seventh form; the later family's looks); each row that meets fmt, with fmt's text TOLD by the authors' own Lean function (tested against real Go, not proved from fmt's source: count such statements apart). THE CARD IS WHAT COUNTS. Prove the row's statement (the work); the ties are given (YtjdfjekonnkglaaGreatDoorTie.lean); close each card by the builder's one call (the guide's Derived/Test/ToyasCard.lean, 'card_holds'). Laid BY PROGRAM, IN A SANDBOX (cutbox-door.mjs). By AI agents, Wed Nov 11 2026. No macro, syntax, notation, axiom, sorry.
-/
import Derived.Test.YtjdfjekonnkglaaGreatDoorRows
import GoSem.ClaimSeven
namespace Go.Proofs.YtjdfjekonnkglaaGreatDoor
namespace Rows

/-- THE TIED CARD OF 'warrantorlaw13.RunComes'. -/
def runComesCard : Claim7 := { stood := { row := runComesRow, standIns := [], harness := (true, "335486014cbeac9c1cee61f6320974b0373d4a65e485f7c533d37807add386f0"), looks := false }, kinds := [], alts := [], laidByText := true, laidKinds := [.data, .data, .data], laidTests := true, laidLooks := .later }
def RunComesCardSaid : Prop := Claim7.holds Tryz.pinned (.plain (OpenSpec.ofChange runComesSpec)) runComesCard

/-- THE SECOND FORM's CARD OF 'warrantorlaw13.RunComes'. -/
def runComesUptoCard : Claim7 := { stood := { row := runComesUptoRow, standIns := [], harness := (true, "335486014cbeac9c1cee61f6320974b0373d4a65e485f7c533d37807add386f0"), looks := false }, kinds := [], alts := [], laidByText := true, laidKinds := [.data, .data, .data], laidTests := true, laidLooks := .later }
def RunComesUptoCardSaid : Prop := Claim7.holds Tryz.pinned (.plain (OpenSpec.upto runComesSpec)) runComesUptoCard
end Rows
end Go.Proofs.YtjdfjekonnkglaaGreatDoor
