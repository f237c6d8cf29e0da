/-
  DERIVED. GIVEN WITH THE SEED: THE CARDS: each row of YtplgmmjppmpnoaaDoorRows.lean that lists a variable, with what it lists TIED to the program's text (the seventh form; the later family's looks); each row that meets fmt, with fmt's text TOLD by the authors' own Lean function (tested against real Go, not proved from fmt's source: count such statements apart). THE CARD IS WHAT COUNTS. Prove the row's statement (the work); the ties are given (YtplgmmjppmpnoaaDoorTie.lean); close each card by the builder's one call (the guide's Derived/Test/ToyasCard.lean, 'card_holds'). Laid BY PROGRAM, IN A SANDBOX (cutbox-door.mjs). By AI agents, Wed Nov 11 2026. No macro, syntax, notation, axiom, sorry.
-/
import Derived.Test.YtplgmmjppmpnoaaDoorRows
import GoSem.ClaimSeven
namespace Go.Proofs.YtplgmmjppmpnoaaDoor
namespace Rows

/-- THE TIED CARD OF 'warrantorlaw14.PostTells'. -/
def postTellsCard : Claim7 := { stood := { row := postTellsRow, standIns := [], harness := (true, "6532f999d583e4226d747f697a66a7a702dd6efcd77ac5a9e5749a9ec14cc55f"), looks := false }, kinds := [], alts := [], laidByText := true, laidKinds := [.data, .data, .data], laidTests := true, laidLooks := .later }
def PostTellsCardSaid : Prop := Claim7.holds Tryd.pinned (.plain (OpenSpec.ofChange postTellsSpec)) postTellsCard

/-- THE SECOND FORM's CARD OF 'warrantorlaw14.PostTells'. -/
def postTellsUptoCard : Claim7 := { stood := { row := postTellsUptoRow, standIns := [], harness := (true, "6532f999d583e4226d747f697a66a7a702dd6efcd77ac5a9e5749a9ec14cc55f"), looks := false }, kinds := [], alts := [], laidByText := true, laidKinds := [.data, .data, .data], laidTests := true, laidLooks := .later }
def PostTellsUptoCardSaid : Prop := Claim7.holds Tryd.pinned (.plain (OpenSpec.upto postTellsSpec)) postTellsUptoCard
end Rows
end Go.Proofs.YtplgmmjppmpnoaaDoor
