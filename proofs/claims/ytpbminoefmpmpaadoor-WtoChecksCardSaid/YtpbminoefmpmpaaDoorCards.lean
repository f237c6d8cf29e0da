/-
  DERIVED. GIVEN WITH THE SEED: THE CARDS: each row of YtpbminoefmpmpaaDoorRows.lean that lists a variable, with what it lists TIED to the program's text (the seventh form; the later family's looks); each row that meets fmt, with fmt's text TOLD by the authors' own Lean function (tested against real Go, not proved from fmt's source: count such statements apart). THE CARD IS WHAT COUNTS. Prove the row's statement (the work); the ties are given (YtpbminoefmpmpaaDoorTie.lean); close each card by the builder's one call (the guide's Derived/Test/ToyasCard.lean, 'card_holds'). Laid BY PROGRAM, IN A SANDBOX (cutbox-door.mjs). By AI agents, Wed Nov 11 2026. No macro, syntax, notation, axiom, sorry.
-/
import Derived.Test.YtpbminoefmpmpaaDoorRows
import GoSem.ClaimSeven
namespace Go.Proofs.YtpbminoefmpmpaaDoor
namespace Rows

/-- THE TIED CARD OF 'warrantorlaw10.WtoChecks'. -/
def wtoChecksCard : Claim7 := { stood := { row := wtoChecksRow, standIns := [], harness := (true, "c819da163c0743c03d8c5bce3383298097475ea5078247542a3b95617ce53ac2"), looks := true }, kinds := [], alts := [], laidByText := true, laidKinds := [.data, .data, .data], laidTests := true, laidLooks := .later }
def WtoChecksCardSaid : Prop := Claim7.holds Tryd.pinned (.plain (OpenSpec.ofChange wtoChecksSpec)) wtoChecksCard

/-- THE TIED CARD OF 'warrantorlaw10.WtoShows'. -/
def wtoShowsCard : Claim7 := { stood := { row := wtoShowsRow, standIns := [], harness := (true, "c819da163c0743c03d8c5bce3383298097475ea5078247542a3b95617ce53ac2"), looks := true }, kinds := [], alts := [], laidByText := true, laidKinds := [.data, .data, .data], laidTests := true, laidLooks := .later }
def WtoShowsCardSaid : Prop := Claim7.holds Tryd.pinned (.plain (OpenSpec.ofChange wtoShowsSpec)) wtoShowsCard

/-- THE TIED CARD OF 'warrantorlaw10.WtoNests'. -/
def wtoNestsCard : Claim7 := { stood := { row := wtoNestsRow, standIns := [], harness := (true, "c819da163c0743c03d8c5bce3383298097475ea5078247542a3b95617ce53ac2"), looks := true }, kinds := [], alts := [], laidByText := true, laidKinds := [.data, .data, .data], laidTests := true, laidLooks := .later }
def WtoNestsCardSaid : Prop := Claim7.holds Tryd.pinned (.plain (OpenSpec.ofChange wtoNestsSpec)) wtoNestsCard

/-- THE SECOND FORM's CARD OF 'warrantorlaw10.WtoChecks'. -/
def wtoChecksUptoCard : Claim7 := { stood := { row := wtoChecksUptoRow, standIns := [], harness := (true, "c819da163c0743c03d8c5bce3383298097475ea5078247542a3b95617ce53ac2"), looks := true }, kinds := [], alts := [], laidByText := true, laidKinds := [.data, .data, .data], laidTests := true, laidLooks := .later }
def WtoChecksUptoCardSaid : Prop := Claim7.holds Tryd.pinned (.plain (OpenSpec.upto wtoChecksSpec)) wtoChecksUptoCard

/-- THE SECOND FORM's CARD OF 'warrantorlaw10.WtoShows'. -/
def wtoShowsUptoCard : Claim7 := { stood := { row := wtoShowsUptoRow, standIns := [], harness := (true, "c819da163c0743c03d8c5bce3383298097475ea5078247542a3b95617ce53ac2"), looks := true }, kinds := [], alts := [], laidByText := true, laidKinds := [.data, .data, .data], laidTests := true, laidLooks := .later }
def WtoShowsUptoCardSaid : Prop := Claim7.holds Tryd.pinned (.plain (OpenSpec.upto wtoShowsSpec)) wtoShowsUptoCard

/-- THE SECOND FORM's CARD OF 'warrantorlaw10.WtoNests'. -/
def wtoNestsUptoCard : Claim7 := { stood := { row := wtoNestsUptoRow, standIns := [], harness := (true, "c819da163c0743c03d8c5bce3383298097475ea5078247542a3b95617ce53ac2"), looks := true }, kinds := [], alts := [], laidByText := true, laidKinds := [.data, .data, .data], laidTests := true, laidLooks := .later }
def WtoNestsUptoCardSaid : Prop := Claim7.holds Tryd.pinned (.plain (OpenSpec.upto wtoNestsSpec)) wtoNestsUptoCard
end Rows
end Go.Proofs.YtpbminoefmpmpaaDoor
