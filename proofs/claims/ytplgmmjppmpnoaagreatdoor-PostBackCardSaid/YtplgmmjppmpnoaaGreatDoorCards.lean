/-
  DERIVED. GIVEN WITH THE SEED: THE CARDS: each row of YtplgmmjppmpnoaaGreatDoorRows.lean that lists a variable, with what it lists TIED to the program's text (the seventh form; the later family's looks); each row that meets fmt, with fmt's text TOLD by the authors' own Lean function (tested against real Go, not proved from fmt's source: count such statements apart). THE CARD IS WHAT COUNTS. Prove the row's statement (the work); the ties are given (YtplgmmjppmpnoaaGreatDoorTie.lean); close each card by the builder's one call (the guide's Derived/Test/ToyasCard.lean, 'card_holds'). Laid BY PROGRAM, IN A SANDBOX (cutbox-door.mjs). By AI agents, Wed Nov 11 2026. No macro, syntax, notation, axiom, sorry.
-/
import Derived.Test.YtplgmmjppmpnoaaGreatDoorRows
import GoSem.ClaimSeven
namespace Go.Proofs.YtplgmmjppmpnoaaGreatDoor
namespace Rows

/-- THE TIED CARD OF 'warrantorlaw14.PostHas'. -/
def postHasCard : Claim7 := { stood := { row := postHasRow, standIns := [], harness := (true, "fb83b16b6bf0d5cd0891b024b3a9c46e1ce50f7099c09e0b756bc5a65793eb0a"), looks := false }, kinds := [], alts := [], laidByText := true, laidKinds := [.data, .data, .data], laidTests := true, laidLooks := .later }
def PostHasCardSaid : Prop := Claim7.holds Tryz.pinned (.plain (OpenSpec.ofChange postHasSpec)) postHasCard

/-- THE TIED CARD OF 'warrantorlaw14.PostBack'. -/
def postBackCard : Claim7 := { stood := { row := postBackRow, standIns := [], harness := (true, "fb83b16b6bf0d5cd0891b024b3a9c46e1ce50f7099c09e0b756bc5a65793eb0a"), looks := false }, kinds := [], alts := [], laidByText := true, laidKinds := [.data, .data, .data], laidTests := true, laidLooks := .later }
def PostBackCardSaid : Prop := Claim7.holds Tryz.pinned (.plain (OpenSpec.ofChange postBackSpec)) postBackCard

/-- THE TIED CARD OF 'warrantorlaw14.PostRises'. -/
def postRisesCard : Claim7 := { stood := { row := postRisesRow, standIns := [], harness := (true, "fb83b16b6bf0d5cd0891b024b3a9c46e1ce50f7099c09e0b756bc5a65793eb0a"), looks := false }, kinds := [], alts := [], laidByText := true, laidKinds := [.data, .data, .data], laidTests := true, laidLooks := .later }
def PostRisesCardSaid : Prop := Claim7.holds Tryz.pinned (.plain (OpenSpec.ofChange postRisesSpec)) postRisesCard

/-- THE SECOND FORM's CARD OF 'warrantorlaw14.PostHas'. -/
def postHasUptoCard : Claim7 := { stood := { row := postHasUptoRow, standIns := [], harness := (true, "fb83b16b6bf0d5cd0891b024b3a9c46e1ce50f7099c09e0b756bc5a65793eb0a"), looks := false }, kinds := [], alts := [], laidByText := true, laidKinds := [.data, .data, .data], laidTests := true, laidLooks := .later }
def PostHasUptoCardSaid : Prop := Claim7.holds Tryz.pinned (.plain (OpenSpec.upto postHasSpec)) postHasUptoCard

/-- THE SECOND FORM's CARD OF 'warrantorlaw14.PostBack'. -/
def postBackUptoCard : Claim7 := { stood := { row := postBackUptoRow, standIns := [], harness := (true, "fb83b16b6bf0d5cd0891b024b3a9c46e1ce50f7099c09e0b756bc5a65793eb0a"), looks := false }, kinds := [], alts := [], laidByText := true, laidKinds := [.data, .data, .data], laidTests := true, laidLooks := .later }
def PostBackUptoCardSaid : Prop := Claim7.holds Tryz.pinned (.plain (OpenSpec.upto postBackSpec)) postBackUptoCard

/-- THE SECOND FORM's CARD OF 'warrantorlaw14.PostRises'. -/
def postRisesUptoCard : Claim7 := { stood := { row := postRisesUptoRow, standIns := [], harness := (true, "fb83b16b6bf0d5cd0891b024b3a9c46e1ce50f7099c09e0b756bc5a65793eb0a"), looks := false }, kinds := [], alts := [], laidByText := true, laidKinds := [.data, .data, .data], laidTests := true, laidLooks := .later }
def PostRisesUptoCardSaid : Prop := Claim7.holds Tryz.pinned (.plain (OpenSpec.upto postRisesSpec)) postRisesUptoCard
end Rows
end Go.Proofs.YtplgmmjppmpnoaaGreatDoor
