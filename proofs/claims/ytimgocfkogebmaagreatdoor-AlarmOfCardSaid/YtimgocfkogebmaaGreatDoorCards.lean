/-
  DERIVED. GIVEN WITH THE SEED: THE CARDS: each row of YtimgocfkogebmaaGreatDoorRows.lean that lists a variable, with what it lists TIED to the program's text (the seventh form; the later family's looks); each row that meets fmt, with fmt's text TOLD by the authors' own Lean function (tested against real Go, not proved from fmt's source: count such statements apart). THE CARD IS WHAT COUNTS. Prove the row's statement (the work); the ties are given (YtimgocfkogebmaaGreatDoorTie.lean); close each card by the builder's one call (the guide's Derived/Test/ToyasCard.lean, 'card_holds'). Laid BY PROGRAM, IN A SANDBOX (cutbox-door.mjs). By AI agents, Wed Nov 11 2026. No macro, syntax, notation, axiom, sorry.
-/
import Derived.Test.YtimgocfkogebmaaGreatDoorRows
import GoSem.ClaimSeven
namespace Go.Proofs.YtimgocfkogebmaaGreatDoor
namespace Rows

/-- THE TIED CARD OF 'warrantorlaw17.AlarmChecks'. -/
def alarmChecksCard : Claim7 := { stood := { row := alarmChecksRow, standIns := [], harness := (true, "5bbd808327469b1bb7eb736abb99048c9e625a79b02382035af60c7060f21c29"), looks := false }, kinds := [], alts := [], laidByText := true, laidKinds := [.data, .data, .data], laidTests := true, laidLooks := .later }
def AlarmChecksCardSaid : Prop := Claim7.holds Tryz.pinned (.plain (OpenSpec.ofChange alarmChecksSpec)) alarmChecksCard

/-- THE TIED CARD OF 'warrantorlaw17.AlarmOf'. -/
def alarmOfCard : Claim7 := { stood := { row := alarmOfRow, standIns := [], harness := (true, "5bbd808327469b1bb7eb736abb99048c9e625a79b02382035af60c7060f21c29"), looks := false }, kinds := [], alts := [], laidByText := true, laidKinds := [.data, .data, .data], laidTests := true, laidLooks := .later }
def AlarmOfCardSaid : Prop := Claim7.holds Tryz.pinned (.plain (OpenSpec.ofChange alarmOfSpec)) alarmOfCard

/-- THE TIED CARD OF 'warrantorlaw17.AlarmFaults'. -/
def alarmFaultsCard : Claim7 := { stood := { row := alarmFaultsRow, standIns := [], harness := (true, "5bbd808327469b1bb7eb736abb99048c9e625a79b02382035af60c7060f21c29"), looks := false }, kinds := [], alts := [], laidByText := true, laidKinds := [.data, .data, .data], laidTests := true, laidLooks := .later }
def AlarmFaultsCardSaid : Prop := Claim7.holds Tryz.pinned (.plain (OpenSpec.ofChange alarmFaultsSpec)) alarmFaultsCard

/-- THE TIED CARD OF 'warrantorlaw17.AlarmOrder'. -/
def alarmOrderCard : Claim7 := { stood := { row := alarmOrderRow, standIns := [], harness := (true, "5bbd808327469b1bb7eb736abb99048c9e625a79b02382035af60c7060f21c29"), looks := false }, kinds := [], alts := [], laidByText := true, laidKinds := [.data, .data, .data], laidTests := true, laidLooks := .later }
def AlarmOrderCardSaid : Prop := Claim7.holds Tryz.pinned (.plain (OpenSpec.ofChange alarmOrderSpec)) alarmOrderCard

/-- THE SECOND FORM's CARD OF 'warrantorlaw17.AlarmChecks'. -/
def alarmChecksUptoCard : Claim7 := { stood := { row := alarmChecksUptoRow, standIns := [], harness := (true, "5bbd808327469b1bb7eb736abb99048c9e625a79b02382035af60c7060f21c29"), looks := false }, kinds := [], alts := [], laidByText := true, laidKinds := [.data, .data, .data], laidTests := true, laidLooks := .later }
def AlarmChecksUptoCardSaid : Prop := Claim7.holds Tryz.pinned (.plain (OpenSpec.upto alarmChecksSpec)) alarmChecksUptoCard

/-- THE SECOND FORM's CARD OF 'warrantorlaw17.AlarmOf'. -/
def alarmOfUptoCard : Claim7 := { stood := { row := alarmOfUptoRow, standIns := [], harness := (true, "5bbd808327469b1bb7eb736abb99048c9e625a79b02382035af60c7060f21c29"), looks := false }, kinds := [], alts := [], laidByText := true, laidKinds := [.data, .data, .data], laidTests := true, laidLooks := .later }
def AlarmOfUptoCardSaid : Prop := Claim7.holds Tryz.pinned (.plain (OpenSpec.upto alarmOfSpec)) alarmOfUptoCard

/-- THE SECOND FORM's CARD OF 'warrantorlaw17.AlarmFaults'. -/
def alarmFaultsUptoCard : Claim7 := { stood := { row := alarmFaultsUptoRow, standIns := [], harness := (true, "5bbd808327469b1bb7eb736abb99048c9e625a79b02382035af60c7060f21c29"), looks := false }, kinds := [], alts := [], laidByText := true, laidKinds := [.data, .data, .data], laidTests := true, laidLooks := .later }
def AlarmFaultsUptoCardSaid : Prop := Claim7.holds Tryz.pinned (.plain (OpenSpec.upto alarmFaultsSpec)) alarmFaultsUptoCard

/-- THE SECOND FORM's CARD OF 'warrantorlaw17.AlarmOrder'. -/
def alarmOrderUptoCard : Claim7 := { stood := { row := alarmOrderUptoRow, standIns := [], harness := (true, "5bbd808327469b1bb7eb736abb99048c9e625a79b02382035af60c7060f21c29"), looks := false }, kinds := [], alts := [], laidByText := true, laidKinds := [.data, .data, .data], laidTests := true, laidLooks := .later }
def AlarmOrderUptoCardSaid : Prop := Claim7.holds Tryz.pinned (.plain (OpenSpec.upto alarmOrderSpec)) alarmOrderUptoCard
end Rows
end Go.Proofs.YtimgocfkogebmaaGreatDoor
