/-
  DERIVED. GIVEN WITH THE SEED: THE CARDS: each row of YtknnjkhocbpohaaDoorRows.lean that lists a variable, with what it lists TIED to the program's text (the seventh form; the later family's looks); each row that meets fmt, with fmt's text TOLD by the authors' own Lean function (tested against real Go, not proved from fmt's source: count such statements apart). THE CARD IS WHAT COUNTS. Prove the row's statement (the work); the ties are given (YtknnjkhocbpohaaDoorTie.lean); close each card by the builder's one call (the guide's Derived/Test/ToyasCard.lean, 'card_holds'). Laid BY PROGRAM, IN A SANDBOX (cutbox-door.mjs). By AI agents, Wed Nov 11 2026. No macro, syntax, notation, axiom, sorry.
-/
import Derived.Test.YtknnjkhocbpohaaDoorRows
import GoSem.ClaimSeven
namespace Go.Proofs.YtknnjkhocbpohaaDoor
namespace Rows

/-- THE TIED CARD OF 'warrantorlaw32.AskChecks'. -/
def askChecksCard : Claim7 := { stood := { row := askChecksRow, standIns := [], harness := (true, "8ae07e620d47e8c1ce26176689d45c8b2861b7deecf9c2a18e98a8a9053da6ad"), looks := false }, kinds := [], alts := [], laidByText := true, laidKinds := [.data, .data, .data], laidTests := true, laidLooks := .later }
def AskChecksCardSaid : Prop := Claim7.holds Tryd.pinned (.plain (OpenSpec.ofChange askChecksSpec)) askChecksCard

/-- THE TIED CARD OF 'warrantorlaw32.AskParts'. -/
def askPartsCard : Claim7 := { stood := { row := askPartsRow, standIns := [], harness := (true, "8ae07e620d47e8c1ce26176689d45c8b2861b7deecf9c2a18e98a8a9053da6ad"), looks := false }, kinds := [], alts := [], laidByText := true, laidKinds := [.data, .data, .data], laidTests := true, laidLooks := .later }
def AskPartsCardSaid : Prop := Claim7.holds Tryd.pinned (.plain (OpenSpec.ofChange askPartsSpec)) askPartsCard

/-- THE TIED CARD OF 'warrantorlaw32.AskNots'. -/
def askNotsCard : Claim7 := { stood := { row := askNotsRow, standIns := [], harness := (true, "8ae07e620d47e8c1ce26176689d45c8b2861b7deecf9c2a18e98a8a9053da6ad"), looks := false }, kinds := [], alts := [], laidByText := true, laidKinds := [.data, .data, .data], laidTests := true, laidLooks := .later }
def AskNotsCardSaid : Prop := Claim7.holds Tryd.pinned (.plain (OpenSpec.ofChange askNotsSpec)) askNotsCard

/-- THE TIED CARD OF 'warrantorlaw32.AskDeep'. -/
def askDeepCard : Claim7 := { stood := { row := askDeepRow, standIns := [], harness := (true, "8ae07e620d47e8c1ce26176689d45c8b2861b7deecf9c2a18e98a8a9053da6ad"), looks := false }, kinds := [], alts := [], laidByText := true, laidKinds := [.data, .data, .data], laidTests := true, laidLooks := .later }
def AskDeepCardSaid : Prop := Claim7.holds Tryd.pinned (.plain (OpenSpec.ofChange askDeepSpec)) askDeepCard

/-- THE SECOND FORM's CARD OF 'warrantorlaw32.AskChecks'. -/
def askChecksUptoCard : Claim7 := { stood := { row := askChecksUptoRow, standIns := [], harness := (true, "8ae07e620d47e8c1ce26176689d45c8b2861b7deecf9c2a18e98a8a9053da6ad"), looks := false }, kinds := [], alts := [], laidByText := true, laidKinds := [.data, .data, .data], laidTests := true, laidLooks := .later }
def AskChecksUptoCardSaid : Prop := Claim7.holds Tryd.pinned (.plain (OpenSpec.upto askChecksSpec)) askChecksUptoCard

/-- THE SECOND FORM's CARD OF 'warrantorlaw32.AskParts'. -/
def askPartsUptoCard : Claim7 := { stood := { row := askPartsUptoRow, standIns := [], harness := (true, "8ae07e620d47e8c1ce26176689d45c8b2861b7deecf9c2a18e98a8a9053da6ad"), looks := false }, kinds := [], alts := [], laidByText := true, laidKinds := [.data, .data, .data], laidTests := true, laidLooks := .later }
def AskPartsUptoCardSaid : Prop := Claim7.holds Tryd.pinned (.plain (OpenSpec.upto askPartsSpec)) askPartsUptoCard

/-- THE SECOND FORM's CARD OF 'warrantorlaw32.AskNots'. -/
def askNotsUptoCard : Claim7 := { stood := { row := askNotsUptoRow, standIns := [], harness := (true, "8ae07e620d47e8c1ce26176689d45c8b2861b7deecf9c2a18e98a8a9053da6ad"), looks := false }, kinds := [], alts := [], laidByText := true, laidKinds := [.data, .data, .data], laidTests := true, laidLooks := .later }
def AskNotsUptoCardSaid : Prop := Claim7.holds Tryd.pinned (.plain (OpenSpec.upto askNotsSpec)) askNotsUptoCard

/-- THE SECOND FORM's CARD OF 'warrantorlaw32.AskDeep'. -/
def askDeepUptoCard : Claim7 := { stood := { row := askDeepUptoRow, standIns := [], harness := (true, "8ae07e620d47e8c1ce26176689d45c8b2861b7deecf9c2a18e98a8a9053da6ad"), looks := false }, kinds := [], alts := [], laidByText := true, laidKinds := [.data, .data, .data], laidTests := true, laidLooks := .later }
def AskDeepUptoCardSaid : Prop := Claim7.holds Tryd.pinned (.plain (OpenSpec.upto askDeepSpec)) askDeepUptoCard
end Rows
end Go.Proofs.YtknnjkhocbpohaaDoor
