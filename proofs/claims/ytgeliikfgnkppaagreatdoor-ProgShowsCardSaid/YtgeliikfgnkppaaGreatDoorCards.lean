/-
  DERIVED. GIVEN WITH THE SEED: THE CARDS: each row of YtgeliikfgnkppaaGreatDoorRows.lean that lists a variable, with what it lists TIED to the program's text (the seventh form; the later family's looks); each row that meets fmt, with fmt's text TOLD by the authors' own Lean function (tested against real Go, not proved from fmt's source: count such statements apart). THE CARD IS WHAT COUNTS. Prove the row's statement (the work); the ties are given (YtgeliikfgnkppaaGreatDoorTie.lean); close each card by the builder's one call (the guide's Derived/Test/ToyasCard.lean, 'card_holds'). Laid BY PROGRAM, IN A SANDBOX (cutbox-door.mjs). By AI agents, Wed Nov 11 2026. No macro, syntax, notation, axiom, sorry.
-/
import Derived.Test.YtgeliikfgnkppaaGreatDoorRows
import GoSem.ClaimSeven
namespace Go.Proofs.YtgeliikfgnkppaaGreatDoor
namespace Rows

/-- THE TIED CARD OF 'warrantorlaw11.ProgChecks'. -/
def progChecksCard : Claim7 := { stood := { row := progChecksRow, standIns := [], harness := (true, "b492a27cc87d62c19733711e10156ce5536dcc4ec9ecb85d876f42130b64cb79"), looks := true }, kinds := [], alts := [], laidByText := true, laidKinds := [.data, .data, .data], laidTests := true, laidLooks := .later }
def ProgChecksCardSaid : Prop := Claim7.holds Tryz.pinned (.plain (OpenSpec.ofChange progChecksSpec)) progChecksCard

/-- THE TIED CARD OF 'warrantorlaw11.ProgShows'. -/
def progShowsCard : Claim7 := { stood := { row := progShowsRow, standIns := [], harness := (true, "b492a27cc87d62c19733711e10156ce5536dcc4ec9ecb85d876f42130b64cb79"), looks := true }, kinds := [], alts := [], laidByText := true, laidKinds := [.data, .data, .data], laidTests := true, laidLooks := .later }
def ProgShowsCardSaid : Prop := Claim7.holds Tryz.pinned (.plain (OpenSpec.ofChange progShowsSpec)) progShowsCard

/-- THE TIED CARD OF 'warrantorlaw11.ProgParses'. -/
def progParsesCard : Claim7 := { stood := { row := progParsesRow, standIns := [], harness := (true, "b492a27cc87d62c19733711e10156ce5536dcc4ec9ecb85d876f42130b64cb79"), looks := true }, kinds := [], alts := [], laidByText := true, laidKinds := [.data, .data, .data], laidTests := true, laidLooks := .later }
def ProgParsesCardSaid : Prop := Claim7.holds Tryz.pinned (.plain (OpenSpec.ofChange progParsesSpec)) progParsesCard

/-- THE TIED CARD OF 'warrantorlaw11.ProgReaches'. -/
def progReachesCard : Claim7 := { stood := { row := progReachesRow, standIns := [], harness := (true, "b492a27cc87d62c19733711e10156ce5536dcc4ec9ecb85d876f42130b64cb79"), looks := true }, kinds := [], alts := [], laidByText := true, laidKinds := [.data, .data, .data], laidTests := true, laidLooks := .later }
def ProgReachesCardSaid : Prop := Claim7.holds Tryz.pinned (.plain (OpenSpec.ofChange progReachesSpec)) progReachesCard

/-- THE SECOND FORM's CARD OF 'warrantorlaw11.ProgChecks'. -/
def progChecksUptoCard : Claim7 := { stood := { row := progChecksUptoRow, standIns := [], harness := (true, "b492a27cc87d62c19733711e10156ce5536dcc4ec9ecb85d876f42130b64cb79"), looks := true }, kinds := [], alts := [], laidByText := true, laidKinds := [.data, .data, .data], laidTests := true, laidLooks := .later }
def ProgChecksUptoCardSaid : Prop := Claim7.holds Tryz.pinned (.plain (OpenSpec.upto progChecksSpec)) progChecksUptoCard

/-- THE SECOND FORM's CARD OF 'warrantorlaw11.ProgShows'. -/
def progShowsUptoCard : Claim7 := { stood := { row := progShowsUptoRow, standIns := [], harness := (true, "b492a27cc87d62c19733711e10156ce5536dcc4ec9ecb85d876f42130b64cb79"), looks := true }, kinds := [], alts := [], laidByText := true, laidKinds := [.data, .data, .data], laidTests := true, laidLooks := .later }
def ProgShowsUptoCardSaid : Prop := Claim7.holds Tryz.pinned (.plain (OpenSpec.upto progShowsSpec)) progShowsUptoCard

/-- THE SECOND FORM's CARD OF 'warrantorlaw11.ProgParses'. -/
def progParsesUptoCard : Claim7 := { stood := { row := progParsesUptoRow, standIns := [], harness := (true, "b492a27cc87d62c19733711e10156ce5536dcc4ec9ecb85d876f42130b64cb79"), looks := true }, kinds := [], alts := [], laidByText := true, laidKinds := [.data, .data, .data], laidTests := true, laidLooks := .later }
def ProgParsesUptoCardSaid : Prop := Claim7.holds Tryz.pinned (.plain (OpenSpec.upto progParsesSpec)) progParsesUptoCard

/-- THE SECOND FORM's CARD OF 'warrantorlaw11.ProgReaches'. -/
def progReachesUptoCard : Claim7 := { stood := { row := progReachesUptoRow, standIns := [], harness := (true, "b492a27cc87d62c19733711e10156ce5536dcc4ec9ecb85d876f42130b64cb79"), looks := true }, kinds := [], alts := [], laidByText := true, laidKinds := [.data, .data, .data], laidTests := true, laidLooks := .later }
def ProgReachesUptoCardSaid : Prop := Claim7.holds Tryz.pinned (.plain (OpenSpec.upto progReachesSpec)) progReachesUptoCard
end Rows
end Go.Proofs.YtgeliikfgnkppaaGreatDoor
