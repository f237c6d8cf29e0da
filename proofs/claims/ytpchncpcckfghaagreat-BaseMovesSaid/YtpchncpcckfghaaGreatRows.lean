/-
  No cell of these rows narrows 'for every input' (looked for: loops, veiled, ifaces, maps, wideKeys, modest, calm, conditions, laid).
  DERIVED. THE GIVEN ROWS OF THIS SEAT. 5 by the template 'for every input the law returns true; each argument reads behind the call as it read before'; 0 by the template 'total and deterministic' (their statements: YtpchncpcckfghaaGreatTotals.lean).
  GIVEN WITH THE SEED: the statements are not yours to turn. If you find one false, say at which input.
  Laid BY PROGRAM, IN A SANDBOX (cutbox-rows.mjs): the forced cells as the released guide's own fill.sh prints them over the translation ef3eb82acb829608… (all of the seat's roots in one cut). By AI agents, Wed Nov 11 2026. No macro, syntax, notation, axiom, sorry.
-/
import Derived.Test.YtpchncpcckfghaaGreatChecked
import GoSem.Claim
import GoSem.ClaimJoined
import GoSem.ClaimMapViews
import Derived.JoinedTies
import Derived.KernelRfl
namespace Go.Proofs.YtpchncpcckfghaaGreat
/- THE CELL 'sum', in the pinned program and in every row, IS THE sha256 OF THE DUMP (.gsa) THAT YtpchncpcckfghaaGreatProg.lean LOADS. Nothing in Lean hashes anything: it is a label: what it is worth is what the hold of that sum in a sandbox is worth. -/
noncomputable def Tryz.pinned : Pinned := { name := "ytpchncpcckfghaagreat", sum := "ef3eb82acb829608f35f7def6d0afd220d894bcaf8d383037a98be75b546eea1", checked := Tryz.checked }
namespace Rows
def none {H : Type} : Left H := { results := [], args := [] }

/-- 'warrantorlaw25.BaseMatches': WHATEVER THE INPUT: true; the input reads as it did. -/
def baseMatchesSpec : ChangeSpec := { name := "baseMatches", fn := fun _ => fun
  | [d1, d2] => { results := [.lit (.bool true)], args := [d1, d2] }
  | _ => none }
def baseMatchesRow : OpenClaim := { program := "ytpchncpcckfghaagreat", sum := "ef3eb82acb829608f35f7def6d0afd220d894bcaf8d383037a98be75b546eea1", func := "warrantor/warrantorlaw25.BaseMatches", spec := "baseMatches", inPlace := ["internal/abi.NoEscape"], unfollowed := true, recurses := true, apart := false }
def BaseMatchesSaid : Prop := baseMatchesRow.holds Tryz.pinned (OpenSpec.ofChange baseMatchesSpec)

/-- ITS FALSE NEIGHBOUR: 'it returns false'. Refute it at one input. -/
def baseMatchesWrong : ChangeSpec := { name := "baseMatches", fn := fun _ => fun
  | [d1, d2] => { results := [.lit (.bool false)], args := [d1, d2] }
  | _ => none }
def BaseMatchesWrongFalsely : Prop := baseMatchesRow.holds Tryz.pinned (OpenSpec.ofChange baseMatchesWrong)

/-- 'warrantorlaw25.BaseSums': WHATEVER THE INPUT: true; the input reads as it did. -/
def baseSumsSpec : ChangeSpec := { name := "baseSums", fn := fun _ => fun
  | [d1, d2, d3] => { results := [.lit (.bool true)], args := [d1, d2, d3] }
  | _ => none }
def baseSumsRow : OpenClaim := { program := "ytpchncpcckfghaagreat", sum := "ef3eb82acb829608f35f7def6d0afd220d894bcaf8d383037a98be75b546eea1", func := "warrantor/warrantorlaw25.BaseSums", spec := "baseSums", inPlace := ["internal/abi.NoEscape"], unfollowed := true, recurses := true, apart := false }
def BaseSumsSaid : Prop := baseSumsRow.holds Tryz.pinned (OpenSpec.ofChange baseSumsSpec)

/-- ITS FALSE NEIGHBOUR: 'it returns false'. Refute it at one input. -/
def baseSumsWrong : ChangeSpec := { name := "baseSums", fn := fun _ => fun
  | [d1, d2, d3] => { results := [.lit (.bool false)], args := [d1, d2, d3] }
  | _ => none }
def BaseSumsWrongFalsely : Prop := baseSumsRow.holds Tryz.pinned (OpenSpec.ofChange baseSumsWrong)

/-- 'warrantorlaw25.BaseMany': WHATEVER THE INPUT: true; the input reads as it did. -/
def baseManySpec : ChangeSpec := { name := "baseMany", fn := fun _ => fun
  | [d1, d2, d3] => { results := [.lit (.bool true)], args := [d1, d2, d3] }
  | _ => none }
def baseManyRow : OpenClaim := { program := "ytpchncpcckfghaagreat", sum := "ef3eb82acb829608f35f7def6d0afd220d894bcaf8d383037a98be75b546eea1", func := "warrantor/warrantorlaw25.BaseMany", spec := "baseMany", inPlace := ["internal/abi.NoEscape"], unfollowed := true, recurses := true, apart := false }
def BaseManySaid : Prop := baseManyRow.holds Tryz.pinned (OpenSpec.ofChange baseManySpec)

/-- ITS FALSE NEIGHBOUR: 'it returns false'. Refute it at one input. -/
def baseManyWrong : ChangeSpec := { name := "baseMany", fn := fun _ => fun
  | [d1, d2, d3] => { results := [.lit (.bool false)], args := [d1, d2, d3] }
  | _ => none }
def BaseManyWrongFalsely : Prop := baseManyRow.holds Tryz.pinned (OpenSpec.ofChange baseManyWrong)

/-- 'warrantorlaw25.BaseOf': WHATEVER THE INPUT: true; the input reads as it did. -/
def baseOfSpec : ChangeSpec := { name := "baseOf", fn := fun _ => fun
  | [d1, d2] => { results := [.lit (.bool true)], args := [d1, d2] }
  | _ => none }
def baseOfRow : OpenClaim := { program := "ytpchncpcckfghaagreat", sum := "ef3eb82acb829608f35f7def6d0afd220d894bcaf8d383037a98be75b546eea1", func := "warrantor/warrantorlaw25.BaseOf", spec := "baseOf", inPlace := ["internal/abi.NoEscape"], unfollowed := true, recurses := true, apart := false }
def BaseOfSaid : Prop := baseOfRow.holds Tryz.pinned (OpenSpec.ofChange baseOfSpec)

/-- ITS FALSE NEIGHBOUR: 'it returns false'. Refute it at one input. -/
def baseOfWrong : ChangeSpec := { name := "baseOf", fn := fun _ => fun
  | [d1, d2] => { results := [.lit (.bool false)], args := [d1, d2] }
  | _ => none }
def BaseOfWrongFalsely : Prop := baseOfRow.holds Tryz.pinned (OpenSpec.ofChange baseOfWrong)

/-- 'warrantorlaw25.BaseMoves': WHATEVER THE INPUT: true; the input reads as it did. -/
def baseMovesSpec : ChangeSpec := { name := "baseMoves", fn := fun _ => fun
  | [d1, d2, d3, d4, d5] => { results := [.lit (.bool true)], args := [d1, d2, d3, d4, d5] }
  | _ => none }
def baseMovesRow : OpenClaim := { program := "ytpchncpcckfghaagreat", sum := "ef3eb82acb829608f35f7def6d0afd220d894bcaf8d383037a98be75b546eea1", func := "warrantor/warrantorlaw25.BaseMoves", spec := "baseMoves", inPlace := ["internal/abi.NoEscape"], unfollowed := true, recurses := true, apart := false }
def BaseMovesSaid : Prop := baseMovesRow.holds Tryz.pinned (OpenSpec.ofChange baseMovesSpec)

/-- ITS FALSE NEIGHBOUR: 'it returns false'. Refute it at one input. -/
def baseMovesWrong : ChangeSpec := { name := "baseMoves", fn := fun _ => fun
  | [d1, d2, d3, d4, d5] => { results := [.lit (.bool false)], args := [d1, d2, d3, d4, d5] }
  | _ => none }
def BaseMovesWrongFalsely : Prop := baseMovesRow.holds Tryz.pinned (OpenSpec.ofChange baseMovesWrong)

/- THE SECOND FORM. 'bulk': how many values and letters a reading holds, each counted each time it is reached (what is shared counts as often as it is met; a slice's spare places count too). A statement '..UptoSaid' is the law's where the arguments, and the package variables that the reading takes, are together of bulk at most 1048576: NARROWER than '..Said'. Prove '..Said' where nothing that the law and all that it calls make is longer than what came in: it says more and counts as full. Else prove '..UptoSaid'. A law counts once. -/
mutual
def uptoBulk {H : Type} : DataW H → Nat
  | .lit (.string bytes) => bytes.length + 1
  | .lit _ => 1
  | .nil => 1
  | .ptr d => uptoBulk d + 1
  | .slice elems spare => uptoBulkAll elems + uptoBulkAll spare + 1
  | .agg parts => uptoBulkAll parts + 1
  | .iface _ d => uptoBulk d + 1
  | .map entries => uptoBulkEntries entries + 1
  | .held _ => 1
def uptoBulkAll {H : Type} : List (DataW H) → Nat
  | [] => 0
  | d :: r => uptoBulk d + uptoBulkAll r
def uptoBulkEntries {H : Type} : List (Lit × DataW H) → Nat
  | [] => 0
  | x :: r => uptoBulkEntry x + uptoBulkEntries r
def uptoBulkEntry {H : Type} : Lit × DataW H → Nat
  | (.string bytes, d) => bytes.length + uptoBulk d + 1
  | (_, d) => uptoBulk d + 1
 end
def uptoSmall : (H : Type) → List (DataW H) → Bool := fun _ ds => decide (uptoBulkAll ds ≤ 1048576)
def OpenSpec.upto (s : _root_.Go.ChangeSpec) : _root_.Go.OpenSpec := { _root_.Go.OpenSpec.ofChange s with cond := some uptoSmall }

/-- 'warrantorlaw25.BaseMatches', WHERE WHAT IT READS IS OF BULK AT MOST 1048576: true; the input reads as it did. -/
def baseMatchesUptoRow : OpenClaim := { program := "ytpchncpcckfghaagreat", sum := "ef3eb82acb829608f35f7def6d0afd220d894bcaf8d383037a98be75b546eea1", func := "warrantor/warrantorlaw25.BaseMatches", spec := "baseMatches", inPlace := ["internal/abi.NoEscape"], unfollowed := true, recurses := true, apart := false, narrowed := true }
def BaseMatchesUptoSaid : Prop := baseMatchesUptoRow.holds Tryz.pinned (OpenSpec.upto baseMatchesSpec)

/-- 'warrantorlaw25.BaseSums', WHERE WHAT IT READS IS OF BULK AT MOST 1048576: true; the input reads as it did. -/
def baseSumsUptoRow : OpenClaim := { program := "ytpchncpcckfghaagreat", sum := "ef3eb82acb829608f35f7def6d0afd220d894bcaf8d383037a98be75b546eea1", func := "warrantor/warrantorlaw25.BaseSums", spec := "baseSums", inPlace := ["internal/abi.NoEscape"], unfollowed := true, recurses := true, apart := false, narrowed := true }
def BaseSumsUptoSaid : Prop := baseSumsUptoRow.holds Tryz.pinned (OpenSpec.upto baseSumsSpec)

/-- 'warrantorlaw25.BaseMany', WHERE WHAT IT READS IS OF BULK AT MOST 1048576: true; the input reads as it did. -/
def baseManyUptoRow : OpenClaim := { program := "ytpchncpcckfghaagreat", sum := "ef3eb82acb829608f35f7def6d0afd220d894bcaf8d383037a98be75b546eea1", func := "warrantor/warrantorlaw25.BaseMany", spec := "baseMany", inPlace := ["internal/abi.NoEscape"], unfollowed := true, recurses := true, apart := false, narrowed := true }
def BaseManyUptoSaid : Prop := baseManyUptoRow.holds Tryz.pinned (OpenSpec.upto baseManySpec)

/-- 'warrantorlaw25.BaseOf', WHERE WHAT IT READS IS OF BULK AT MOST 1048576: true; the input reads as it did. -/
def baseOfUptoRow : OpenClaim := { program := "ytpchncpcckfghaagreat", sum := "ef3eb82acb829608f35f7def6d0afd220d894bcaf8d383037a98be75b546eea1", func := "warrantor/warrantorlaw25.BaseOf", spec := "baseOf", inPlace := ["internal/abi.NoEscape"], unfollowed := true, recurses := true, apart := false, narrowed := true }
def BaseOfUptoSaid : Prop := baseOfUptoRow.holds Tryz.pinned (OpenSpec.upto baseOfSpec)

/-- 'warrantorlaw25.BaseMoves', WHERE WHAT IT READS IS OF BULK AT MOST 1048576: true; the input reads as it did. -/
def baseMovesUptoRow : OpenClaim := { program := "ytpchncpcckfghaagreat", sum := "ef3eb82acb829608f35f7def6d0afd220d894bcaf8d383037a98be75b546eea1", func := "warrantor/warrantorlaw25.BaseMoves", spec := "baseMoves", inPlace := ["internal/abi.NoEscape"], unfollowed := true, recurses := true, apart := false, narrowed := true }
def BaseMovesUptoSaid : Prop := baseMovesUptoRow.holds Tryz.pinned (OpenSpec.upto baseMovesSpec)

end Rows
end Go.Proofs.YtpchncpcckfghaaGreat
