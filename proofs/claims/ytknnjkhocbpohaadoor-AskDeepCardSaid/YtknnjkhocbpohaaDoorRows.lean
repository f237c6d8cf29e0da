/-
  NARROWER THAN 'FOR EVERY INPUT', by the rows' own cells (each row's printed sentence says how): AskChecks: laid · AskParts: laid · AskNots: laid · AskDeep: laid.
  DERIVED. THE GIVEN ROWS OF THIS SEAT. 4 by the template 'for every input the law returns true; each argument reads behind the call as it read before'; 0 by the template 'total and deterministic' (their statements: YtknnjkhocbpohaaDoorTotals.lean).
  GIVEN WITH THE SEED: the statements are not yours to turn. If you find one false, say at which input.
  Laid BY PROGRAM, IN A SANDBOX (cutbox-rows.mjs): the forced cells as the released guide's own fill.sh prints them over the translation e5bf96267f1d590b… (all of the seat's roots in one cut). By AI agents, Wed Nov 11 2026. No macro, syntax, notation, axiom, sorry.
-/
import Derived.Test.YtknnjkhocbpohaaDoorChecked
import GoSem.Claim
import GoSem.ClaimJoined
import GoSem.ClaimMapViews
import Derived.JoinedTies
import Derived.KernelRfl
namespace Go.Proofs.YtknnjkhocbpohaaDoor
/- THE CELL 'sum', in the pinned program and in every row, IS THE sha256 OF THE DUMP (.gsa) THAT YtknnjkhocbpohaaDoorProg.lean LOADS. Nothing in Lean hashes anything: it is a label: what it is worth is what the hold of that sum in a sandbox is worth. -/
noncomputable def Tryd.pinned : Pinned := { name := "ytknnjkhocbpohaadoor", sum := "e5bf96267f1d590bbd4f212873091665fe3f7c7d899286c57b8b69c58560b02c", checked := Tryd.checked }
namespace Rows
def none {H : Type} : Left H := { results := [], args := [] }

/- WHAT THE LISTED PACKAGE-LEVEL VARIABLES READ AS WHEN THE CALL BEGINS. Each datum BY PROGRAM (the guide's laid-datum.mjs) off the statement by which the dump's own 'gosem.cut.vars' lays the variable. In a bare row this is a premise. The card (YtknnjkhocbpohaaDoorCards.lean) ties it to the program's text. -/
def laid_warrantor_ask_rels {H : Type} : DataW H := .agg [.agg [.lit (.bool false), .lit (.bool false), .lit (.bool false), .lit (.bool false), .lit (.bool false), .lit (.bool false)], .agg [.lit (.bool false), .lit (.bool true), .lit (.bool false), .lit (.bool false), .lit (.bool false), .lit (.bool false)], .agg [.lit (.bool false), .lit (.bool true), .lit (.bool false), .lit (.bool false), .lit (.bool true), .lit (.bool true)], .agg [.lit (.bool false), .lit (.bool true), .lit (.bool true), .lit (.bool true), .lit (.bool false), .lit (.bool false)], .agg [.lit (.bool false), .lit (.bool true), .lit (.bool false), .lit (.bool false), .lit (.bool false), .lit (.bool false)]]
def laid_warrantor_ask_fields {H : Type} : DataW H := .agg [.agg [.lit (.int .i64 0), .lit (.int .i64 0), .lit (.int .i64 0)], .agg [.lit (.int .i64 1), .lit (.int .i64 1), .lit (.int .i64 3)], .agg [.lit (.int .i64 1), .lit (.int .i64 1), .lit (.int .i64 2)], .agg [.lit (.int .i64 1), .lit (.int .i64 1), .lit (.int .i64 3)], .agg [.lit (.int .i64 2), .lit (.int .i64 0), .lit (.int .i64 1048576)], .agg [.lit (.int .i64 2), .lit (.int .i64 0), .lit (.int .i64 1048576)], .agg [.lit (.int .i64 3), .lit (.int .i64 0), .lit (.int .i64 0)], .agg [.lit (.int .i64 3), .lit (.int .i64 0), .lit (.int .i64 0)], .agg [.lit (.int .i64 3), .lit (.int .i64 0), .lit (.int .i64 0)], .agg [.lit (.int .i64 3), .lit (.int .i64 0), .lit (.int .i64 0)], .agg [.lit (.int .i64 4), .lit (.int .i64 0), .lit (.int .i64 0)]]
def laid_warrantor_ask_about {H : Type} : DataW H := .agg [.lit (.int .i64 0), .lit (.int .i64 0), .lit (.int .i64 0), .lit (.int .i64 1), .lit (.int .i64 2), .lit (.int .i64 2)]

/-- 'warrantorlaw32.AskChecks': WHATEVER THE INPUT: true; the input reads as it did. -/
def askChecksSpec : ChangeSpec := { name := "askChecks", fn := fun _ => fun
  | [d1, d2] => { results := [.lit (.bool true)], args := [d1, d2] }
  | _ => none }
def askChecksRow : OpenClaim := { program := "ytknnjkhocbpohaadoor", sum := "e5bf96267f1d590bbd4f212873091665fe3f7c7d899286c57b8b69c58560b02c", func := "warrantor/warrantorlaw32.AskChecks", spec := "askChecks", inPlace := ["internal/bytealg.IndexByteString"], unfollowed := true, recurses := true, named := ["warrantor/ask.about", "warrantor/ask.fields", "warrantor/ask.rels"], apart := false, laid := [("warrantor/ask.rels", laid_warrantor_ask_rels), ("warrantor/ask.fields", laid_warrantor_ask_fields), ("warrantor/ask.about", laid_warrantor_ask_about)] }
def AskChecksSaid : Prop := askChecksRow.holds Tryd.pinned (OpenSpec.ofChange askChecksSpec)

/-- ITS FALSE NEIGHBOUR: 'it returns false'. Refute it at one input. -/
def askChecksWrong : ChangeSpec := { name := "askChecks", fn := fun _ => fun
  | [d1, d2] => { results := [.lit (.bool false)], args := [d1, d2] }
  | _ => none }
def AskChecksWrongFalsely : Prop := askChecksRow.holds Tryd.pinned (OpenSpec.ofChange askChecksWrong)

/-- 'warrantorlaw32.AskParts': WHATEVER THE INPUT: true; the input reads as it did. -/
def askPartsSpec : ChangeSpec := { name := "askParts", fn := fun _ => fun
  | [d] => { results := [.lit (.bool true)], args := [d] }
  | _ => none }
def askPartsRow : OpenClaim := { program := "ytknnjkhocbpohaadoor", sum := "e5bf96267f1d590bbd4f212873091665fe3f7c7d899286c57b8b69c58560b02c", func := "warrantor/warrantorlaw32.AskParts", spec := "askParts", inPlace := ["internal/bytealg.IndexByteString"], unfollowed := true, recurses := true, named := ["warrantor/ask.about", "warrantor/ask.fields", "warrantor/ask.rels"], apart := false, laid := [("warrantor/ask.rels", laid_warrantor_ask_rels), ("warrantor/ask.fields", laid_warrantor_ask_fields), ("warrantor/ask.about", laid_warrantor_ask_about)] }
def AskPartsSaid : Prop := askPartsRow.holds Tryd.pinned (OpenSpec.ofChange askPartsSpec)

/-- ITS FALSE NEIGHBOUR: 'it returns false'. Refute it at one input. -/
def askPartsWrong : ChangeSpec := { name := "askParts", fn := fun _ => fun
  | [d] => { results := [.lit (.bool false)], args := [d] }
  | _ => none }
def AskPartsWrongFalsely : Prop := askPartsRow.holds Tryd.pinned (OpenSpec.ofChange askPartsWrong)

/-- 'warrantorlaw32.AskNots': WHATEVER THE INPUT: true; the input reads as it did. -/
def askNotsSpec : ChangeSpec := { name := "askNots", fn := fun _ => fun
  | [d] => { results := [.lit (.bool true)], args := [d] }
  | _ => none }
def askNotsRow : OpenClaim := { program := "ytknnjkhocbpohaadoor", sum := "e5bf96267f1d590bbd4f212873091665fe3f7c7d899286c57b8b69c58560b02c", func := "warrantor/warrantorlaw32.AskNots", spec := "askNots", inPlace := ["internal/bytealg.IndexByteString"], unfollowed := true, recurses := true, named := ["warrantor/ask.about", "warrantor/ask.fields", "warrantor/ask.rels"], apart := false, laid := [("warrantor/ask.rels", laid_warrantor_ask_rels), ("warrantor/ask.fields", laid_warrantor_ask_fields), ("warrantor/ask.about", laid_warrantor_ask_about)] }
def AskNotsSaid : Prop := askNotsRow.holds Tryd.pinned (OpenSpec.ofChange askNotsSpec)

/-- ITS FALSE NEIGHBOUR: 'it returns false'. Refute it at one input. -/
def askNotsWrong : ChangeSpec := { name := "askNots", fn := fun _ => fun
  | [d] => { results := [.lit (.bool false)], args := [d] }
  | _ => none }
def AskNotsWrongFalsely : Prop := askNotsRow.holds Tryd.pinned (OpenSpec.ofChange askNotsWrong)

/-- 'warrantorlaw32.AskDeep': WHATEVER THE INPUT: true; the input reads as it did. -/
def askDeepSpec : ChangeSpec := { name := "askDeep", fn := fun _ => fun
  | [d] => { results := [.lit (.bool true)], args := [d] }
  | _ => none }
def askDeepRow : OpenClaim := { program := "ytknnjkhocbpohaadoor", sum := "e5bf96267f1d590bbd4f212873091665fe3f7c7d899286c57b8b69c58560b02c", func := "warrantor/warrantorlaw32.AskDeep", spec := "askDeep", inPlace := ["internal/bytealg.IndexByteString"], unfollowed := true, recurses := true, named := ["warrantor/ask.about", "warrantor/ask.fields", "warrantor/ask.rels"], apart := false, laid := [("warrantor/ask.rels", laid_warrantor_ask_rels), ("warrantor/ask.fields", laid_warrantor_ask_fields), ("warrantor/ask.about", laid_warrantor_ask_about)] }
def AskDeepSaid : Prop := askDeepRow.holds Tryd.pinned (OpenSpec.ofChange askDeepSpec)

/-- ITS FALSE NEIGHBOUR: 'it returns false'. Refute it at one input. -/
def askDeepWrong : ChangeSpec := { name := "askDeep", fn := fun _ => fun
  | [d] => { results := [.lit (.bool false)], args := [d] }
  | _ => none }
def AskDeepWrongFalsely : Prop := askDeepRow.holds Tryd.pinned (OpenSpec.ofChange askDeepWrong)

/- THE SECOND FORM. 'bulk': how many values and letters a reading holds, each counted each time it is reached (what is shared counts as often as it is met; a slice's spare places count too). A statement '..UptoSaid' is the law's where the arguments, and the package variables that the reading takes, are together of bulk at most 1048576: NARROWER than '..Said'. Prove '..Said' where nothing that the law and all that it calls make is longer than what came in: it says more and counts as full. Else prove '..UptoSaid'. A law counts once. -/
mutual
def uptoBulk {H : Type} : DataW H → Nat
  | .lit (.string bytes) => bytes.length + 1
  | .lit _ => 1
  | .nil => 1
  | .ptr d => uptoBulk d + 1
  | .slice elems spare => uptoBulkAll elems + uptoBulkAll spare + 1
  | .agg parts => uptoBulkAll parts + 1
  | .iface _ d => uptoBulk d + 1
  | .map entries => uptoBulkEntries entries + 1
  | .held _ => 1
def uptoBulkAll {H : Type} : List (DataW H) → Nat
  | [] => 0
  | d :: r => uptoBulk d + uptoBulkAll r
def uptoBulkEntries {H : Type} : List (Lit × DataW H) → Nat
  | [] => 0
  | x :: r => uptoBulkEntry x + uptoBulkEntries r
def uptoBulkEntry {H : Type} : Lit × DataW H → Nat
  | (.string bytes, d) => bytes.length + uptoBulk d + 1
  | (_, d) => uptoBulk d + 1
 end
def uptoSmall : (H : Type) → List (DataW H) → Bool := fun _ ds => decide (uptoBulkAll ds ≤ 1048576)
def OpenSpec.upto (s : _root_.Go.ChangeSpec) : _root_.Go.OpenSpec := { _root_.Go.OpenSpec.ofChange s with cond := some uptoSmall }

/-- 'warrantorlaw32.AskChecks', WHERE WHAT IT READS IS OF BULK AT MOST 1048576: true; the input reads as it did. -/
def askChecksUptoRow : OpenClaim := { program := "ytknnjkhocbpohaadoor", sum := "e5bf96267f1d590bbd4f212873091665fe3f7c7d899286c57b8b69c58560b02c", func := "warrantor/warrantorlaw32.AskChecks", spec := "askChecks", inPlace := ["internal/bytealg.IndexByteString"], unfollowed := true, recurses := true, named := ["warrantor/ask.about", "warrantor/ask.fields", "warrantor/ask.rels"], apart := false, laid := [("warrantor/ask.rels", laid_warrantor_ask_rels), ("warrantor/ask.fields", laid_warrantor_ask_fields), ("warrantor/ask.about", laid_warrantor_ask_about)], narrowed := true }
def AskChecksUptoSaid : Prop := askChecksUptoRow.holds Tryd.pinned (OpenSpec.upto askChecksSpec)

/-- 'warrantorlaw32.AskParts', WHERE WHAT IT READS IS OF BULK AT MOST 1048576: true; the input reads as it did. -/
def askPartsUptoRow : OpenClaim := { program := "ytknnjkhocbpohaadoor", sum := "e5bf96267f1d590bbd4f212873091665fe3f7c7d899286c57b8b69c58560b02c", func := "warrantor/warrantorlaw32.AskParts", spec := "askParts", inPlace := ["internal/bytealg.IndexByteString"], unfollowed := true, recurses := true, named := ["warrantor/ask.about", "warrantor/ask.fields", "warrantor/ask.rels"], apart := false, laid := [("warrantor/ask.rels", laid_warrantor_ask_rels), ("warrantor/ask.fields", laid_warrantor_ask_fields), ("warrantor/ask.about", laid_warrantor_ask_about)], narrowed := true }
def AskPartsUptoSaid : Prop := askPartsUptoRow.holds Tryd.pinned (OpenSpec.upto askPartsSpec)

/-- 'warrantorlaw32.AskNots', WHERE WHAT IT READS IS OF BULK AT MOST 1048576: true; the input reads as it did. -/
def askNotsUptoRow : OpenClaim := { program := "ytknnjkhocbpohaadoor", sum := "e5bf96267f1d590bbd4f212873091665fe3f7c7d899286c57b8b69c58560b02c", func := "warrantor/warrantorlaw32.AskNots", spec := "askNots", inPlace := ["internal/bytealg.IndexByteString"], unfollowed := true, recurses := true, named := ["warrantor/ask.about", "warrantor/ask.fields", "warrantor/ask.rels"], apart := false, laid := [("warrantor/ask.rels", laid_warrantor_ask_rels), ("warrantor/ask.fields", laid_warrantor_ask_fields), ("warrantor/ask.about", laid_warrantor_ask_about)], narrowed := true }
def AskNotsUptoSaid : Prop := askNotsUptoRow.holds Tryd.pinned (OpenSpec.upto askNotsSpec)

/-- 'warrantorlaw32.AskDeep', WHERE WHAT IT READS IS OF BULK AT MOST 1048576: true; the input reads as it did. -/
def askDeepUptoRow : OpenClaim := { program := "ytknnjkhocbpohaadoor", sum := "e5bf96267f1d590bbd4f212873091665fe3f7c7d899286c57b8b69c58560b02c", func := "warrantor/warrantorlaw32.AskDeep", spec := "askDeep", inPlace := ["internal/bytealg.IndexByteString"], unfollowed := true, recurses := true, named := ["warrantor/ask.about", "warrantor/ask.fields", "warrantor/ask.rels"], apart := false, laid := [("warrantor/ask.rels", laid_warrantor_ask_rels), ("warrantor/ask.fields", laid_warrantor_ask_fields), ("warrantor/ask.about", laid_warrantor_ask_about)], narrowed := true }
def AskDeepUptoSaid : Prop := askDeepUptoRow.holds Tryd.pinned (OpenSpec.upto askDeepSpec)

end Rows
end Go.Proofs.YtknnjkhocbpohaaDoor
