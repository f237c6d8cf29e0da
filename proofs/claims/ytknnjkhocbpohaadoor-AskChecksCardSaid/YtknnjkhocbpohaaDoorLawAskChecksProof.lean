/-
  AskChecks is proved: for every input the statement's function returns true, and each argument reads afterwards as it read before. Conditions: none but the statement's own; the library's tables that it lists are tied to the program's text. The walk lies in YtknnjkhocbpohaaDoorAskLawChecks.
-/
import Derived.Test.YtknnjkhocbpohaaDoorRows
import Derived.Test.YtknnjkhocbpohaaDoorCards
import Derived.Test.YtknnjkhocbpohaaDoorTie
import Derived.SevenTiedAt
import Derived.WalkKit
import Derived.ProofKit
import Derived.OpenShut
import Derived.ShutString
import Derived.ChangeOld
import Derived.Below
import Derived.SizedLaws
import Derived.Lib.SmallJoins
import Derived.Test.YtknnjkhocbpohaaDoorQC05
import Derived.Test.YtknnjkhocbpohaaDoorQC06
import Derived.Test.YtknnjkhocbpohaaDoorQC07
namespace Go.Proofs.YtknnjkhocbpohaaDoor.askChecks
open Go.ChangeShapes Go.WideShapes Go.ChangeAt Go.RowKit
open Go.ChangeMaps (open_string shut_string)
set_option linter.unusedVariables false

theorem own : ownKnob Tryd.prog.godebug = none := by kernel_rfl
theorem laidOut : laidOutB Tryd.prog = true := by kernel_rfl
/-- What the walk is told of a slice of integers that came in. -/
def IsRow (k : IntKind) (w : World) (a : Option Addr) (len cap : Nat) (zs : List Int) : Prop :=
  (a = none ∧ len = 0 ∧ cap = 0 ∧ zs = []) ∨
  ∃ x, a = some x ∧ len ≤ cap ∧ cap ≤ maxLen ∧ zs.length = cap ∧ (∀ i, i < zs.length → w.cell? (x.add i) = some (.int k (zs.getD i 0))) ∧ ∀ n ∈ zs, (Lit.int k n).wf = true

set_option maxRecDepth 100000 in
theorem lifted (os : Os) (started : os.Started) (H : Type) (enc : TypeId × Value → H) :
    ReturnsInHanded {} Tryd.checked os 3 .any (fun w args => (Rows.askChecksSpec.pre enc Tryd.prog Tryd.f3 [] false w args ∧ laidMetH Tryd.prog laidL w) ∧ sizedMet enc Tryd.prog Tryd.f3 (OpenSpec.ofChange Rows.askChecksSpec) false w args)
      (Rows.askChecksSpec.post enc Tryd.prog Tryd.f3 false true false false) := by
  refine handed_sized (C := Tryd.checked) (X := fun w _ => laidMetH Tryd.prog laidL w) (fun _ _ _ hh h => h.of_heap hh) own started (by kernel_rfl) Tryd.func3
    (ChangeSpec.witness_shaped (enc := enc) (C := Tryd.checked) (os := os) (X := fun w _ => laidMetH Tryd.prog laidL w) false (World.doorLaid Tryd.prog 400 os) #[.agg #[.slice none 0 0, .int .i64 0, .int .i64 0, .int .i64 0, .int .i64 0], .agg #[.slice none 0 0, .int .i64 0, .int .i64 0, .int .i64 0, .int .i64 0]] 8 rfl (World.shaped_of_RefB (by kernel_rfl) (by kernel_rfl)) (by kernel_rfl) (by kernel_rfl) (by kernel_rfl) (door_met os _)) ?_
  intro W base args ds gs before hval0 hW hL hsz0 hsh
  have hval : ∀ (j : Nat) t v, Tryd.f3.params[j]? = some t → args[j]? = some v → Value.okWide Tryd.prog W .any base t v := hval0
  have hW' := hW
  obtain ⟨p, q, hA0, hV, rfl, hfz, hnd⟩ := hW
  have hA : DataW.TrodAll enc Tryd.prog W 0 (fun _ => true) true Tryd.f3.params.toList args.toList ds p := hA0
  have hsz : (DataW.weightsEach Tryd.prog (Tryd.f3.params.toList ++ Rows.askChecksSpec.plain.varTypes Tryd.prog) (ds ++ gs)).all (· ≤ reachBytes) = true := hsz0
  rw [Tryd.params3] at hA hval hsz
  obtain ⟨v0, vs0, d0, ds0, p0, q0, hargs, rfl, rfl, h0, r0⟩ := trodAll_cons hA
  obtain ⟨v1, vs1, d1, ds1, p1, q1, rfl, rfl, rfl, h1, r1⟩ := trodAll_cons r0
  obtain ⟨rfl, rfl, rfl⟩ := trodAll_nil r1
  obtain rfl : args = #[v0, v1] := by cases args; simp_all
  obtain ⟨rfl, rfl⟩ := trodVars_none hV
  have k0 := h0
  have lt0 : ∀ x ∈ p0, x.block < W.heap.size := by obtain ⟨m, hm⟩ := k0; exact DataW.trod_lt m _ _ _ hm
  obtain ⟨c0, c1, c2, c3, c4, y0, y1, y2, y3, y4, n0, rfl, rfl, rfl, t0, t1, t2, t3, t4⟩ := open_agg5 Tryd.underlying24 (by kernel_rfl) (show Tryd.prog.cellsOf 24 = 5 by kernel_rfl) (hval 0 24 v0 rfl rfl) h0
  have r0 := weights_agg Tryd.underlying24 (reach_each hsz (j := 0) (t := 24) rfl rfl) (j := 0) rfl rfl
  have r1 := weights_agg Tryd.underlying24 (reach_each hsz (j := 0) (t := 24) rfl rfl) (j := 1) rfl rfl
  have r2 := weights_agg Tryd.underlying24 (reach_each hsz (j := 0) (t := 24) rfl rfl) (j := 2) rfl rfl
  have r3 := weights_agg Tryd.underlying24 (reach_each hsz (j := 0) (t := 24) rfl rfl) (j := 3) rfl rfl
  have r4 := weights_agg Tryd.underlying24 (reach_each hsz (j := 0) (t := 24) rfl rfl) (j := 4) rfl rfl
  obtain ⟨sl0_0, n0_0, c0_0, e0⟩ : ∃ a m c, c0 = .slice a m c := by
    rcases Go.Deep.open_slice Tryd.underlying22 t0 with ⟨hcs, _⟩ | ⟨x, l, c, m, n, D, Pl, hcs, _⟩
    · simp at hcs
      exact ⟨none, 0, 0, hcs⟩
    · simp at hcs
      exact ⟨some x, l, c, hcs⟩
  rw [e0] at t0
  have row0_0 : TmSl W sl0_0 n0_0 c0_0 := tm_row t0 r0
  obtain ⟨a0_1, e1, z1, w0_1⟩ := DataW.trod_int Tryd.underlying3 t1
  simp at e1
  obtain ⟨a0_2, e2, z2, w0_2⟩ := DataW.trod_int Tryd.underlying3 t2
  simp at e2
  obtain ⟨a0_3, e3, z3, w0_3⟩ := DataW.trod_int Tryd.underlying3 t3
  simp at e3
  obtain ⟨a0_4, e4, z4, w0_4⟩ := DataW.trod_int Tryd.underlying3 t4
  simp at e4
  subst e0 e1 e2 e3 e4
  clear t0 r0 t1 r1 t2 r2 t3 r3 t4 r4
  have k1 := h1
  have lt1 : ∀ x ∈ p1, x.block < W.heap.size := by obtain ⟨m, hm⟩ := k1; exact DataW.trod_lt m _ _ _ hm
  obtain ⟨c0, c1, c2, c3, c4, y0, y1, y2, y3, y4, n1, rfl, rfl, rfl, t0, t1, t2, t3, t4⟩ := open_agg5 Tryd.underlying24 (by kernel_rfl) (show Tryd.prog.cellsOf 24 = 5 by kernel_rfl) (hval 1 24 v1 rfl rfl) h1
  have r0 := weights_agg Tryd.underlying24 (reach_each hsz (j := 1) (t := 24) rfl rfl) (j := 0) rfl rfl
  have r1 := weights_agg Tryd.underlying24 (reach_each hsz (j := 1) (t := 24) rfl rfl) (j := 1) rfl rfl
  have r2 := weights_agg Tryd.underlying24 (reach_each hsz (j := 1) (t := 24) rfl rfl) (j := 2) rfl rfl
  have r3 := weights_agg Tryd.underlying24 (reach_each hsz (j := 1) (t := 24) rfl rfl) (j := 3) rfl rfl
  have r4 := weights_agg Tryd.underlying24 (reach_each hsz (j := 1) (t := 24) rfl rfl) (j := 4) rfl rfl
  obtain ⟨sl1_0, n1_0, c1_0, e0⟩ : ∃ a m c, c0 = .slice a m c := by
    rcases Go.Deep.open_slice Tryd.underlying22 t0 with ⟨hcs, _⟩ | ⟨x, l, c, m, n, D, Pl, hcs, _⟩
    · simp at hcs
      exact ⟨none, 0, 0, hcs⟩
    · simp at hcs
      exact ⟨some x, l, c, hcs⟩
  rw [e0] at t0
  have row1_0 : TmSl W sl1_0 n1_0 c1_0 := tm_row t0 r0
  obtain ⟨a1_1, e1, z1, w1_1⟩ := DataW.trod_int Tryd.underlying3 t1
  simp at e1
  obtain ⟨a1_2, e2, z2, w1_2⟩ := DataW.trod_int Tryd.underlying3 t2
  simp at e2
  obtain ⟨a1_3, e3, z3, w1_3⟩ := DataW.trod_int Tryd.underlying3 t3
  simp at e3
  obtain ⟨a1_4, e4, z4, w1_4⟩ := DataW.trod_int Tryd.underlying3 t4
  simp at e4
  subst e0 e1 e2 e3 e4
  clear t0 r0 t1 r1 t2 r2 t3 r3 t4 r4
  clear hA0 hval0 hsz0 hsz
  refine (askChecks_walk W (of_laid hL) sl0_0 n0_0 c0_0 row0_0 a0_1 w0_1 a0_2 w0_2 a0_3 w0_3 a0_4 w0_4 sl1_0 n1_0 c1_0 row1_0 a1_1 w1_1 a1_2 w1_2 a1_3 w1_3 a1_4 w1_4).mono fun e W' ⟨he, hg⟩ => ?_
  subst he
  exact ⟨_, rfl, _, _, _, [], _, [], hW', trodAll_mk1 (shut_bool Tryd.underlying4 _), (trodAll_cons_mk (Below.trod laidOut (by kernel_rfl) (of_decide_eq_true (by kernel_rfl)) k0 hg lt0) (trodAll_cons_mk (Below.trod laidOut (by kernel_rfl) (of_decide_eq_true (by kernel_rfl)) k1 hg lt1) trodAll_mk0)), rfl, hg.frame _, fun h => by cases h⟩

theorem over : Rows.askChecksRow.holds Tryd.pinned (OpenSpec.ofChange Rows.askChecksSpec) :=
  OpenClaim.holds_of_wide 3 Tryd.f3 rfl rfl rfl rfl rfl rfl rfl ⟨rfl, rfl, rfl, rfl, rfl⟩ rfl rfl rfl rfl rfl (by kernel_rfl) Tryd.func3 (by kernel_rfl)
    (of_decide_eq_true (by kernel_rfl)) (by unfold Func.isWrapper; first | (rw [if_pos (by decide +kernel)]; kernel_rfl) | (rw [if_neg (by decide +kernel)]; exact ⟨rfl, rfl⟩))
    (fun os started H enc _ => lifted os started H enc)

/-- ████ THE STATEMENT: the tied card ████ -/
theorem proved : Rows.AskChecksCardSaid :=
  Claim7.holds_tied_plain_at .later [] [.data, .data, .data] true (true, "8ae07e620d47e8c1ce26176689d45c8b2861b7deecf9c2a18e98a8a9053da6ad") false
    over (fun _ h => by cases h) (by kernel_rfl) (fun _ h => by cases h) askChecks_row_tie rfl ⟨rfl, rfl⟩ (by kernel_rfl) rfl
    (fun f fn hf hfn => by
      obtain rfl : f = 3 := Option.some.inj ((show Tryd.prog.funcNamed "warrantor/warrantorlaw32.AskChecks" = some 3 by kernel_rfl).symm.trans hf) |>.symm
      obtain rfl : fn = Tryd.f3 := (Option.some.inj (Tryd.func3.symm.trans hfn)).symm
      exact ⟨by kernel_rfl, fun j t ht => by
        rw [Tryd.params3] at ht
        have hm : t ∈ [24] := by have h := Array.mem_of_getElem? ht; revert h; simp
        have hall : ([24].all fun u => !Tryd.prog.wantsStandIn u) = true := by kernel_rfl
        exact (show Tryd.prog.wantsStandIn t = false by simpa using List.all_eq_true.1 hall t hm)⟩)
    (by kernel_rfl)
#print axioms proved
end Go.Proofs.YtknnjkhocbpohaaDoor.askChecks
