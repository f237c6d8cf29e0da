/-
  AlarmOf is proved: for every input the statement's function returns true, and each argument reads afterwards as it read before. Conditions: none but the statement's own; the library's tables that it lists are tied to the program's text. The walk lies in YtimgocfkogebmaaGreatDoorAlarmLawOf2.
-/
import Derived.Test.YtimgocfkogebmaaGreatDoorRows
import Derived.Test.YtimgocfkogebmaaGreatDoorCards
import Derived.Test.YtimgocfkogebmaaGreatDoorTie
import Derived.SevenTiedAt
import Derived.WalkKit
import Derived.ProofKit
import Derived.OpenShut
import Derived.ShutString
import Derived.ChangeOld
import Derived.Below
import Derived.SizedLaws
import Derived.Lib.SmallJoins
import Derived.Test.YtimgocfkogebmaaGreatDoorQF15
import Derived.Test.YtimgocfkogebmaaGreatDoorQF16
import Derived.Test.YtimgocfkogebmaaGreatDoorQF17
namespace Go.Proofs.YtimgocfkogebmaaGreatDoor.alarmOf
open Go.ChangeShapes Go.WideShapes Go.ChangeAt Go.RowKit
open Go.ChangeMaps (open_string shut_string)
set_option linter.unusedVariables false

theorem own : ownKnob Tryz.prog.godebug = none := by kernel_rfl
theorem laidOut : laidOutB Tryz.prog = true := by kernel_rfl
/-- What the walk is told of a slice of integers that came in. -/
def IsRow (k : IntKind) (w : World) (a : Option Addr) (len cap : Nat) (zs : List Int) : Prop :=
  (a = none ∧ len = 0 ∧ cap = 0 ∧ zs = []) ∨
  ∃ x, a = some x ∧ len ≤ cap ∧ cap ≤ maxLen ∧ zs.length = cap ∧ (∀ i, i < zs.length → w.cell? (x.add i) = some (.int k (zs.getD i 0))) ∧ ∀ n ∈ zs, (Lit.int k n).wf = true

set_option maxRecDepth 100000 in
theorem lifted (os : Os) (started : os.Started) (H : Type) (enc : TypeId × Value → H) :
    ReturnsInHanded {} Tryz.checked os 4 .any (fun w args => (Rows.alarmOfSpec.pre enc Tryz.prog Tryz.f4 [] false w args ∧ laidMetH Tryz.prog laidL w) ∧ sizedMet enc Tryz.prog Tryz.f4 (OpenSpec.ofChange Rows.alarmOfSpec) false w args)
      (Rows.alarmOfSpec.post enc Tryz.prog Tryz.f4 false true false false) := by
  refine handed_sized (C := Tryz.checked) (X := fun w _ => laidMetH Tryz.prog laidL w) (fun _ _ _ hh h => h.of_heap hh) own started (by kernel_rfl) Tryz.func4
    (ChangeSpec.witness_shaped (enc := enc) (C := Tryz.checked) (os := os) (X := fun w _ => laidMetH Tryz.prog laidL w) false (World.doorLaid Tryz.prog 400 os) #[.agg #[.string ByteArray.empty, .slice none 0 0, .slice none 0 0, .slice none 0 0], .slice none 0 0, .int .i64 0] 8 rfl (World.shaped_of_RefB (by kernel_rfl) (by kernel_rfl)) (by kernel_rfl) (by kernel_rfl) (by kernel_rfl) (door_met os _)) ?_
  intro W base args ds gs before hval0 hW hL hsz0 hsh
  have hval : ∀ (j : Nat) t v, Tryz.f4.params[j]? = some t → args[j]? = some v → Value.okWide Tryz.prog W .any base t v := hval0
  have hW' := hW
  obtain ⟨p, q, hA0, hV, rfl, hfz, hnd⟩ := hW
  have hA : DataW.TrodAll enc Tryz.prog W 0 (fun _ => true) true Tryz.f4.params.toList args.toList ds p := hA0
  have hsz : (DataW.weightsEach Tryz.prog (Tryz.f4.params.toList ++ Rows.alarmOfSpec.plain.varTypes Tryz.prog) (ds ++ gs)).all (· ≤ reachBytes) = true := hsz0
  rw [Tryz.params4] at hA hval hsz
  obtain ⟨v0, vs0, d0, ds0, p0, q0, hargs, rfl, rfl, h0, r0⟩ := trodAll_cons hA
  obtain ⟨v1, vs1, d1, ds1, p1, q1, rfl, rfl, rfl, h1, r1⟩ := trodAll_cons r0
  obtain ⟨v2, vs2, d2, ds2, p2, q2, rfl, rfl, rfl, h2, r2⟩ := trodAll_cons r1
  obtain ⟨rfl, rfl, rfl⟩ := trodAll_nil r2
  obtain rfl : args = #[v0, v1, v2] := by cases args; simp_all
  obtain ⟨rfl, rfl⟩ := trodVars_none hV
  have k0 := h0
  have lt0 : ∀ x ∈ p0, x.block < W.heap.size := by obtain ⟨m, hm⟩ := k0; exact DataW.trod_lt m _ _ _ hm
  obtain ⟨c0, c1, c2, c3, y0, y1, y2, y3, n0, rfl, rfl, rfl, t0, t1, t2, t3⟩ := Joins.open_agg4 Tryz.underlying38 (by kernel_rfl) (show Tryz.prog.cellsOf 38 = 4 by kernel_rfl) (hval 0 38 v0 rfl rfl) h0
  have r0 := weights_agg Tryz.underlying38 (reach_each hsz (j := 0) (t := 38) rfl rfl) (j := 0) rfl rfl
  have r1 := weights_agg Tryz.underlying38 (reach_each hsz (j := 0) (t := 38) rfl rfl) (j := 1) rfl rfl
  have r2 := weights_agg Tryz.underlying38 (reach_each hsz (j := 0) (t := 38) rfl rfl) (j := 2) rfl rfl
  have r3 := weights_agg Tryz.underlying38 (reach_each hsz (j := 0) (t := 38) rfl rfl) (j := 3) rfl rfl
  obtain ⟨a0_0, e0, z0, w0_0⟩ := DataW.trod_string Tryz.underlying9 t0
  simp at e0
  have q0_0 : a0_0.size ≤ 140737488351232 := by rw [z0] at r0; exact reach_string r0
  obtain ⟨sl0_1, n0_1, c0_1, e1⟩ : ∃ a m c, c1 = .slice a m c := by
    rcases Go.Deep.open_slice Tryz.underlying34 t1 with ⟨hcs, _⟩ | ⟨x, l, c, m, n, D, Pl, hcs, _⟩
    · simp at hcs
      exact ⟨none, 0, 0, hcs⟩
    · simp at hcs
      exact ⟨some x, l, c, hcs⟩
  rw [e1] at t1
  have row0_1 : TSl W sl0_1 n0_1 c0_1 := txt_row t1 r1
  obtain ⟨sl0_2, n0_2, c0_2, e2⟩ : ∃ a m c, c2 = .slice a m c := by
    rcases Go.Deep.open_slice Tryz.underlying35 t2 with ⟨hcs, _⟩ | ⟨x, l, c, m, n, D, Pl, hcs, _⟩
    · simp at hcs
      exact ⟨none, 0, 0, hcs⟩
    · simp at hcs
      exact ⟨some x, l, c, hcs⟩
  rw [e2] at t2
  have row0_2 : SpotsSl W sl0_2 n0_2 c0_2 := spot_row t2 r2
  obtain ⟨sl0_3, n0_3, c0_3, e3⟩ : ∃ a m c, c3 = .slice a m c := by
    rcases Go.Deep.open_slice Tryz.underlying36 t3 with ⟨hcs, _⟩ | ⟨x, l, c, m, n, D, Pl, hcs, _⟩
    · simp at hcs
      exact ⟨none, 0, 0, hcs⟩
    · simp at hcs
      exact ⟨some x, l, c, hcs⟩
  rw [e3] at t3
  have row0_3 : EdgesSl W sl0_3 n0_3 c0_3 := edge_row t3 r3
  subst e0 e1 e2 e3
  clear t0 r0 t1 r1 t2 r2 t3 r3
  have k1 := h1
  have lt1 : ∀ x ∈ p1, x.block < W.heap.size := by obtain ⟨m, hm⟩ := k1; exact DataW.trod_lt m _ _ _ hm
  obtain ⟨sl1, n1, c1, rfl⟩ := okWide_slice Tryz.underlying39 (hval 1 39 v1 rfl rfl)
  have row1 : ZonesSl W sl1 n1 c1 := by obtain ⟨fuel, hf⟩ := h1; exact zone_row hf (reach_each hsz (j := 1) (t := 39) rfl rfl)
  have k2 := h2
  have lt2 : ∀ x ∈ p2, x.block < W.heap.size := by obtain ⟨m, hm⟩ := k2; exact DataW.trod_lt m _ _ _ hm
  obtain ⟨a2, rfl, rfl, rfl, w2⟩ := open_int Tryz.underlying3 (hval 2 3 v2 rfl rfl) h2
  clear hA0 hval0 hsz0 hsz
  refine (alarmOf_walk W (of_laid hL) a0_0 q0_0 sl0_1 n0_1 c0_1 row0_1 sl0_2 n0_2 c0_2 row0_2 sl0_3 n0_3 c0_3 row0_3 sl1 n1 c1 row1 a2 w2).mono fun e W' ⟨he, hg⟩ => ?_
  subst he
  exact ⟨_, rfl, _, _, _, [], _, [], hW', trodAll_mk1 (shut_bool Tryz.underlying4 _), (trodAll_cons_mk (Below.trod laidOut (by kernel_rfl) (of_decide_eq_true (by kernel_rfl)) k0 hg lt0) (trodAll_cons_mk (Below.trod laidOut (by kernel_rfl) (of_decide_eq_true (by kernel_rfl)) k1 hg lt1) (trodAll_cons_mk (Below.trod laidOut (by kernel_rfl) (of_decide_eq_true (by kernel_rfl)) k2 hg lt2) trodAll_mk0))), rfl, hg.frame _, fun h => by cases h⟩

theorem over : Rows.alarmOfRow.holds Tryz.pinned (OpenSpec.ofChange Rows.alarmOfSpec) :=
  OpenClaim.holds_of_wide 4 Tryz.f4 rfl rfl rfl rfl rfl rfl rfl ⟨rfl, rfl, rfl, rfl, rfl⟩ rfl rfl rfl rfl rfl (by kernel_rfl) Tryz.func4 (by kernel_rfl)
    (of_decide_eq_true (by kernel_rfl)) (by unfold Func.isWrapper; first | (rw [if_pos (by decide +kernel)]; kernel_rfl) | (rw [if_neg (by decide +kernel)]; exact ⟨rfl, rfl⟩))
    (fun os started H enc _ => lifted os started H enc)

/-- ████ THE STATEMENT: the tied card ████ -/
theorem proved : Rows.AlarmOfCardSaid :=
  Claim7.holds_tied_plain_at .later [] [.data, .data, .data] true (true, "5bbd808327469b1bb7eb736abb99048c9e625a79b02382035af60c7060f21c29") false
    over (fun _ h => by cases h) (by kernel_rfl) (fun _ h => by cases h) alarmOf_row_tie rfl ⟨rfl, rfl⟩ (by kernel_rfl) rfl
    (fun f fn hf hfn => by
      obtain rfl : f = 4 := Option.some.inj ((show Tryz.prog.funcNamed "warrantor/warrantorlaw17.AlarmOf" = some 4 by kernel_rfl).symm.trans hf) |>.symm
      obtain rfl : fn = Tryz.f4 := (Option.some.inj (Tryz.func4.symm.trans hfn)).symm
      exact ⟨by kernel_rfl, fun j t ht => by
        rw [Tryz.params4] at ht
        have hm : t ∈ [38, 39, 3] := by have h := Array.mem_of_getElem? ht; revert h; simp
        have hall : ([38, 39, 3].all fun u => !Tryz.prog.wantsStandIn u) = true := by kernel_rfl
        exact (show Tryz.prog.wantsStandIn t = false by simpa using List.all_eq_true.1 hall t hm)⟩)
    (by kernel_rfl)
#print axioms proved
end Go.Proofs.YtimgocfkogebmaaGreatDoor.alarmOf
