/-
  AlarmOrder is proved: for every input the statement's function returns true, and each argument reads afterwards as it read before. Conditions: none but the statement's own; the library's tables that it lists are tied to the program's text. The walk lies in YtimgocfkogebmaaGreatDoorAlarmLawOrder.
-/
import Derived.Test.YtimgocfkogebmaaGreatDoorRows
import Derived.Test.YtimgocfkogebmaaGreatDoorCards
import Derived.Test.YtimgocfkogebmaaGreatDoorTie
import Derived.SevenTiedAt
import Derived.WalkKit
import Derived.ProofKit
import Derived.OpenShut
import Derived.ShutString
import Derived.ChangeOld
import Derived.Below
import Derived.SizedLaws
import Derived.Lib.SmallJoins
import Derived.Test.YtimgocfkogebmaaGreatDoorQR12
import Derived.Test.YtimgocfkogebmaaGreatDoorQR13
import Derived.Test.YtimgocfkogebmaaGreatDoorQR14
namespace Go.Proofs.YtimgocfkogebmaaGreatDoor.alarmOrder
open Go.ChangeShapes Go.WideShapes Go.ChangeAt Go.RowKit
open Go.ChangeMaps (open_string shut_string)
set_option linter.unusedVariables false

theorem own : ownKnob Tryz.prog.godebug = none := by kernel_rfl
theorem laidOut : laidOutB Tryz.prog = true := by kernel_rfl
/-- What the walk is told of a slice of integers that came in. -/
def IsRow (k : IntKind) (w : World) (a : Option Addr) (len cap : Nat) (zs : List Int) : Prop :=
  (a = none ∧ len = 0 ∧ cap = 0 ∧ zs = []) ∨
  ∃ x, a = some x ∧ len ≤ cap ∧ cap ≤ maxLen ∧ zs.length = cap ∧ (∀ i, i < zs.length → w.cell? (x.add i) = some (.int k (zs.getD i 0))) ∧ ∀ n ∈ zs, (Lit.int k n).wf = true

set_option maxRecDepth 100000 in
theorem lifted (os : Os) (started : os.Started) (H : Type) (enc : TypeId × Value → H) :
    ReturnsInHanded {} Tryz.checked os 6 .any (fun w args => (Rows.alarmOrderSpec.pre enc Tryz.prog Tryz.f6 [] false w args ∧ laidMetH Tryz.prog laidL w) ∧ sizedMet enc Tryz.prog Tryz.f6 (OpenSpec.ofChange Rows.alarmOrderSpec) false w args)
      (Rows.alarmOrderSpec.post enc Tryz.prog Tryz.f6 false true false false) := by
  refine handed_sized (C := Tryz.checked) (X := fun w _ => laidMetH Tryz.prog laidL w) (fun _ _ _ hh h => h.of_heap hh) own started (by kernel_rfl) Tryz.func6
    (ChangeSpec.witness_shaped (enc := enc) (C := Tryz.checked) (os := os) (X := fun w _ => laidMetH Tryz.prog laidL w) false (World.doorLaid Tryz.prog 400 os) #[.agg #[.int .i64 0, .int .i64 0, .string ByteArray.empty, .string ByteArray.empty, .int .i64 0, .string ByteArray.empty], .agg #[.int .i64 0, .int .i64 0, .string ByteArray.empty, .string ByteArray.empty, .int .i64 0, .string ByteArray.empty], .agg #[.int .i64 0, .int .i64 0, .string ByteArray.empty, .string ByteArray.empty, .int .i64 0, .string ByteArray.empty], .slice none 0 0] 8 rfl (World.shaped_of_RefB (by kernel_rfl) (by kernel_rfl)) (by kernel_rfl) (by kernel_rfl) (by kernel_rfl) (door_met os _)) ?_
  intro W base args ds gs before hval0 hW hL hsz0 hsh
  have hval : ∀ (j : Nat) t v, Tryz.f6.params[j]? = some t → args[j]? = some v → Value.okWide Tryz.prog W .any base t v := hval0
  have hW' := hW
  obtain ⟨p, q, hA0, hV, rfl, hfz, hnd⟩ := hW
  have hA : DataW.TrodAll enc Tryz.prog W 0 (fun _ => true) true Tryz.f6.params.toList args.toList ds p := hA0
  have hsz : (DataW.weightsEach Tryz.prog (Tryz.f6.params.toList ++ Rows.alarmOrderSpec.plain.varTypes Tryz.prog) (ds ++ gs)).all (· ≤ reachBytes) = true := hsz0
  rw [Tryz.params6] at hA hval hsz
  obtain ⟨v0, vs0, d0, ds0, p0, q0, hargs, rfl, rfl, h0, r0⟩ := trodAll_cons hA
  obtain ⟨v1, vs1, d1, ds1, p1, q1, rfl, rfl, rfl, h1, r1⟩ := trodAll_cons r0
  obtain ⟨v2, vs2, d2, ds2, p2, q2, rfl, rfl, rfl, h2, r2⟩ := trodAll_cons r1
  obtain ⟨v3, vs3, d3, ds3, p3, q3, rfl, rfl, rfl, h3, r3⟩ := trodAll_cons r2
  obtain ⟨rfl, rfl, rfl⟩ := trodAll_nil r3
  obtain rfl : args = #[v0, v1, v2, v3] := by cases args; simp_all
  obtain ⟨rfl, rfl⟩ := trodVars_none hV
  have k0 := h0
  have lt0 : ∀ x ∈ p0, x.block < W.heap.size := by obtain ⟨m, hm⟩ := k0; exact DataW.trod_lt m _ _ _ hm
  obtain ⟨c0, c1, c2, c3, c4, c5, y0, y1, y2, y3, y4, y5, n0, rfl, rfl, rfl, t0, t1, t2, t3, t4, t5⟩ := open_agg6 Tryz.underlying23 (by kernel_rfl) (show Tryz.prog.cellsOf 23 = 6 by kernel_rfl) (hval 0 23 v0 rfl rfl) h0
  obtain ⟨a0_0, e0, rfl, w0_0⟩ := DataW.trod_int Tryz.underlying3 t0
  obtain ⟨a0_1, e1, rfl, w0_1⟩ := DataW.trod_int Tryz.underlying3 t1
  obtain ⟨a0_2, e2, rfl, w0_2⟩ := DataW.trod_string Tryz.underlying9 t2
  obtain ⟨a0_3, e3, rfl, w0_3⟩ := DataW.trod_string Tryz.underlying9 t3
  obtain ⟨a0_4, e4, rfl, w0_4⟩ := DataW.trod_int Tryz.underlying3 t4
  obtain ⟨a0_5, e5, rfl, w0_5⟩ := DataW.trod_string Tryz.underlying9 t5
  simp at e0 e1 e2 e3 e4 e5
  subst e0 e1 e2 e3 e4 e5
  clear t0 t1 t2 t3 t4 t5
  have q0_2 : a0_2.size ≤ 140737488351232 := by have := List.all_eq_true.1 hsz _ (DataW.weights_mem_each (j := 0) (t := 23) rfl rfl a0_2.size (by simp [DataW.weights, DataW.weightsEach, Tryz.underlying23])); have h' : a0_2.size ≤ reachBytes := of_decide_eq_true this; simpa [reachBytes] using h'
  have q0_3 : a0_3.size ≤ 140737488351232 := by have := List.all_eq_true.1 hsz _ (DataW.weights_mem_each (j := 0) (t := 23) rfl rfl a0_3.size (by simp [DataW.weights, DataW.weightsEach, Tryz.underlying23])); have h' : a0_3.size ≤ reachBytes := of_decide_eq_true this; simpa [reachBytes] using h'
  have q0_5 : a0_5.size ≤ 140737488351232 := by have := List.all_eq_true.1 hsz _ (DataW.weights_mem_each (j := 0) (t := 23) rfl rfl a0_5.size (by simp [DataW.weights, DataW.weightsEach, Tryz.underlying23])); have h' : a0_5.size ≤ reachBytes := of_decide_eq_true this; simpa [reachBytes] using h'
  have k1 := h1
  have lt1 : ∀ x ∈ p1, x.block < W.heap.size := by obtain ⟨m, hm⟩ := k1; exact DataW.trod_lt m _ _ _ hm
  obtain ⟨c0, c1, c2, c3, c4, c5, y0, y1, y2, y3, y4, y5, n1, rfl, rfl, rfl, t0, t1, t2, t3, t4, t5⟩ := open_agg6 Tryz.underlying23 (by kernel_rfl) (show Tryz.prog.cellsOf 23 = 6 by kernel_rfl) (hval 1 23 v1 rfl rfl) h1
  obtain ⟨a1_0, e0, rfl, w1_0⟩ := DataW.trod_int Tryz.underlying3 t0
  obtain ⟨a1_1, e1, rfl, w1_1⟩ := DataW.trod_int Tryz.underlying3 t1
  obtain ⟨a1_2, e2, rfl, w1_2⟩ := DataW.trod_string Tryz.underlying9 t2
  obtain ⟨a1_3, e3, rfl, w1_3⟩ := DataW.trod_string Tryz.underlying9 t3
  obtain ⟨a1_4, e4, rfl, w1_4⟩ := DataW.trod_int Tryz.underlying3 t4
  obtain ⟨a1_5, e5, rfl, w1_5⟩ := DataW.trod_string Tryz.underlying9 t5
  simp at e0 e1 e2 e3 e4 e5
  subst e0 e1 e2 e3 e4 e5
  clear t0 t1 t2 t3 t4 t5
  have q1_2 : a1_2.size ≤ 140737488351232 := by have := List.all_eq_true.1 hsz _ (DataW.weights_mem_each (j := 1) (t := 23) rfl rfl a1_2.size (by simp [DataW.weights, DataW.weightsEach, Tryz.underlying23])); have h' : a1_2.size ≤ reachBytes := of_decide_eq_true this; simpa [reachBytes] using h'
  have q1_3 : a1_3.size ≤ 140737488351232 := by have := List.all_eq_true.1 hsz _ (DataW.weights_mem_each (j := 1) (t := 23) rfl rfl a1_3.size (by simp [DataW.weights, DataW.weightsEach, Tryz.underlying23])); have h' : a1_3.size ≤ reachBytes := of_decide_eq_true this; simpa [reachBytes] using h'
  have q1_5 : a1_5.size ≤ 140737488351232 := by have := List.all_eq_true.1 hsz _ (DataW.weights_mem_each (j := 1) (t := 23) rfl rfl a1_5.size (by simp [DataW.weights, DataW.weightsEach, Tryz.underlying23])); have h' : a1_5.size ≤ reachBytes := of_decide_eq_true this; simpa [reachBytes] using h'
  have k2 := h2
  have lt2 : ∀ x ∈ p2, x.block < W.heap.size := by obtain ⟨m, hm⟩ := k2; exact DataW.trod_lt m _ _ _ hm
  obtain ⟨c0, c1, c2, c3, c4, c5, y0, y1, y2, y3, y4, y5, n2, rfl, rfl, rfl, t0, t1, t2, t3, t4, t5⟩ := open_agg6 Tryz.underlying23 (by kernel_rfl) (show Tryz.prog.cellsOf 23 = 6 by kernel_rfl) (hval 2 23 v2 rfl rfl) h2
  obtain ⟨a2_0, e0, rfl, w2_0⟩ := DataW.trod_int Tryz.underlying3 t0
  obtain ⟨a2_1, e1, rfl, w2_1⟩ := DataW.trod_int Tryz.underlying3 t1
  obtain ⟨a2_2, e2, rfl, w2_2⟩ := DataW.trod_string Tryz.underlying9 t2
  obtain ⟨a2_3, e3, rfl, w2_3⟩ := DataW.trod_string Tryz.underlying9 t3
  obtain ⟨a2_4, e4, rfl, w2_4⟩ := DataW.trod_int Tryz.underlying3 t4
  obtain ⟨a2_5, e5, rfl, w2_5⟩ := DataW.trod_string Tryz.underlying9 t5
  simp at e0 e1 e2 e3 e4 e5
  subst e0 e1 e2 e3 e4 e5
  clear t0 t1 t2 t3 t4 t5
  have q2_2 : a2_2.size ≤ 140737488351232 := by have := List.all_eq_true.1 hsz _ (DataW.weights_mem_each (j := 2) (t := 23) rfl rfl a2_2.size (by simp [DataW.weights, DataW.weightsEach, Tryz.underlying23])); have h' : a2_2.size ≤ reachBytes := of_decide_eq_true this; simpa [reachBytes] using h'
  have q2_3 : a2_3.size ≤ 140737488351232 := by have := List.all_eq_true.1 hsz _ (DataW.weights_mem_each (j := 2) (t := 23) rfl rfl a2_3.size (by simp [DataW.weights, DataW.weightsEach, Tryz.underlying23])); have h' : a2_3.size ≤ reachBytes := of_decide_eq_true this; simpa [reachBytes] using h'
  have q2_5 : a2_5.size ≤ 140737488351232 := by have := List.all_eq_true.1 hsz _ (DataW.weights_mem_each (j := 2) (t := 23) rfl rfl a2_5.size (by simp [DataW.weights, DataW.weightsEach, Tryz.underlying23])); have h' : a2_5.size ≤ reachBytes := of_decide_eq_true this; simpa [reachBytes] using h'
  have k3 := h3
  have lt3 : ∀ x ∈ p3, x.block < W.heap.size := by obtain ⟨m, hm⟩ := k3; exact DataW.trod_lt m _ _ _ hm
  obtain ⟨sl3, n3, c3, rfl⟩ := okWide_slice Tryz.underlying24 (hval 3 24 v3 rfl rfl)
  have row3 : AlSl W sl3 n3 c3 := by obtain ⟨fuel, hf⟩ := h3; exact al_row hf (reach_each hsz (j := 3) (t := 24) rfl rfl)
  clear hA0 hval0 hsz0 hsz
  refine (alarmOrder_walk W (of_laid hL) a0_0 w0_0 a0_1 w0_1 a0_2 w0_2 q0_2 a0_3 w0_3 q0_3 a0_4 w0_4 a0_5 w0_5 q0_5 a1_0 w1_0 a1_1 w1_1 a1_2 w1_2 q1_2 a1_3 w1_3 q1_3 a1_4 w1_4 a1_5 w1_5 q1_5 a2_0 w2_0 a2_1 w2_1 a2_2 w2_2 q2_2 a2_3 w2_3 q2_3 a2_4 w2_4 a2_5 w2_5 q2_5 sl3 n3 c3 row3).mono fun e W' ⟨he, hg⟩ => ?_
  subst he
  exact ⟨_, rfl, _, _, _, [], _, [], hW', trodAll_mk1 (shut_bool Tryz.underlying4 _), (trodAll_cons_mk (Below.trod laidOut (by kernel_rfl) (of_decide_eq_true (by kernel_rfl)) k0 hg lt0) (trodAll_cons_mk (Below.trod laidOut (by kernel_rfl) (of_decide_eq_true (by kernel_rfl)) k1 hg lt1) (trodAll_cons_mk (Below.trod laidOut (by kernel_rfl) (of_decide_eq_true (by kernel_rfl)) k2 hg lt2) (trodAll_cons_mk (Below.trod laidOut (by kernel_rfl) (of_decide_eq_true (by kernel_rfl)) k3 hg lt3) trodAll_mk0)))), rfl, hg.frame _, fun h => by cases h⟩

theorem over : Rows.alarmOrderRow.holds Tryz.pinned (OpenSpec.ofChange Rows.alarmOrderSpec) :=
  OpenClaim.holds_of_wide 6 Tryz.f6 rfl rfl rfl rfl rfl rfl rfl ⟨rfl, rfl, rfl, rfl, rfl⟩ rfl rfl rfl rfl rfl (by kernel_rfl) Tryz.func6 (by kernel_rfl)
    (of_decide_eq_true (by kernel_rfl)) (by unfold Func.isWrapper; first | (rw [if_pos (by decide +kernel)]; kernel_rfl) | (rw [if_neg (by decide +kernel)]; exact ⟨rfl, rfl⟩))
    (fun os started H enc _ => lifted os started H enc)

/-- ████ THE STATEMENT: the tied card ████ -/
theorem proved : Rows.AlarmOrderCardSaid :=
  Claim7.holds_tied_plain_at .later [] [.data, .data, .data] true (true, "5bbd808327469b1bb7eb736abb99048c9e625a79b02382035af60c7060f21c29") false
    over (fun _ h => by cases h) (by kernel_rfl) (fun _ h => by cases h) alarmOrder_row_tie rfl ⟨rfl, rfl⟩ (by kernel_rfl) rfl
    (fun f fn hf hfn => by
      obtain rfl : f = 6 := Option.some.inj ((show Tryz.prog.funcNamed "warrantor/warrantorlaw17.AlarmOrder" = some 6 by kernel_rfl).symm.trans hf) |>.symm
      obtain rfl : fn = Tryz.f6 := (Option.some.inj (Tryz.func6.symm.trans hfn)).symm
      exact ⟨by kernel_rfl, fun j t ht => by
        rw [Tryz.params6] at ht
        have hm : t ∈ [23, 24] := by have h := Array.mem_of_getElem? ht; revert h; simp
        have hall : ([23, 24].all fun u => !Tryz.prog.wantsStandIn u) = true := by kernel_rfl
        exact (show Tryz.prog.wantsStandIn t = false by simpa using List.all_eq_true.1 hall t hm)⟩)
    (by kernel_rfl)
#print axioms proved
end Go.Proofs.YtimgocfkogebmaaGreatDoor.alarmOrder
