/- cur: what a reader's step is run by; what becomes of it where the step stops. -/
import Derived.Test.YtkfgfbdlbiahkaaCurTake
import Derived.Defers
import Derived.Recover
import Derived.RegionTactic
namespace Go.Proofs.Ytkfgfbdlbiahkaa
open Go.RowKit
set_option linter.unusedVariables false

theorem idle_int (pf pv pr : Addr) (w : World) :
    CallsD Try.prog 58 #[.pointer (some pf), .pointer (some pv), .pointer (some pr)] .returning w fun e u' w' => e = .returned (.tuple #[]) ∧ u' = .returning ∧ w' = w := by
  refine callsD_of_wpS Try.func58 rfl fun c₀ cs hu => ?_
  simp only [Try.ntmps58, List.size_toArray, List.length_cons, List.length_nil, Nat.reduceAdd, Nat.reduceSub, Array.replicate_succ, Array.replicate_zero, List.push_toArray, List.append_toArray, List.nil_append, List.cons_append]
  apply wpS_seq
  apply wpS_region
  simp [wpOpsS, go_sem, recoverD, hu, Exit.thenS]
  refine wpS_of_wp ?_
  go_wp2
  cases c₀
  simp_all [bodyPostS, results, Try.results58]
theorem caught_int (f v b r : Nat) (a : Option Addr) (cap : Nat) (bs : List Int) (p q : Nat) (x : Int) (z : Value) (older : List PanicEntry) (w : World)
    (hf : w.cell? ⟨f, 0, none⟩ = some (.int .i64 p)) (hv : w.cell? ⟨v, 0, none⟩ = some z) (hv0 : w.frozen? ⟨v, 0, none⟩ = false) (hb : w.cell? ⟨b, 0, none⟩ = some (.pointer (some ⟨r, 0, none⟩)))
    (hr : Holds w r 68 #[.slice a bs.length cap, .int .i64 q, .int .i64 0]) (hvr : ¬ v = r) (hbr : ¬ b = r) (hfr : ¬ f = r) (hbv : ¬ b = v) (hfv : ¬ f = v) :
    CallsD Try.prog 58 #[.pointer (some ⟨f, 0, none⟩), .pointer (some ⟨v, 0, none⟩), .pointer (some ⟨b, 0, none⟩)] (.panicking ({ v := .iface 79 (.agg #[.int .i64 x]), recovered := false } :: older)) w fun e u' w' =>
      e = .returned (.tuple #[]) ∧ u' = .panicking ({ v := .iface 79 (.agg #[.int .i64 x]), recovered := true } :: older) ∧ Holds w' r 68 #[.slice a bs.length cap, .int .i64 p, .int .i64 x] ∧ w'.cell? ⟨v, 0, none⟩ = some (.int .i64 0) ∧ BelowE [r, v] w.heap.size w w' := by
  have hta : ∀ W, (Instr.typeAssert (.iface 79 (.agg #[.int .i64 x])) 20 79 true).run Try.prog W = .ok (.tuple #[.agg #[.int .i64 x], .bool true]) W := fun _ => by kernel_rfl
  have c1 := hr.cell 1
  have c0 := hr.cell 0
  have c2 := hr.cell 2
  have f1 := hr.free 1
  have f2 := hr.free 2
  simp at c0 c1 c2
  refine callsD_of_wpS Try.func58 rfl fun c₀ cs hu => ?_
  simp only [Try.ntmps58, List.size_toArray, List.length_cons, List.length_nil, Nat.reduceAdd, Nat.reduceSub, Array.replicate_succ, Array.replicate_zero, List.push_toArray, List.append_toArray, List.nil_append, List.cons_append]
  apply wpS_seq
  apply wpS_region
  simp [wpOpsS, go_sem, recoverD, hu, Exit.thenS]
  refine wpS_of_wp ?_
  go_wp2
  have lf : f < w.heap.size := World.block_lt_of_cell? w _ hf
  have lv : v < w.heap.size := World.block_lt_of_cell? w _ hv
  have lb : b < w.heap.size := World.block_lt_of_cell? w _ hb
  have lr : r < w.heap.size := World.block_lt_of_cell? w _ c0
  have hB : Below w.heap.size w (w.alloc (.cells #[.int .i64 x] 79)) := (Below.refl _ _).alloc (Nat.le_refl _) _
  have hr' := Lib.hid (hr.below hB lr)
  have hf' := (hB.cell (p := ⟨f, 0, none⟩) lf).trans hf
  have hv' := (hB.cell (p := ⟨v, 0, none⟩) lv).trans hv
  have hb' := (hB.cell (p := ⟨b, 0, none⟩) lb).trans hb
  have c1' := (hB.cell (p := ⟨r, 1, none⟩) lr).trans c1
  have c2' := (hB.cell (p := ⟨r, 2, none⟩) lr).trans c2
  have hv0' := (hB.frozen (p := ⟨v, 0, none⟩) lv).trans hv0
  have f1' := (hB.frozen (p := ⟨r, 1, none⟩) lr).trans f1
  have f2' := (hB.frozen (p := ⟨r, 2, none⟩) lr).trans f2
  have hg' : (w.alloc (.cells #[.int .i64 x] 79)).cell? ⟨w.heap.size, 0, none⟩ = some (.int .i64 x) := by simp [go_sem]
  have gv : ¬ w.heap.size = v := by omega
  have gr : ¬ w.heap.size = r := by omega
  have hB' := Lib.hid hB
  clear hf hv hb c0 c1 c2 hv0 f1 f2 hB lf lv lb lr hr
  generalize w.alloc (.cells #[.int .i64 x] 79) = W at *
  generalize hgw : w.heap.size = g at *
  have hgw' := Lib.hid hgw
  clear hgw
  go_region
  go_wp2
  refine ⟨rfl, _, rfl, _, results_none rfl _ _ _, rfl, rfl, ?_, ?_, ?_⟩
  · have h1 := ((hr'.out.far (p := ⟨v, 0, none⟩) (fun e => hvr e.symm) (.int .i64 0)).set 1 (.int .i64 p)).set 2 (.int .i64 x)
    simp at h1
    exact h1.drew
  · simp [go_sem, hv']
  · rw [hgw'.out]
    have h0 : BelowE [r, v] g w W := .of hB'.out
    exact (((h0.setIn (p := ⟨v, 0, none⟩) (by simp) _).setIn (p := ⟨r, 1, none⟩) (by simp) _).setIn (p := ⟨r, 2, none⟩) (by simp) _).drew

theorem idle_string (pf pv pr : Addr) (w : World) :
    CallsD Try.prog 77 #[.pointer (some pf), .pointer (some pv), .pointer (some pr)] .returning w fun e u' w' => e = .returned (.tuple #[]) ∧ u' = .returning ∧ w' = w := by
  refine callsD_of_wpS Try.func77 rfl fun c₀ cs hu => ?_
  simp only [Try.ntmps77, List.size_toArray, List.length_cons, List.length_nil, Nat.reduceAdd, Nat.reduceSub, Array.replicate_succ, Array.replicate_zero, List.push_toArray, List.append_toArray, List.nil_append, List.cons_append]
  apply wpS_seq
  apply wpS_region
  simp [wpOpsS, go_sem, recoverD, hu, Exit.thenS]
  refine wpS_of_wp ?_
  go_wp2
  cases c₀
  simp_all [bodyPostS, results, Try.results77]
theorem caught_string (f v b r : Nat) (a : Option Addr) (cap : Nat) (bs : List Int) (p q : Nat) (x : Int) (z : Value) (older : List PanicEntry) (w : World)
    (hf : w.cell? ⟨f, 0, none⟩ = some (.int .i64 p)) (hv : w.cell? ⟨v, 0, none⟩ = some z) (hv0 : w.frozen? ⟨v, 0, none⟩ = false) (hb : w.cell? ⟨b, 0, none⟩ = some (.pointer (some ⟨r, 0, none⟩)))
    (hr : Holds w r 68 #[.slice a bs.length cap, .int .i64 q, .int .i64 0]) (hvr : ¬ v = r) (hbr : ¬ b = r) (hfr : ¬ f = r) (hbv : ¬ b = v) (hfv : ¬ f = v) :
    CallsD Try.prog 77 #[.pointer (some ⟨f, 0, none⟩), .pointer (some ⟨v, 0, none⟩), .pointer (some ⟨b, 0, none⟩)] (.panicking ({ v := .iface 79 (.agg #[.int .i64 x]), recovered := false } :: older)) w fun e u' w' =>
      e = .returned (.tuple #[]) ∧ u' = .panicking ({ v := .iface 79 (.agg #[.int .i64 x]), recovered := true } :: older) ∧ Holds w' r 68 #[.slice a bs.length cap, .int .i64 p, .int .i64 x] ∧ w'.cell? ⟨v, 0, none⟩ = some (.string ⟨#[]⟩) ∧ BelowE [r, v] w.heap.size w w' := by
  have hta : ∀ W, (Instr.typeAssert (.iface 79 (.agg #[.int .i64 x])) 20 79 true).run Try.prog W = .ok (.tuple #[.agg #[.int .i64 x], .bool true]) W := fun _ => by kernel_rfl
  have c1 := hr.cell 1
  have c0 := hr.cell 0
  have c2 := hr.cell 2
  have f1 := hr.free 1
  have f2 := hr.free 2
  simp at c0 c1 c2
  refine callsD_of_wpS Try.func77 rfl fun c₀ cs hu => ?_
  simp only [Try.ntmps77, List.size_toArray, List.length_cons, List.length_nil, Nat.reduceAdd, Nat.reduceSub, Array.replicate_succ, Array.replicate_zero, List.push_toArray, List.append_toArray, List.nil_append, List.cons_append]
  apply wpS_seq
  apply wpS_region
  simp [wpOpsS, go_sem, recoverD, hu, Exit.thenS]
  refine wpS_of_wp ?_
  go_wp2
  have lf : f < w.heap.size := World.block_lt_of_cell? w _ hf
  have lv : v < w.heap.size := World.block_lt_of_cell? w _ hv
  have lb : b < w.heap.size := World.block_lt_of_cell? w _ hb
  have lr : r < w.heap.size := World.block_lt_of_cell? w _ c0
  have hB : Below w.heap.size w (w.alloc (.cells #[.int .i64 x] 79)) := (Below.refl _ _).alloc (Nat.le_refl _) _
  have hr' := Lib.hid (hr.below hB lr)
  have hf' := (hB.cell (p := ⟨f, 0, none⟩) lf).trans hf
  have hv' := (hB.cell (p := ⟨v, 0, none⟩) lv).trans hv
  have hb' := (hB.cell (p := ⟨b, 0, none⟩) lb).trans hb
  have c1' := (hB.cell (p := ⟨r, 1, none⟩) lr).trans c1
  have c2' := (hB.cell (p := ⟨r, 2, none⟩) lr).trans c2
  have hv0' := (hB.frozen (p := ⟨v, 0, none⟩) lv).trans hv0
  have f1' := (hB.frozen (p := ⟨r, 1, none⟩) lr).trans f1
  have f2' := (hB.frozen (p := ⟨r, 2, none⟩) lr).trans f2
  have hg' : (w.alloc (.cells #[.int .i64 x] 79)).cell? ⟨w.heap.size, 0, none⟩ = some (.int .i64 x) := by simp [go_sem]
  have gv : ¬ w.heap.size = v := by omega
  have gr : ¬ w.heap.size = r := by omega
  have hB' := Lib.hid hB
  clear hf hv hb c0 c1 c2 hv0 f1 f2 hB lf lv lb lr hr
  generalize w.alloc (.cells #[.int .i64 x] 79) = W at *
  generalize hgw : w.heap.size = g at *
  have hgw' := Lib.hid hgw
  clear hgw
  go_region
  go_wp2
  refine ⟨rfl, _, rfl, _, results_none rfl _ _ _, rfl, rfl, ?_, ?_, ?_⟩
  · have h1 := ((hr'.out.far (p := ⟨v, 0, none⟩) (fun e => hvr e.symm) (.string ⟨#[]⟩)).set 1 (.int .i64 p)).set 2 (.int .i64 x)
    simp at h1
    exact h1.drew
  · simp [go_sem, hv']
  · rw [hgw'.out]
    have h0 : BelowE [r, v] g w W := .of hB'.out
    exact (((h0.setIn (p := ⟨v, 0, none⟩) (by simp) _).setIn (p := ⟨r, 1, none⟩) (by simp) _).setIn (p := ⟨r, 2, none⟩) (by simp) _).drew

theorem err_any (r : Nat) (e : Int) (w : World) (hc : w.cell? ⟨r, 2, none⟩ = some (.int .i64 e)) :
    Calls Try.prog 29 #[.pointer (some ⟨r, 0, none⟩)] w fun e' w' => e' = .returned (.int .i64 e) ∧ w = w' := by
  go_enter Try.func29, Try.ntmps29
  go_wp2
  go_ret
  exact ⟨rfl, rfl⟩
theorem err_nil (w : World) :
    Calls Try.prog 29 #[.pointer none] w fun e' w' => e' = .returned (.int .i64 6) ∧ w = w' := by
  go_enter Try.func29, Try.ntmps29
  go_wp2
  go_ret
  exact ⟨rfl, rfl⟩

end Go.Proofs.Ytkfgfbdlbiahkaa
