/- wto: Parse. -/
import Derived.Test.YtpbminoefmpmpaaDoorWtoEntry
import Derived.Defers
import Derived.Recover
import Derived.RegionTactic
import Derived.Laws.ResultCell
namespace Go.Proofs.YtpbminoefmpmpaaDoor
open Go.RowKit
set_option linter.unusedVariables false
set_option linter.unusedSimpArgs false

theorem idle_parse (p1 p2 p3 : Addr) (w : World) :
    CallsD Tryd.prog 34 #[.pointer (some p1), .pointer (some p2), .pointer (some p3)] .returning w fun e u' w' => e = .returned (.tuple #[]) ∧ u' = .returning ∧ w' = w := by
  refine callsD_of_wpS Tryd.func34 rfl fun c₀ cs hu => ?_
  simp only [Tryd.ntmps34, List.size_toArray, List.length_cons, List.length_nil, Nat.reduceAdd, Nat.reduceSub, Array.replicate_succ, Array.replicate_zero, List.push_toArray, List.append_toArray, List.nil_append, List.cons_append]
  apply wpS_seq
  apply wpS_region
  simp [wpOpsS, go_sem, recoverD, hu, Exit.thenS]
  refine wpS_of_wp ?_
  go_wp2
  cases c₀
  simp_all [bodyPostS, results, Tryd.results34]
set_option maxRecDepth 100000 in
set_option maxHeartbeats 2000000 in
theorem caught_parse (g1 g2 g3 : Nat) (x : Int) (u v n e0 : Value) (older : List PanicEntry) (w : World) (h1 : Holds w g1 24 #[u, v]) (h2 : Holds w g2 3 #[n]) (h3 : Holds w g3 30 #[e0]) (h12 : ¬ g1 = g2) (h13 : ¬ g1 = g3) (h23 : ¬ g2 = g3) :
    CallsD Tryd.prog 34 #[.pointer (some ⟨g1, 0, none⟩), .pointer (some ⟨g2, 0, none⟩), .pointer (some ⟨g3, 0, none⟩)] (.panicking ({ v := .iface 53 (.agg #[.int .i64 x]), recovered := false } :: older)) w fun e u' w' =>
      e = .returned (.tuple #[]) ∧ u' = .panicking ({ v := .iface 53 (.agg #[.int .i64 x]), recovered := true } :: older) ∧ Holds w' g1 24 #[.slice none 0 0, .slice none 0 0] ∧ Holds w' g2 3 #[.int .i64 x] ∧ Holds w' g3 30 #[.int .i64 100] ∧ BelowE [g1, g2, g3] w.heap.size w w' := by
  have hta : ∀ W, (Instr.typeAssert (.iface 53 (.agg #[.int .i64 x])) 20 53 true).run Tryd.prog W = .ok (.tuple #[.agg #[.int .i64 x], .bool true]) W := fun _ => by kernel_rfl
  refine callsD_of_wpS Tryd.func34 rfl fun c₀ cs hu => ?_
  simp only [Tryd.ntmps34, List.size_toArray, List.length_cons, List.length_nil, Nat.reduceAdd, Nat.reduceSub, Array.replicate_succ, Array.replicate_zero, List.push_toArray, List.append_toArray, List.nil_append, List.cons_append]
  apply wpS_seq
  apply wpS_region
  simp [wpOpsS, go_sem, recoverD, hu, Exit.thenS]
  refine wpS_of_wp ?_
  go_wp2
  have hB : Below w.heap.size w (w.alloc (.cells #[.int .i64 x] 53)) := box_below _ _ _
  have H1 := Lib.hid (h1.below hB h1.lt)
  have H2 := Lib.hid (h2.below hB h2.lt)
  have H3 := Lib.hid (h3.below hB h3.lt)
  have l1 := h1.lt
  have l2 := h2.lt
  have l3 := h3.lt
  have c10 := H1.out.cell 0
  have c11 := H1.out.cell 1
  have c20 := H2.out.cell 0
  have c30 := H3.out.cell 0
  have f10 := H1.out.free 0
  have f11 := H1.out.free 1
  have f20 := H2.out.free 0
  have f30 := H3.out.free 0
  have cx : (w.alloc (.cells #[.int .i64 x] 53)).cell? ⟨w.heap.size, 0, none⟩ = some (.int .i64 x) := by simp [go_sem]
  simp at c10 c11 c20 c30
  have d1 : ¬ w.heap.size = g1 := by omega
  have d2 : ¬ w.heap.size = g2 := by omega
  have d3 : ¬ w.heap.size = g3 := by omega
  have h21 : ¬ g2 = g1 := fun e => h12 e.symm
  have h31 : ¬ g3 = g1 := fun e => h13 e.symm
  have h32 : ¬ g3 = g2 := fun e => h23 e.symm
  have hB' := Lib.hid hB
  clear h1 h2 h3 hB l1 l2 l3
  generalize w.alloc (.cells #[.int .i64 x] 53) = W at *
  generalize hgw : w.heap.size = g at *
  have hgw' := Lib.hid hgw
  clear hgw
  go_region
  go_wp2
  refine ⟨rfl, _, rfl, _, results_none rfl _ _ _, rfl, rfl, ?_, ?_, ?_, ?_⟩
  · have q := ((((H1.out.set 0 (.slice none 0 0)).set 1 (.slice none 0 0)).far (p := ⟨g2, 0, none⟩) h12 (.int .i64 x)).far (p := ⟨g3, 0, none⟩) h13 (.int .i64 100)).drew
    simpa using q
  · have q := ((((H2.out.far (p := ⟨g1, 0, none⟩) h21 (.slice none 0 0)).far (p := ⟨g1, 1, none⟩) h21 (.slice none 0 0)).set 0 (.int .i64 x)).far (p := ⟨g3, 0, none⟩) h23 (.int .i64 100)).drew
    simpa using q
  · have q := ((((H3.out.far (p := ⟨g1, 0, none⟩) h31 (.slice none 0 0)).far (p := ⟨g1, 1, none⟩) h31 (.slice none 0 0)).far (p := ⟨g2, 0, none⟩) h32 (.int .i64 x)).set 0 (.int .i64 100)).drew
    simpa using q
  · rw [hgw'.out]
    have h0 : BelowE [g1, g2, g3] g w W := .of hB'.out
    exact ((((h0.setIn (p := ⟨g1, 0, none⟩) (by simp) _).setIn (p := ⟨g1, 1, none⟩) (by simp) _).setIn (p := ⟨g2, 0, none⟩) (by simp) _).setIn (p := ⟨g3, 0, none⟩) (by simp) _).drew
theorem info_wto : (Tryd.prog.info? 24).map (fun i => i.size) = some 2 := by kernel_rfl
theorem parse_results (tmps : Array Value) (w : World) (g1 g2 g3 : Nat) (x y : Value) (n e : Int) (q1 : tmps.getD 2 undef = .pointer (some ⟨g1, 0, none⟩)) (q2 : tmps.getD 3 undef = .pointer (some ⟨g2, 0, none⟩)) (q3 : tmps.getD 4 undef = .pointer (some ⟨g3, 0, none⟩)) (h1 : Holds w g1 24 #[x, y]) (h2 : Holds w g2 3 #[.int .i64 n]) (h3 : Holds w g3 30 #[.int .i64 e]) :
    (results Tryd.f21 tmps).run Tryd.prog w = .ok (.tuple #[.agg #[x, y], .int .i64 n, .int .i64 e]) w := by
  have c2 := h2.cell 0
  have c3 := h3.cell 0
  simp at c2 c3
  have r1 := run_loadVar_row (P := Tryd.prog) w g1 24 24 #[x, y] (0, 0) _ h1 Tryd.underlying24 rfl (by first | (rw [info_wto]; rfl) | exact info_wto)
  rw [Array.getD_eq_getD_getElem?] at q1 q2 q3
  simp [results, Tryd.results21, q1, q2, q3, asAddr, r1, Sem.run_bind, Result.andThen]
  simp [go_sem, c2, c3, Result.andThen]
/-- An order that is parsed. -/
def ParE (P S : List Int) (s : ByteArray) (w : World) (e : Ending) (w' : World) : Prop := ∃ aP cP aS cS, e = .returned (.tuple #[.agg #[.slice aP P.length cP, .slice aS P.length cS], .int .i64 (s.size : Nat), .int .i64 0]) ∧ WA w' aP P.length cP P aS P.length cS S ∧ Below w.heap.size w w'
set_option maxRecDepth 100000 in
theorem lit_rc (s : ByteArray) (P : List Int) : (Tryd.zeroCells58).setIfInBounds 0 (.string s) = rcells s 0 (.slice none 0 0) (.slice none 0 0) P 0 := by
  unfold rcells
  rw [seen_zero]
  kernel_rfl
set_option maxRecDepth 100000 in
set_option maxHeartbeats 4000000 in
theorem parse_ok (s : ByteArray) (P S : List Int) (hs : s.size ≤ 4096) (hs0 : 0 < s.size) (hlen : P.length = S.length) (q a1 : Nat) (Z1 : List Int) (hE : ∀ w0 B r W, RdI w0 B r s 0 0 P [] none none 0 0 W → Calls Tryd.prog 35 #[.pointer (some ⟨r, 0, none⟩), .int .i64 0] W (RdN w0 B r s q a1 P Z1)) (hMo : ∀ w0 B r W aP aS cP cS, RdI w0 B r s q a1 P Z1 aP aS cP cS W → Calls Tryd.prog 36 #[.pointer (some ⟨r, 0, none⟩), .int .i64 0] W (RdN w0 B r s s.size P.length P S)) (w : World) :
    Calls Tryd.prog 21 #[.string s] w (ParE P S s w) := by
  have hmf : ∀ (fn : Fn) (first cap : Array Value) (w : World), (Instr.makeFunc fn first cap).run Tryd.prog w = .ok (.func fn first cap) w := fun _ _ _ _ => rfl
  have hlit := Lib.hid (lit_rc s P)
  have hem : s.toList.isEmpty = false := by
    rw [ByteArray.toList_eq]
    cases hq : s.data.toList with
    | nil =>
      have h0 : s.size = 0 := by have := congrArg List.length hq; rw [Array.length_toList] at this; exact this
      omega
    | cons c l => rfl
  have hsi : ((s.size : Nat) : Int) ≤ 4096 := by omega
  have hE' := Lib.hid hE
  have hM' := Lib.hid hMo
  have hLen := Lib.hid hlen
  clear hE hMo hlen
  obtain ⟨W3, hW3⟩ : ∃ W3, W3 = ((w.alloc (.cells #[.slice none 0 0, .slice none 0 0] 24)).alloc (.cells #[.int .i64 0] 3)).alloc (.cells #[.int .i64 0] 30) := ⟨_, rfl⟩
  have z3 : W3.heap.size = w.heap.size + 1 + 1 + 1 := by rw [hW3]; simp
  have G1 : Holds W3 w.heap.size 24 #[.slice none 0 0, .slice none 0 0] := by rw [hW3]; exact ((Holds.new w _ _).alloc _).alloc _
  have G2 : Holds W3 (w.heap.size + 1) 3 #[.int .i64 0] := by
    rw [hW3]
    have q := (Holds.new (w.alloc (.cells #[.slice none 0 0, .slice none 0 0] 24)) 3 #[.int .i64 0]).alloc (.cells #[.int .i64 0] 30)
    simpa using q
  have G3 : Holds W3 (w.heap.size + 1 + 1) 30 #[.int .i64 0] := by
    rw [hW3]
    have q := Holds.new ((w.alloc (.cells #[.slice none 0 0, .slice none 0 0] 24)).alloc (.cells #[.int .i64 0] 3)) 30 #[.int .i64 0]
    simpa using q
  have B3 : Below w.heap.size w W3 := by rw [hW3]; exact (((Below.refl _ _).alloc (Nat.le_refl _) _).alloc (by simp) _).alloc (by simp; omega) _
  obtain ⟨W4, hW4⟩ : ∃ W4, W4 = W3.alloc (.cells (rcells s 0 (.slice none 0 0) (.slice none 0 0) P 0) 58) := ⟨_, rfl⟩
  have z4 : W4.heap.size = w.heap.size + 4 := by rw [hW4]; simp [z3]
  have b4 : Below W3.heap.size W3 W4 := by rw [hW4]; exact box_below _ _ _
  have R4 : RdI W4 W4.heap.size (w.heap.size + 1 + 1 + 1) s 0 0 P [] none none 0 0 W4 := ⟨by rw [hW4, ← z3]; exact Holds.new _ _ _, World.ownsRow_nil _ _ _ _, World.ownsRow_nil _ _ _ _, fun x hx => (by cases hx), by omega, Nat.le_refl _, BelowE.refl _ _ _⟩
  have H1 := Lib.hid (G1.below b4 G1.lt)
  have H2 := Lib.hid (G2.below b4 G2.lt)
  have H3 := Lib.hid (G3.below b4 G3.lt)
  have B4 := Lib.hid (B3.trans (b4.mono B3.size))
  have hR := Lib.hid R4
  have hW3' := Lib.hid hW3
  have hW4' := Lib.hid hW4
  have z3' := Lib.hid z3
  have z4' := Lib.hid z4
  clear hW3 hW4 G1 G2 G3 B3 b4 R4 z3 z4
  go_enter_defers Tryd.func21, Tryd.ntmps21
  go_wp2_with fail
  rw [hlit.out, ← hW3'.out, ← hW4'.out]
  refine (hE'.out _ _ _ _ hR.out).mono ?_
  rintro e w5 ⟨rfl, aP5, aS5, cP5, cS5, h5⟩
  have q5 := Lib.hid (hM'.out _ _ _ _ _ _ _ _ h5)
  clear hE' hM' h5 hR hlit hW3' hW4'
  go_wp2_with fail
  refine q5.out.mono ?_
  rintro e w6 ⟨rfl, aP, aS, cP, cS, h6⟩
  have hz := z4'.out
  have K1 := Lib.hid (H1.out.belowE h6.bel (by omega) (by simp; omega))
  have K2 := Lib.hid (H2.out.belowE h6.bel (by omega) (by simp))
  have K3 := Lib.hid (H3.out.belowE h6.bel (by omega) (by simp))
  have k1 := (h6.blk.cell 1).trans (rc1 _ _ _ _ _ _)
  have k2 := (h6.blk.cell 2).trans (rc2 _ _ _ _ _ _)
  have k3 := (h6.blk.cell 3).trans (rc3 _ _ _ _ _ _)
  have c10 := K1.out.cell 0
  have c11 := K1.out.cell 1
  have c20 := K2.out.cell 0
  have c30 := K3.out.cell 0
  have f10 := K1.out.free 0
  have f11 := K1.out.free 1
  have f20 := K2.out.free 0
  have f30 := K3.out.free 0
  simp at c10 c11 c20 c30
  have hsz6 : w.heap.size + 4 ≤ w6.heap.size := by have := h6.bel.size; omega
  have H6 := Lib.hid h6
  clear q5 h6 hz
  go_wp2_with fail
  refine leaves_cons (f := 34) (args := #[.pointer (some ⟨w.heap.size, 0, none⟩), .pointer (some ⟨w.heap.size + 1, 0, none⟩), .pointer (some ⟨w.heap.size + 1 + 1, 0, none⟩)]) (by simp) (by simp [go_sem]) ?_
  refine (idle_parse _ _ _ _).mono ?_
  rintro e u' w7 ⟨rfl, rfl, rfl⟩
  simp only [Leaves, settle]
  have M1 : Holds ((((w6.setCell ⟨w.heap.size, 0, none⟩ (.slice aP P.length cP)).setCell ⟨w.heap.size, 1, none⟩ (.slice aS P.length cS)).setCell ⟨w.heap.size + 1, 0, none⟩ (.int .i64 (s.size : Nat))).setCell ⟨w.heap.size + 1 + 1, 0, none⟩ (.int .i64 0)) w.heap.size 24 #[.slice aP P.length cP, .slice aS P.length cS] := by
    have q := (((K1.out.set 0 (.slice aP P.length cP)).set 1 (.slice aS P.length cS)).far (p := ⟨w.heap.size + 1, 0, none⟩) (by show ¬ w.heap.size = w.heap.size + 1; omega) (.int .i64 (s.size : Nat))).far (p := ⟨w.heap.size + 1 + 1, 0, none⟩) (by show ¬ w.heap.size = w.heap.size + 1 + 1; omega) (.int .i64 0)
    simpa using q
  have M2 : Holds ((((w6.setCell ⟨w.heap.size, 0, none⟩ (.slice aP P.length cP)).setCell ⟨w.heap.size, 1, none⟩ (.slice aS P.length cS)).setCell ⟨w.heap.size + 1, 0, none⟩ (.int .i64 (s.size : Nat))).setCell ⟨w.heap.size + 1 + 1, 0, none⟩ (.int .i64 0)) (w.heap.size + 1) 3 #[.int .i64 (s.size : Nat)] := by
    have q := (((K2.out.far (p := ⟨w.heap.size, 0, none⟩) (by show ¬ w.heap.size + 1 = w.heap.size; omega) (.slice aP P.length cP)).far (p := ⟨w.heap.size, 1, none⟩) (by show ¬ w.heap.size + 1 = w.heap.size; omega) (.slice aS P.length cS)).set 0 (.int .i64 (s.size : Nat))).far (p := ⟨w.heap.size + 1 + 1, 0, none⟩) (by show ¬ w.heap.size + 1 = w.heap.size + 1 + 1; omega) (.int .i64 0)
    simpa using q
  have M3 : Holds ((((w6.setCell ⟨w.heap.size, 0, none⟩ (.slice aP P.length cP)).setCell ⟨w.heap.size, 1, none⟩ (.slice aS P.length cS)).setCell ⟨w.heap.size + 1, 0, none⟩ (.int .i64 (s.size : Nat))).setCell ⟨w.heap.size + 1 + 1, 0, none⟩ (.int .i64 0)) (w.heap.size + 1 + 1) 30 #[.int .i64 0] := by
    have q := (((K3.out.far (p := ⟨w.heap.size, 0, none⟩) (by show ¬ w.heap.size + 1 + 1 = w.heap.size; omega) (.slice aP P.length cP)).far (p := ⟨w.heap.size, 1, none⟩) (by show ¬ w.heap.size + 1 + 1 = w.heap.size; omega) (.slice aS P.length cS)).far (p := ⟨w.heap.size + 1, 0, none⟩) (by show ¬ w.heap.size + 1 + 1 = w.heap.size + 1; omega) (.int .i64 (s.size : Nat))).set 0 (.int .i64 0)
    simpa using q
  have E4 : BelowE [w.heap.size, w.heap.size + 1, w.heap.size + 1 + 1] w6.heap.size w6 ((((w6.setCell ⟨w.heap.size, 0, none⟩ (.slice aP P.length cP)).setCell ⟨w.heap.size, 1, none⟩ (.slice aS P.length cS)).setCell ⟨w.heap.size + 1, 0, none⟩ (.int .i64 (s.size : Nat))).setCell ⟨w.heap.size + 1 + 1, 0, none⟩ (.int .i64 0)) :=
    (((((BelowE.refl _ _ _).setIn (p := ⟨w.heap.size, 0, none⟩) (by simp) _).setIn (p := ⟨w.heap.size, 1, none⟩) (by simp) _).setIn (p := ⟨w.heap.size + 1, 0, none⟩) (by simp) _).setIn (p := ⟨w.heap.size + 1 + 1, 0, none⟩) (by simp) _)
  have hz := z4'.out
  have B6 : Below w.heap.size w w6 := B4.out.trans (BelowE.none ((H6.out.bel.mono B4.out.size).less (Y := []) (fun x hx hl => by simp at hx; omega)))
  refine ⟨_, parse_results _ _ w.heap.size (w.heap.size + 1) (w.heap.size + 1 + 1) _ _ _ _ rfl rfl rfl M1 M2 M3, aP, cP, aS, cS, rfl, ?_, B6.trans (BelowE.none ((E4.mono B6.size).less (Y := []) (fun x hx hl => by simp at hx; omega)))⟩
  have hsl : ∀ (a : Option Addr) (c : Nat) (l : List Int), l.length = P.length → w6.ownsRow W4.heap.size 3 1 (.slice a P.length c) P.length (nums .i64 l) → SL ((((w6.setCell ⟨w.heap.size, 0, none⟩ (.slice aP P.length cP)).setCell ⟨w.heap.size, 1, none⟩ (.slice aS P.length cS)).setCell ⟨w.heap.size + 1, 0, none⟩ (.int .i64 (s.size : Nat))).setCell ⟨w.heap.size + 1 + 1, 0, none⟩ (.int .i64 0)) a P.length c l := fun a c l hl ho => by
    have o := own_belowE ho E4 (fun k hk hx => by have := (ho.lt k hk).1; simp at hx; omega)
    obtain ⟨a', c', e, -, sv⟩ := sees_own (l := l) o
    injection e with e1 e2 e3
    subst e1
    refine ⟨hl.symm, own_cap o, ?_, sv⟩
    rcases o.2 with ⟨h1, h2⟩ | ⟨g, cap, cur, h1, h2, h3, h4, h5, _⟩
    · omega
    · injection h1 with _ _ h1; unfold maxLen at h5; omega
  have oP := H6.out.rp
  rw [List.take_length] at oP
  exact ⟨hsl _ _ _ rfl oP, hsl _ _ _ hLen.out.symm H6.out.rz⟩
set_option maxRecDepth 100000 in
set_option maxHeartbeats 4000000 in
theorem parse_bad (s : ByteArray) (P S : List Int) (hs : s.size ≤ 4096) (hs0 : 0 < s.size) (x : Nat) (q a1 : Nat) (Z1 : List Int) (hE : ∀ w0 B r W, RdI w0 B r s 0 0 P [] none none 0 0 W → Calls Tryd.prog 35 #[.pointer (some ⟨r, 0, none⟩), .int .i64 0] W (RdN w0 B r s q a1 P Z1)) (hMo : ∀ w0 B r W aP aS cP cS, RdI w0 B r s q a1 P Z1 aP aS cP cS W → Calls Tryd.prog 36 #[.pointer (some ⟨r, 0, none⟩), .int .i64 0] W (PanE (x : Int) w0 B r)) (w : World) :
    Calls Tryd.prog 21 #[.string s] w (Gives (.tuple #[.agg #[.slice none 0 0, .slice none 0 0], .int .i64 (x : Nat), .int .i64 100]) w) := by
  have hmf : ∀ (fn : Fn) (first cap : Array Value) (w : World), (Instr.makeFunc fn first cap).run Tryd.prog w = .ok (.func fn first cap) w := fun _ _ _ _ => rfl
  have hlit := Lib.hid (lit_rc s P)
  have hem : s.toList.isEmpty = false := by
    rw [ByteArray.toList_eq]
    cases hq : s.data.toList with
    | nil =>
      have h0 : s.size = 0 := by have := congrArg List.length hq; rw [Array.length_toList] at this; exact this
      omega
    | cons c l => rfl
  have hsi : ((s.size : Nat) : Int) ≤ 4096 := by omega
  have hE' := Lib.hid hE
  have hM' := Lib.hid hMo
  clear hE hMo
  obtain ⟨W3, hW3⟩ : ∃ W3, W3 = ((w.alloc (.cells #[.slice none 0 0, .slice none 0 0] 24)).alloc (.cells #[.int .i64 0] 3)).alloc (.cells #[.int .i64 0] 30) := ⟨_, rfl⟩
  have z3 : W3.heap.size = w.heap.size + 1 + 1 + 1 := by rw [hW3]; simp
  have G1 : Holds W3 w.heap.size 24 #[.slice none 0 0, .slice none 0 0] := by rw [hW3]; exact ((Holds.new w _ _).alloc _).alloc _
  have G2 : Holds W3 (w.heap.size + 1) 3 #[.int .i64 0] := by
    rw [hW3]
    have q := (Holds.new (w.alloc (.cells #[.slice none 0 0, .slice none 0 0] 24)) 3 #[.int .i64 0]).alloc (.cells #[.int .i64 0] 30)
    simpa using q
  have G3 : Holds W3 (w.heap.size + 1 + 1) 30 #[.int .i64 0] := by
    rw [hW3]
    have q := Holds.new ((w.alloc (.cells #[.slice none 0 0, .slice none 0 0] 24)).alloc (.cells #[.int .i64 0] 3)) 30 #[.int .i64 0]
    simpa using q
  have B3 : Below w.heap.size w W3 := by rw [hW3]; exact (((Below.refl _ _).alloc (Nat.le_refl _) _).alloc (by simp) _).alloc (by simp; omega) _
  obtain ⟨W4, hW4⟩ : ∃ W4, W4 = W3.alloc (.cells (rcells s 0 (.slice none 0 0) (.slice none 0 0) P 0) 58) := ⟨_, rfl⟩
  have z4 : W4.heap.size = w.heap.size + 4 := by rw [hW4]; simp [z3]
  have b4 : Below W3.heap.size W3 W4 := by rw [hW4]; exact box_below _ _ _
  have R4 : RdI W4 W4.heap.size (w.heap.size + 1 + 1 + 1) s 0 0 P [] none none 0 0 W4 := ⟨by rw [hW4, ← z3]; exact Holds.new _ _ _, World.ownsRow_nil _ _ _ _, World.ownsRow_nil _ _ _ _, fun x hx => (by cases hx), by omega, Nat.le_refl _, BelowE.refl _ _ _⟩
  have H1 := Lib.hid (G1.below b4 G1.lt)
  have H2 := Lib.hid (G2.below b4 G2.lt)
  have H3 := Lib.hid (G3.below b4 G3.lt)
  have B4 := Lib.hid (B3.trans (b4.mono B3.size))
  have hR := Lib.hid R4
  have hW3' := Lib.hid hW3
  have hW4' := Lib.hid hW4
  have z3' := Lib.hid z3
  have z4' := Lib.hid z4
  clear hW3 hW4 G1 G2 G3 B3 b4 R4 z3 z4
  go_enter_defers Tryd.func21, Tryd.ntmps21
  go_wp2_with fail
  rw [hlit.out, ← hW3'.out, ← hW4'.out]
  refine (hE'.out _ _ _ _ hR.out).mono ?_
  rintro e w5 ⟨rfl, aP5, aS5, cP5, cS5, h5⟩
  have q5 := Lib.hid (hM'.out _ _ _ _ _ _ _ _ h5)
  clear hE' hM' h5 hR hlit hW3' hW4'
  go_wp2_with fail
  refine q5.out.mono ?_
  rintro e w6 ⟨rfl, b6⟩
  have hz := z4'.out
  have K1 := H1.out.belowE b6 (by omega) (by simp; omega)
  have K2 := H2.out.belowE b6 (by omega) (by simp)
  have K3 := H3.out.belowE b6 (by omega) (by simp)
  have B6 := Lib.hid (show Below w.heap.size w w6 from B4.out.trans (BelowE.none ((b6.mono B4.out.size).less (Y := []) (fun x hx hl => by simp at hx; omega))))
  clear q5 b6 hz
  go_wp2_with fail
  refine leaves_cons (f := 34) (args := #[.pointer (some ⟨w.heap.size, 0, none⟩), .pointer (some ⟨w.heap.size + 1, 0, none⟩), .pointer (some ⟨w.heap.size + 1 + 1, 0, none⟩)]) (by simp) (by simp [go_sem]) ?_
  refine (caught_parse w.heap.size (w.heap.size + 1) (w.heap.size + 1 + 1) x _ _ _ _ [] w6 K1 K2 K3 (by omega) (by omega) (by omega)).mono ?_
  rintro e u' w7 ⟨rfl, rfl, m1, m2, m3, m4⟩
  simp [Leaves, settle]
  exact ⟨_, parse_results _ _ w.heap.size (w.heap.size + 1) (w.heap.size + 1 + 1) _ _ _ _ rfl rfl rfl m1 m2 m3, rfl, B6.out.trans (BelowE.none ((m4.mono B6.out.size).less (Y := []) (fun x hx hl => by simp at hx; omega)))⟩
end Go.Proofs.YtpbminoefmpmpaaDoor
