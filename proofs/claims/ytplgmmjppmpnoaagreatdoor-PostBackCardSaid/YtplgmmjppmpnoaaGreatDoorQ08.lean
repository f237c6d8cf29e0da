import Derived.Test.YtplgmmjppmpnoaaGreatDoorQ07
/- Zones put together: Leq; the document's Two, Leq, Meet, Join, Widen. (Written by gen-zone-ref.py.) -/
namespace Go.Proofs.YtplgmmjppmpnoaaGreatDoor
open Go.RowKit
set_option linter.unusedVariables false
set_option linter.unusedSimpArgs false

/-- A zone that the document's functions hand back: empty, or in new memory. -/
def ZoneN (n : Int) (l : List Int) (w : World) (e : Ending) (w' : World) : Prop := ∃ a m c, e = .returned (.agg #[.int .i64 n, .slice a m c]) ∧ SL w' a m c l ∧ Below w.heap.size w w' ∧ (l = [] ∨ New w a)
def ZoneR (n : Int) (l : List Int) (w : World) (e : Ending) (w' : World) : Prop := ∃ a m c, e = .returned (.agg #[.int .i64 n, .slice a m c]) ∧ SL w' a m c l ∧ Below w.heap.size w w'
theorem ZoneN.r {n : Int} {l : List Int} {w : World} {e : Ending} {w' : World} (h : ZoneN n l w e w') : ZoneR n l w e w' := by
  obtain ⟨a, m, c, h1, h2, h3, -⟩ := h
  exact ⟨a, m, c, h1, h2, h3⟩
theorem zoneN_of {n : Int} {l : List Int} {w : World} {e : Ending} {w' : World} (hl : l.length ≤ 1000) (h : ZoneS n l w e w') : ZoneN n l w e w' := by
  obtain ⟨a, c, h1, h2, h3, h4, h5⟩ := h
  exact ⟨a, l.length, c, h1, ⟨rfl, h2, by omega, h3⟩, h4, .inr h5⟩
theorem sl_set {w : World} {a : Option Addr} {m c : Nat} {l : List Int} (h : SL w a m c l) (g : Nat) (hg : l = [] ∨ ∀ p, a = some p → g ≠ p.block) (x y : Value) : SL ((w.setCell ⟨g, 0, none⟩ x).setCell ⟨g, 1, none⟩ y) a m c l := by
  refine ⟨h.len, h.cap, h.max, ?_⟩
  rcases hg with e | hg
  · exact .inl e
  · have := sees_other (sees_other h.sees g hg 0 x) g hg 1 y
    simpa using this
/-- A zone handed back, put into a block. -/
theorem zone_putN {n : Int} {R : List Int} {w W1 w3 : World} {g : Nat} {a : Option Addr} {m c : Nat} {z0 z1 : Value} (hB : Below w.heap.size w W1) (hg : w.heap.size ≤ g) (hz : ZH W1 g z0 z1) (hs : SL w3 a m c R) (hb : Below W1.heap.size W1 w3) (hnw : R = [] ∨ New W1 a) :
    ZH ((w3.setCell ⟨g, 0, none⟩ (.int .i64 n)).setCell ⟨g, 1, none⟩ (.slice a m c)) g (.int .i64 n) (.slice a m c) ∧
      ZoneN n R w (.returned (.agg #[.int .i64 n, .slice a m c])) ((w3.setCell ⟨g, 0, none⟩ (.int .i64 n)).setCell ⟨g, 1, none⟩ (.slice a m c)) := by
  have hlt := hz.lt
  have hs2 := sl_set hs g (hnw.imp id (fun h p hp => by have := h p hp; omega)) (.int .i64 n) (.slice a m c)
  have hbb : Below w.heap.size w ((w3.setCell ⟨g, 0, none⟩ (.int .i64 n)).setCell ⟨g, 1, none⟩ (.slice a m c)) := ((hB.trans (hb.mono hB.size)).setCell (p := ⟨g, 0, none⟩) hg _).setCell (p := ⟨g, 1, none⟩) hg _
  exact ⟨zh_set (hz.below hb hlt) _ _, a, m, c, rfl, hs2, hbb, hnw.imp id (fun h p hp => Nat.le_trans hB.size (h p hp))⟩
/-- Has the second one all of the first one? -/
def leqB (l1 l2 : List Int) : Bool := if l1 = [] then true else if l2 = [] then false else (List.range l1.length).all fun t => decide (l1.getD t 0 ≤ l2.getD t 0)
theorem leq_yes {l1 l2 : List Int} (h1 : l1 ≠ []) (h2 : l2 ≠ []) (h : ∀ t, t < l1.length → l1.getD t 0 ≤ l2.getD t 0) : leqB l1 l2 = true := by
  unfold leqB
  rw [if_neg h1, if_neg h2]
  exact List.all_eq_true.2 (fun t ht => decide_eq_true (h t (List.mem_range.1 ht)))
theorem leq_no {l1 l2 : List Int} (h1 : l1 ≠ []) (h2 : l2 ≠ []) {t : Nat} (ht : t < l1.length) (h : ¬ l1.getD t 0 ≤ l2.getD t 0) : leqB l1 l2 = false := by
  unfold leqB
  rw [if_neg h1, if_neg h2]
  exact List.all_eq_false.2 ⟨t, List.mem_range.2 ht, by rw [decide_eq_false h]; decide⟩
theorem three_new (w : World) (x1 y1 x2 y2 x3 y3 : Value) : Below w.heap.size w (((w.alloc (.cells #[x1, y1] 24)).alloc (.cells #[x2, y2] 24)).alloc (.cells #[x3, y3] 24)) ∧ ZH (((w.alloc (.cells #[x1, y1] 24)).alloc (.cells #[x2, y2] 24)).alloc (.cells #[x3, y3] 24)) (w.heap.size + 1 + 1) x3 y3 := by
  refine ⟨(box2_below _ _ _ _ _).alloc (by simp; omega) _, ?_⟩
  have := Holds.new ((w.alloc (.cells #[x1, y1] 24)).alloc (.cells #[x2, y2] 24)) 24 #[x3, y3]
  simpa using this
/-- Two zones' blocks. -/
structure B2 (w W : World) (x1 y1 x2 y2 : Value) : Prop where
  bl : Below w.heap.size w W
  z1 : ZH W w.heap.size x1 y1
  z2 : ZH W (w.heap.size + 1) x2 y2
theorem B2.on {w W W' : World} {x1 y1 x2 y2 : Value} (h : B2 w W x1 y1 x2 y2) (hb : Below W.heap.size W W') : B2 w W' x1 y1 x2 y2 := ⟨h.bl.trans (hb.mono h.bl.size), h.z1.below hb h.z1.lt, h.z2.below hb h.z2.lt⟩
theorem b2_new (w : World) (x1 y1 x2 y2 : Value) : B2 w ((w.alloc (.cells #[x1, y1] 24)).alloc (.cells #[x2, y2] 24)) x1 y1 x2 y2 := by
  refine ⟨box2_below _ _ _ _ _, (Holds.new w _ _).alloc _, ?_⟩
  have := Holds.new (w.alloc (.cells #[x1, y1] 24)) 24 #[x2, y2]
  simpa using this
set_option maxRecDepth 100000 in
set_option maxHeartbeats 1000000 in
theorem zleq_bad (n1 n2 : Int) (a1 a2 : Option Addr) (m1 m2 c1 c2 : Nat) (l1 l2 : List Int) (w : World) (h1 : SL w a1 m1 c1 l1) (h2 : SL w a2 m2 c2 l2) (hne : twoE n1 l1 n2 l2 ≠ 0) : Calls Tryz.prog 19 #[.agg #[.int .i64 n1, .slice a1 m1 c1], .agg #[.int .i64 n2, .slice a2 m2 c2]] w (Gives (.tuple #[.bool false, .int .i64 (twoE n1 l1 n2 l2)]) w) := by
  obtain ⟨W1, hW1⟩ : ∃ W1, W1 = (w.alloc (.cells #[.int .i64 n1, .slice a1 m1 c1] 24)).alloc (.cells #[.int .i64 n2, .slice a2 m2 c2] 24) := ⟨_, rfl⟩
  have X1 : B2 w W1 (.int .i64 n1) (.slice a1 m1 c1) (.int .i64 n2) (.slice a2 m2 c2) := by rw [hW1]; exact b2_new _ _ _ _ _
  have H1 := Lib.hid h1
  have H2 := Lib.hid h2
  have X1' := Lib.hid X1
  have hW1' := Lib.hid hW1
  have q1 := Lib.hid (ztwo_any n1 n2 a1 a2 l1 l2 m1 m2 c1 c2 W1 (h1.below X1.bl) (h2.below X1.bl))
  clear hW1 X1 h1 h2
  generalize twoE n1 l1 n2 l2 = E at *
  have e1 : (E != 0) = true := by simpa using hne
  go_enter Tryz.func19, Tryz.ntmps19
  go_wp2_with fail
  rw [← hW1'.out]
  refine q1.out.mono ?_
  rintro e w2 ⟨rfl, b2⟩
  have X2 := Lib.hid (X1'.out.on b2)
  clear b2 X1' q1
  go_wp2
  go_ret2
  exact ⟨rfl, X2.out.bl⟩
set_option maxRecDepth 100000 in
set_option maxHeartbeats 1000000 in
theorem zleq_a (a1 a2 : Option Addr) (m1 m2 c1 c2 : Nat) (l1 l2 : List Int) (n : Nat) (z1 : IsZ n l1) (z2 : IsZ n l2) (w : World) (h1 : SL w a1 m1 c1 l1) (h2 : SL w a2 m2 c2 l2) (hn : l1 = []) : Calls Tryz.prog 19 #[.agg #[.int .i64 n, .slice a1 m1 c1], .agg #[.int .i64 n, .slice a2 m2 c2]] w (Gives (.tuple #[.bool true, .int .i64 0]) w) := by
  obtain ⟨W1, hW1⟩ : ∃ W1, W1 = (w.alloc (.cells #[.int .i64 n, .slice a1 m1 c1] 24)).alloc (.cells #[.int .i64 n, .slice a2 m2 c2] 24) := ⟨_, rfl⟩
  have X1 : B2 w W1 (.int .i64 n) (.slice a1 m1 c1) (.int .i64 n) (.slice a2 m2 c2) := by rw [hW1]; exact b2_new _ _ _ _ _
  have H1 := Lib.hid h1
  have H2 := Lib.hid h2
  have X1' := Lib.hid X1
  have hW1' := Lib.hid hW1
  have q1 := Lib.hid (ztwo_any n n a1 a2 l1 l2 m1 m2 c1 c2 W1 (h1.below X1.bl) (h2.below X1.bl))
  rw [z1.two z2] at q1
  have q2 := Lib.hid (fun W (hW : Below w.heap.size w W) => zempty_any n a1 m1 c1 l1 W (H1.out.below hW))
  have q3 := Lib.hid (fun W (hW : Below w.heap.size w W) => zempty_any n a2 m2 c2 l2 W (H2.out.below hW))
  rw [decide_eq_true hn] at q2
  clear hW1 X1 h1 h2 hn
  go_enter Tryz.func19, Tryz.ntmps19
  go_wp2_with fail
  rw [← hW1'.out]
  refine q1.out.mono ?_
  rintro e w2 ⟨rfl, b2⟩
  have X2 := Lib.hid (X1'.out.on b2)
  clear b2 X1' q1
  have k0 := X2.out.z1.cell 0
  have k1 := X2.out.z1.cell 1
  have p2 := Lib.hid (q2.out w2 X2.out.bl)
  go_wp2_with fail
  refine p2.out.mono ?_
  rintro e w3 ⟨rfl, b3⟩
  have X3 := Lib.hid (X2.out.on b3)
  clear b3 X2 p2 k0 k1
  have k0 := X3.out.z1.cell 0
  have k1 := X3.out.z1.cell 1
  have p5 := Lib.hid (q2.out w3 X3.out.bl)
  go_wp2_with fail
  refine p5.out.mono ?_
  rintro e w5 ⟨rfl, b5⟩
  have X5 := Lib.hid (X3.out.on b5)
  clear b5 p5 k0 k1
  go_wp2
  go_ret2
  exact ⟨rfl, X5.out.bl⟩
theorem zleq_b (a1 a2 : Option Addr) (m1 m2 c1 c2 : Nat) (l1 l2 : List Int) (n : Nat) (z1 : IsZ n l1) (z2 : IsZ n l2) (w : World) (h1 : SL w a1 m1 c1 l1) (h2 : SL w a2 m2 c2 l2) (hn1 : l1 ≠ []) (hn : l2 = []) : Calls Tryz.prog 19 #[.agg #[.int .i64 n, .slice a1 m1 c1], .agg #[.int .i64 n, .slice a2 m2 c2]] w (Gives (.tuple #[.bool false, .int .i64 0]) w) := by
  obtain ⟨W1, hW1⟩ : ∃ W1, W1 = (w.alloc (.cells #[.int .i64 n, .slice a1 m1 c1] 24)).alloc (.cells #[.int .i64 n, .slice a2 m2 c2] 24) := ⟨_, rfl⟩
  have X1 : B2 w W1 (.int .i64 n) (.slice a1 m1 c1) (.int .i64 n) (.slice a2 m2 c2) := by rw [hW1]; exact b2_new _ _ _ _ _
  have H1 := Lib.hid h1
  have H2 := Lib.hid h2
  have X1' := Lib.hid X1
  have hW1' := Lib.hid hW1
  have q1 := Lib.hid (ztwo_any n n a1 a2 l1 l2 m1 m2 c1 c2 W1 (h1.below X1.bl) (h2.below X1.bl))
  rw [z1.two z2] at q1
  have q2 := Lib.hid (fun W (hW : Below w.heap.size w W) => zempty_any n a1 m1 c1 l1 W (H1.out.below hW))
  have q3 := Lib.hid (fun W (hW : Below w.heap.size w W) => zempty_any n a2 m2 c2 l2 W (H2.out.below hW))
  rw [decide_eq_false hn1] at q2
  rw [decide_eq_true hn] at q3
  clear hW1 X1 h1 h2 hn hn1
  go_enter Tryz.func19, Tryz.ntmps19
  go_wp2_with fail
  rw [← hW1'.out]
  refine q1.out.mono ?_
  rintro e w2 ⟨rfl, b2⟩
  have X2 := Lib.hid (X1'.out.on b2)
  clear b2 X1' q1
  have k0 := X2.out.z1.cell 0
  have k1 := X2.out.z1.cell 1
  have p2 := Lib.hid (q2.out w2 X2.out.bl)
  go_wp2_with fail
  refine p2.out.mono ?_
  rintro e w3 ⟨rfl, b3⟩
  have X3 := Lib.hid (X2.out.on b3)
  clear b3 X2 p2 k0 k1
  have k0 := X3.out.z2.cell 0
  have k1 := X3.out.z2.cell 1
  have p3 := Lib.hid (q3.out w3 X3.out.bl)
  go_wp2_with fail
  refine p3.out.mono ?_
  rintro e w4 ⟨rfl, b4⟩
  have X4 := Lib.hid (X3.out.on b4)
  clear b4 X3 p3 k0 k1
  have k0 := X4.out.z1.cell 0
  have k1 := X4.out.z1.cell 1
  have p5 := Lib.hid (q2.out w4 X4.out.bl)
  go_wp2_with fail
  refine p5.out.mono ?_
  rintro e w5 ⟨rfl, b5⟩
  have X5 := Lib.hid (X4.out.on b5)
  clear b5 p5 k0 k1
  go_wp2
  go_ret2
  exact ⟨rfl, X5.out.bl⟩
set_option maxRecDepth 100000 in
set_option maxHeartbeats 1000000 in
theorem zleq_c (a1 a2 : Option Addr) (m1 m2 c1 c2 : Nat) (l1 l2 : List Int) (n : Nat) (z1 : IsZ n l1) (z2 : IsZ n l2) (w : World) (h1 : SL w a1 m1 c1 l1) (h2 : SL w a2 m2 c2 l2) (hF1 : l1 ≠ []) (hF2 : l2 ≠ []) (hl : m1 = m2) : Calls Tryz.prog 19 #[.agg #[.int .i64 n, .slice a1 m1 c1], .agg #[.int .i64 n, .slice a2 m2 c2]] w (Gives (.tuple #[.bool (leqB l1 l2), .int .i64 0]) w) := by
  obtain ⟨W1, hW1⟩ : ∃ W1, W1 = (w.alloc (.cells #[.int .i64 n, .slice a1 m1 c1] 24)).alloc (.cells #[.int .i64 n, .slice a2 m2 c2] 24) := ⟨_, rfl⟩
  have X1 : B2 w W1 (.int .i64 n) (.slice a1 m1 c1) (.int .i64 n) (.slice a2 m2 c2) := by rw [hW1]; exact b2_new _ _ _ _ _
  have H1 := Lib.hid h1
  have H2 := Lib.hid h2
  have X1' := Lib.hid X1
  have hW1' := Lib.hid hW1
  have q1 := Lib.hid (ztwo_any n n a1 a2 l1 l2 m1 m2 c1 c2 W1 (h1.below X1.bl) (h2.below X1.bl))
  rw [z1.two z2] at q1
  have q2 := Lib.hid (fun W (hW : Below w.heap.size w W) => zempty_any n a1 m1 c1 l1 W (H1.out.below hW))
  have q3 := Lib.hid (fun W (hW : Below w.heap.size w W) => zempty_any n a2 m2 c2 l2 W (H2.out.below hW))
  rw [decide_eq_false hF1] at q2
  rw [decide_eq_false hF2] at q3
  replace hF1 := Lib.hid hF1
  replace hF2 := Lib.hid hF2
  have hmx := h1.max
  subst hl
  clear hW1 X1 h1 h2
  go_enter Tryz.func19, Tryz.ntmps19
  go_wp2_with fail
  rw [← hW1'.out]
  refine q1.out.mono ?_
  rintro e w2 ⟨rfl, b2⟩
  have X2 := Lib.hid (X1'.out.on b2)
  clear b2 X1' q1
  have k0 := X2.out.z1.cell 0
  have k1 := X2.out.z1.cell 1
  have p2 := Lib.hid (q2.out w2 X2.out.bl)
  go_wp2_with fail
  refine p2.out.mono ?_
  rintro e w3 ⟨rfl, b3⟩
  have X3 := Lib.hid (X2.out.on b3)
  clear b3 X2 p2 k0 k1
  have k0 := X3.out.z2.cell 0
  have k1 := X3.out.z2.cell 1
  have p3 := Lib.hid (q3.out w3 X3.out.bl)
  go_wp2_with fail
  refine p3.out.mono ?_
  rintro e w4 ⟨rfl, b4⟩
  have X4 := Lib.hid (X3.out.on b4)
  clear b4 X3 p3 k0 k1
  have k1 := X4.out.z1.cell 1
  have k2 := X4.out.z2.cell 1
  have T1 := Lib.hid (H1.out.below X4.out.bl)
  have T2 := Lib.hid (H2.out.below X4.out.bl)
  go_wp2
  go_loopw [25] (fun x wr => ∃ k m : Nat, k ≤ m1 ∧ x = .int .i64 k ∧ Hid (∀ t, t < k → l1.getD t 0 ≤ l2.getD t 0) ∧ wr = w4.drewN m) (fun x _ => m1 - (intOf x).toNat)
  case atStart => exact ⟨0, 0, Nat.zero_le _, rfl, Lib.hid (by intro t ht; omega), rfl⟩
  case round =>
    obtain ⟨k, m, hk, rfl, hall, rfl⟩ := hrel
    by_cases hlt : k < m1
    · have hki : (k : Int) < (m1 : Int) := by omega
      obtain ⟨b1, o1, rfl, -, e1⟩ := sees_at' T1.out.sees (i := k) (by have := T1.out.len; omega)
      obtain ⟨b2, o2, rfl, -, e2⟩ := sees_at' T2.out.sees (i := k) (by have := T2.out.len; omega)
      have hno : Hid (¬ l1.getD k 0 ≤ l2.getD k 0 → leqB l1 l2 = false) := Lib.hid (fun h => leq_no hF1.out hF2.out (by have := T1.out.len; omega) h)
      have hyes : Hid (l1.getD k 0 ≤ l2.getD k 0 → ∀ t, t < k + 1 → l1.getD t 0 ≤ l2.getD t 0) := Lib.hid (fun h t ht => by
        by_cases e : t = k
        · subst e; exact h
        · exact hall.out t (by omega))
      clear hall
      generalize l1.getD k 0 = x at *
      generalize l2.getD k 0 = y at *
      by_cases hxy : y < x
      · have hr := hno.out (by omega)
        clear hno hyes
        go_wp2
        go_quiet (fail)
        go_wp2
        go_ret2
        rw [hr]
        exact ⟨rfl, Below.drewN (Below.drewN X4.out.bl m) nq⟩
      · have hn2 := Lib.hid (hyes.out (by omega))
        clear hno hyes
        go_wp2
        go_quiet (fail)
        go_wp2
        go_roundw
        case rel => exact ⟨k + 1, m + nq, by omega, by go_num, hn2, by simp [World.drewN, Nat.add_assoc]⟩
        case measure => simp [intOf]; omega
    · have hr : leqB l1 l2 = true := leq_yes hF1.out hF2.out (fun t ht => hall.out t (by have := T1.out.len; omega))
      clear hall
      go_wp2
      go_ret2
      rw [hr]
      exact ⟨rfl, Below.drewN X4.out.bl m⟩
theorem zleq_ok (a1 a2 : Option Addr) (m1 m2 c1 c2 : Nat) (l1 l2 : List Int) (n : Nat) (z1 : IsZ n l1) (z2 : IsZ n l2) (w : World) (h1 : SL w a1 m1 c1 l1) (h2 : SL w a2 m2 c2 l2) : Calls Tryz.prog 19 #[.agg #[.int .i64 n, .slice a1 m1 c1], .agg #[.int .i64 n, .slice a2 m2 c2]] w (Gives (.tuple #[.bool (leqB l1 l2), .int .i64 0]) w) := by
  by_cases e1 : l1 = []
  · have := zleq_a a1 a2 m1 m2 c1 c2 l1 l2 n z1 z2 w h1 h2 e1
    unfold leqB
    rw [if_pos e1]
    exact this
  · by_cases e2 : l2 = []
    · have := zleq_b a1 a2 m1 m2 c1 c2 l1 l2 n z1 z2 w h1 h2 e1 e2
      unfold leqB
      rw [if_neg e1, if_pos e2]
      exact this
    · exact zleq_c a1 a2 m1 m2 c1 c2 l1 l2 n z1 z2 w h1 h2 e1 e2 (by rw [h1.len, h2.len, (z1.2.resolve_left e1).len, (z2.2.resolve_left e2).len])
set_option maxRecDepth 100000 in
set_option maxHeartbeats 1000000 in
theorem rtwo_any (n1 n2 : Int) (a1 a2 : Option Addr) (m1 m2 c1 c2 : Nat) (l1 l2 : List Int) (w : World) (h1 : SL w a1 m1 c1 l1) (h2 : SL w a2 m2 c2 l2) : Calls Tryz.prog 17 #[.agg #[.int .i64 n1, .slice a1 m1 c1], .agg #[.int .i64 n2, .slice a2 m2 c2]] w (Gives (.int .i64 (twoE n1 l1 n2 l2)) w) := by
  obtain ⟨W1, hW1⟩ : ∃ W1, W1 = (w.alloc (.cells #[.int .i64 n1, .slice a1 m1 c1] 24)).alloc (.cells #[.int .i64 n2, .slice a2 m2 c2] 24) := ⟨_, rfl⟩
  have X1 : B2 w W1 (.int .i64 n1) (.slice a1 m1 c1) (.int .i64 n2) (.slice a2 m2 c2) := by rw [hW1]; exact b2_new _ _ _ _ _
  have H1 := Lib.hid h1
  have H2 := Lib.hid h2
  have X1' := Lib.hid X1
  have hW1' := Lib.hid hW1
  have q1 := Lib.hid (rcheck_any n1 a1 m1 c1 l1 W1 (h1.below X1.bl))
  have q2 := Lib.hid (fun W (hW : Below w.heap.size w W) => rcheck_any n2 a2 m2 c2 l2 W (H2.out.below hW))
  clear hW1 X1 h1 h2
  unfold twoE
  generalize checkB n1 l1 = b1 at *
  generalize checkB n2 l2 = b2 at *
  cases b1
  · rw [if_pos (.inl rfl)]
    go_enter Tryz.func17, Tryz.ntmps17
    go_wp2_with fail
    rw [← hW1'.out]
    refine q1.out.mono ?_
    rintro e w1 ⟨rfl, b1⟩
    have X2 := Lib.hid (X1'.out.on b1)
    clear b1 X1' q1
    go_wp2
    go_ret
    exact ⟨rfl, X2.out.bl⟩
  · cases b2
    · rw [if_pos (.inr rfl)]
      go_enter Tryz.func17, Tryz.ntmps17
      go_wp2_with fail
      rw [← hW1'.out]
      refine q1.out.mono ?_
      rintro e w1 ⟨rfl, b1⟩
      have X2 := Lib.hid (X1'.out.on b1)
      clear b1 X1' q1
      have k0 := X2.out.z2.cell 0
      have k1 := X2.out.z2.cell 1
      have p2 := Lib.hid (q2.out w1 X2.out.bl)
      go_wp2_with fail
      refine p2.out.mono ?_
      rintro e w2 ⟨rfl, b2⟩
      have X3 := Lib.hid (X2.out.on b2)
      clear b2 X2 p2 k0 k1
      have k0 := X3.out.z1.cell 0
      have k1 := X3.out.z2.cell 0
      go_wp2
      go_ret
      exact ⟨rfl, X3.out.bl⟩
    · rw [if_neg (by simp)]
      by_cases hn : n1 = n2
      · rw [if_pos hn]
        subst hn
        go_enter Tryz.func17, Tryz.ntmps17
        go_wp2_with fail
        rw [← hW1'.out]
        refine q1.out.mono ?_
        rintro e w1 ⟨rfl, b1⟩
        have X2 := Lib.hid (X1'.out.on b1)
        clear b1 X1' q1
        have k0 := X2.out.z2.cell 0
        have k1 := X2.out.z2.cell 1
        have p2 := Lib.hid (q2.out w1 X2.out.bl)
        go_wp2_with fail
        refine p2.out.mono ?_
        rintro e w2 ⟨rfl, b2⟩
        have X3 := Lib.hid (X2.out.on b2)
        clear b2 X2 p2 k0 k1
        have k0 := X3.out.z1.cell 0
        have k1 := X3.out.z2.cell 0
        go_wp2
        go_ret
        exact ⟨rfl, X3.out.bl⟩
      · rw [if_neg hn]
        have hn2 : (n1 != n2) = true := by simpa using hn
        go_enter Tryz.func17, Tryz.ntmps17
        go_wp2_with fail
        rw [← hW1'.out]
        refine q1.out.mono ?_
        rintro e w1 ⟨rfl, b1⟩
        have X2 := Lib.hid (X1'.out.on b1)
        clear b1 X1' q1
        have k0 := X2.out.z2.cell 0
        have k1 := X2.out.z2.cell 1
        have p2 := Lib.hid (q2.out w1 X2.out.bl)
        go_wp2_with fail
        refine p2.out.mono ?_
        rintro e w2 ⟨rfl, b2⟩
        have X3 := Lib.hid (X2.out.on b2)
        clear b2 X2 p2 k0 k1
        have k0 := X3.out.z1.cell 0
        have k1 := X3.out.z2.cell 0
        go_wp2
        go_ret
        exact ⟨rfl, X3.out.bl⟩
end Go.Proofs.YtplgmmjppmpnoaaGreatDoor
/- Zones changed: the matrix's own steps. -/
namespace Go.Proofs.YtplgmmjppmpnoaaGreatDoor
open Go.RowKit
set_option linter.unusedVariables false
set_option linter.unusedSimpArgs false

theorem mat_at (n i j : Nat) (hn : n ≤ 8) (hi : i ≤ n) (hj : j ≤ n) (a : Option Addr) (m c : Nat) (w : World) :
    Calls Tryz.prog 102 #[.agg #[.int .i64 n, .slice a m c], .int .i64 i, .int .i64 j] w (Gives (.int .i64 ((i * (n + 1) + j : Nat) : Int)) w) := by
  obtain ⟨p, q, u1, u2, u3, hq, -, -, -, -⟩ := place_wraps hn hi hj
  rw [← hq]
  have hB := Lib.hid (box_below w #[.int .i64 n, .slice a m c] 97)
  clear hq
  go_enter Tryz.func102, Tryz.ntmps102
  go_wp2
  go_ret
  exact ⟨rfl, hB.out⟩
/-- What a step leaves of a matrix. -/
def MatS (s g cap base : Nat) (R : List Int) (w : World) (e : Ending) (w' : World) : Prop :=
  e = .returned (.tuple #[]) ∧ w'.ownsRow base 3 1 (.slice (some ⟨g, 0, none⟩) s cap) s (nums .i64 R) ∧ BelowE [g] w.heap.size w w'
def limL (n : Nat) (l : List Int) (i j : Nat) (c : Int) : List Int := l.set (i * (n + 1) + j) (min (l.getD (i * (n + 1) + j) 0) c)
theorem limL_len (n : Nat) (l : List Int) (i j : Nat) (c : Int) : (limL n l i j c).length = l.length := by simp [limL]
set_option maxRecDepth 100000 in
set_option maxHeartbeats 1000000 in
theorem mlimit_any (n : Nat) (hn : n ≤ 8) (i j : Nat) (hi : i ≤ n) (hj : j ≤ n) (c : Int) (g cap base : Nat) (l : List Int) (hl : l.length = sz n) (w : World)
    (hown : w.ownsRow base 3 1 (.slice (some ⟨g, 0, none⟩) (sz n) cap) (sz n) (nums .i64 l)) :
    Calls Tryz.prog 93 #[.agg #[.int .i64 n, .slice (some ⟨g, 0, none⟩) (sz n) cap], .agg #[.int .i64 i, .int .i64 j, .int .i64 c]] w (MatS (sz n) g cap base (limL n l i j c) w) := by
  have hs81 := sz_le hn
  have hq : i * (n + 1) + j < sz n := place_lt hi hj
  have hat := Lib.hid (fun W => mat_at n i j hn hi hj (some ⟨g, 0, none⟩) (sz n) cap W)
  have hR : limL n l i j c = l.set (i * (n + 1) + j) (min (l.getD (i * (n + 1) + j) 0) c) := rfl
  generalize limL n l i j c = R at *
  generalize i * (n + 1) + j = q at *
  generalize sz n = s at *
  have hsi : (q : Int) < (s : Int) := by omega
  have hgl := own_at hown (i := q) (by omega)
  have hglt : g < w.heap.size := World.block_lt_of_cell? _ _ hgl
  obtain ⟨W1, hW1⟩ : ∃ W1, W1 = (w.alloc (.cells #[.int .i64 n, .slice (some ⟨g, 0, none⟩) s cap] 97)).alloc (.cells #[.int .i64 i, .int .i64 j, .int .i64 c] 92) := ⟨_, rfl⟩
  have hB : Below w.heap.size w W1 := by rw [hW1]; exact box2_below _ _ _ _ _
  have Z1 : Holds W1 w.heap.size 97 #[.int .i64 n, .slice (some ⟨g, 0, none⟩) s cap] := by rw [hW1]; exact (Holds.new w _ _).alloc _
  have Z2 : Holds W1 (w.heap.size + 1) 92 #[.int .i64 i, .int .i64 j, .int .i64 c] := by
    rw [hW1]
    have := Holds.new (w.alloc (.cells #[.int .i64 n, .slice (some ⟨g, 0, none⟩) s cap] 97)) 92 #[.int .i64 i, .int .i64 j, .int .i64 c]
    simpa using this
  have hR' := Lib.hid hR
  clear hR
  have O1 := Lib.hid (own_below hown hB)
  have hW1' := Lib.hid hW1
  have hB' := Lib.hid hB
  have Z1' := Lib.hid Z1
  have Z2' := Lib.hid Z2
  have hl' := Lib.hid hl
  have hglt' := Lib.hid hglt
  clear hW1 hB Z1 Z2 hown hl hgl hglt hq
  go_enter Tryz.func93, Tryz.ntmps93
  go_wp2_with fail
  rw [← hW1'.out]
  refine (hat.out _).mono ?_
  rintro e w2 ⟨rfl, b2⟩
  have O2 := Lib.hid (own_below O1.out b2)
  have Y1 := Lib.hid (Z1'.out.below b2 Z1'.out.lt)
  have Y2 := Lib.hid (Z2'.out.below b2 Z2'.out.lt)
  have B2' := Lib.hid (hB'.out.trans (b2.mono hB'.out.size))
  have m0 := own_at O2.out (i := q) (by have := hl'.out; omega)
  have mf := O2.out.frozenAt q
  have hx0 : w.heap.size ∉ [g] := by have := hglt'.out; simp; omega
  have hx1 : w.heap.size + 1 ∉ [g] := by have := hglt'.out; simp; omega
  have f1 : ∀ W, BelowE [g] w2.heap.size w2 W → W.cell? ⟨w.heap.size, 1, none⟩ = some (.slice (some ⟨g, 0, none⟩) s cap) := fun W hW => (Y1.out.belowE hW Y1.out.lt hx0).cell 1
  have f2 : ∀ W, BelowE [g] w2.heap.size w2 W → W.cell? ⟨w.heap.size + 1, 2, none⟩ = some (.int .i64 c) := fun W hW => (Y2.out.belowE hW Y2.out.lt hx1).cell 2
  have hnx : Hid (∀ z, z = min (l.getD q 0) c → MatS s g cap base R w (.returned (.tuple #[])) (w2.setCell ⟨g, q, none⟩ (.int .i64 z)).drew) := Lib.hid (by
    rintro z rfl
    rw [hR'.out]
    exact ⟨rfl, own_put O2.out q _, ((BelowE.of B2'.out).setIn (p := ⟨g, q, none⟩) (by simp) _).drew⟩)
  clear b2 O1 O2 Z1' Z2' Y1 Y2 B2' hat hx0 hx1 hl' hglt' hR'
  generalize l.getD q 0 = x at *
  by_cases hcx : c < x
  · have hfin := Lib.hid (hnx.out c (by omega))
    clear hnx
    go_wp2
    refine wp_drawn_on (fun W => BelowE [g] w2.heap.size w2 W) (by kernel_rfl) ((BelowE.refl _ _ _).drew) (fun hHeld => ?_)
    refine wpAnyH_take (i := 0) (oi := { dst := some 11, op := Go.Op.fieldAddr 97 (Go.Operand.tmp 2) 1, type := 0, pos := "zone.go:113", after := #[], guard := none }) (v := ?v1) rfl (by kernel_rfl) (by kernel_rfl) (by kernel_rfl) (fun _ _ _ h => h) (Or.inl ⟨by kernel_rfl, ?h1⟩) (by assumption) ?r1
    case h1 => (intro w hSw; (try dsimp only at hSw); go_simp; try with_reducible rfl)
    try simp only [Act.put, List.setIfInBounds_toArray, List.set_cons_zero, List.set_cons_succ]
    refine wpAnyH_take (i := 1) (oi := { dst := some 12, op := Go.Op.load 22 (Go.Operand.tmp 11), type := 22, pos := "zone.go:113", after := #[{ on := 0, ground := Go.Ground.data }], guard := none }) (v := ?v2) rfl (by kernel_rfl) (by kernel_rfl) (by kernel_rfl) (fun _ _ _ h => h) (Or.inl ⟨by kernel_rfl, ?h2⟩) (by assumption) ?r2
    case h2 => (intro w hSw; (try dsimp only at hSw); go_simp; try with_reducible rfl)
    try simp only [Act.put, List.setIfInBounds_toArray, List.set_cons_zero, List.set_cons_succ]
    refine wpAnyH_take (i := 2) (oi := { dst := some 13, op := Go.Op.move (Go.Operand.tmp 4), type := 3, pos := "zone.go:113", after := #[], guard := none }) (v := ?v3) rfl (by kernel_rfl) (by kernel_rfl) (by kernel_rfl) (fun _ _ _ h => h) (Or.inl ⟨by kernel_rfl, ?h3⟩) (by assumption) ?r3
    case h3 => (intro w hSw; (try dsimp only at hSw); go_simp; try with_reducible rfl)
    try simp only [Act.put, List.setIfInBounds_toArray, List.set_cons_zero, List.set_cons_succ]
    refine wpAnyH_take (i := 3) (oi := { dst := some 14, op := Go.Op.fieldAddr 97 (Go.Operand.tmp 2) 1, type := 0, pos := "zone.go:113", after := #[], guard := none }) (v := ?v4) rfl (by kernel_rfl) (by kernel_rfl) (by kernel_rfl) (fun _ _ _ h => h) (Or.inl ⟨by kernel_rfl, ?h4⟩) (by assumption) ?r4
    case h4 => (intro w hSw; (try dsimp only at hSw); go_simp; try with_reducible rfl)
    try simp only [Act.put, List.setIfInBounds_toArray, List.set_cons_zero, List.set_cons_succ]
    refine wpAnyH_take (i := 4) (oi := { dst := some 15, op := Go.Op.load 22 (Go.Operand.tmp 14), type := 22, pos := "zone.go:113", after := #[{ on := 3, ground := Go.Ground.data }], guard := none }) (v := ?v5) rfl (by kernel_rfl) (by kernel_rfl) (by kernel_rfl) (fun _ _ _ h => h) (Or.inl ⟨by kernel_rfl, ?h5⟩) (by assumption) ?r5
    case h5 => (intro w hSw; (try dsimp only at hSw); go_simp; try with_reducible rfl)
    try simp only [Act.put, List.setIfInBounds_toArray, List.set_cons_zero, List.set_cons_succ]
    refine wpAnyH_take (i := 5) (oi := { dst := some 16, op := Go.Op.move (Go.Operand.tmp 4), type := 3, pos := "zone.go:113", after := #[], guard := none }) (v := ?v6) rfl (by kernel_rfl) (by kernel_rfl) (by kernel_rfl) (fun _ _ _ h => h) (Or.inl ⟨by kernel_rfl, ?h6⟩) (by assumption) ?r6
    case h6 => (intro w hSw; (try dsimp only at hSw); go_simp; try with_reducible rfl)
    try simp only [Act.put, List.setIfInBounds_toArray, List.set_cons_zero, List.set_cons_succ]
    refine wpAnyH_take (i := 6) (oi := { dst := some 17, op := Go.Op.indexAddr 22 (Go.Operand.tmp 15) (Go.Operand.tmp 16), type := 0, pos := "zone.go:113", after := #[{ on := 4, ground := Go.Ground.data }, { on := 5, ground := Go.Ground.data }], guard := none }) (v := ?v7) rfl (by kernel_rfl) (by kernel_rfl) (by kernel_rfl) (fun _ _ _ h => h) (Or.inl ⟨by kernel_rfl, ?h7⟩) (by assumption) ?r7
    case h7 => (intro w hSw; (try dsimp only at hSw); go_simp; try with_reducible rfl)
    try simp only [Act.put, List.setIfInBounds_toArray, List.set_cons_zero, List.set_cons_succ]
    refine wpAnyH_take (i := 8) (oi := { dst := some 19, op := Go.Op.fieldAddr 92 (Go.Operand.tmp 3) 2, type := 0, pos := "zone.go:113", after := #[], guard := none }) (v := ?v8) rfl (by kernel_rfl) (by kernel_rfl) (by kernel_rfl) (fun _ _ _ h => h) (Or.inl ⟨by kernel_rfl, ?h8⟩) (by assumption) ?r8
    case h8 => (intro w hSw; (try dsimp only at hSw); go_simp; try with_reducible rfl)
    try simp only [Act.put, List.setIfInBounds_toArray, List.set_cons_zero, List.set_cons_succ]
    refine wpAnyH_take (i := 9) (oi := { dst := some 20, op := Go.Op.load 3 (Go.Operand.tmp 19), type := 3, pos := "zone.go:113", after := #[{ on := 8, ground := Go.Ground.data }], guard := none }) (v := ?v9) rfl (by kernel_rfl) (by kernel_rfl) (by kernel_rfl) (fun _ _ _ h => h) (Or.inl ⟨by kernel_rfl, ?h9⟩) (by assumption) ?r9
    case h9 => (intro w hSw; (try dsimp only at hSw); go_simp; try with_reducible rfl)
    try simp only [Act.put, List.setIfInBounds_toArray, List.set_cons_zero, List.set_cons_succ]
    refine wpAnyH_ready (rs := [7]) (by kernel_rfl) (by simp) ?_
    refine AllReadyH.cons (o := { dst := some 18, op := Go.Op.load 3 (Go.Operand.tmp 17), type := 3, pos := "zone.go:113", after := #[{ on := 6, ground := Go.Ground.data }], guard := none }) rfl (fun K hK => ?_) AllReadyH.nil
    go_simp
    refine hK.out _ _ (hHeld) (fun hHeld => ?_)
    clear hK K
    try simp only [Act.put, List.setIfInBounds_toArray, List.set_cons_zero, List.set_cons_succ]
    refine wpAnyH_take (i := 10) (oi := { dst := some 21, op := Go.Op.call { callee := Go.Callee.builtin Go.Builtin.min, args := #[Go.Operand.tmp 18, Go.Operand.tmp 20], argTypes := #[3, 3] }, type := 3, pos := "zone.go:113", after := #[{ on := 7, ground := Go.Ground.data }, { on := 9, ground := Go.Ground.data }], guard := none }) (v := ?v10) rfl (by kernel_rfl) (by kernel_rfl) (by kernel_rfl) (fun _ _ _ h => h) (Or.inl ⟨by kernel_rfl, ?h10⟩) (by assumption) ?r10
    case h10 => (intro w hSw; (try dsimp only at hSw); go_simp; try with_reducible rfl)
    try simp only [Act.put, List.setIfInBounds_toArray, List.set_cons_zero, List.set_cons_succ]
    refine wpAnyH_take (i := 11) (oi := { dst := some 22, op := Go.Op.indexAddr 22 (Go.Operand.tmp 12) (Go.Operand.tmp 13), type := 0, pos := "zone.go:113", after := #[{ on := 1, ground := Go.Ground.data }, { on := 2, ground := Go.Ground.data }, { on := 0, ground := Go.Ground.phase }, { on := 1, ground := Go.Ground.phase }, { on := 2, ground := Go.Ground.phase }, { on := 3, ground := Go.Ground.phase }, { on := 4, ground := Go.Ground.phase }, { on := 5, ground := Go.Ground.phase }, { on := 6, ground := Go.Ground.phase }, { on := 7, ground := Go.Ground.phase }, { on := 8, ground := Go.Ground.phase }, { on := 9, ground := Go.Ground.phase }, { on := 10, ground := Go.Ground.phase }], guard := none }) (v := ?v11) rfl (by kernel_rfl) (by kernel_rfl) (by kernel_rfl) (fun _ _ _ h => h) (Or.inl ⟨by kernel_rfl, ?h11⟩) (by assumption) ?r11
    case h11 => (intro w hSw; (try dsimp only at hSw); go_simp; try with_reducible rfl)
    try simp only [Act.put, List.setIfInBounds_toArray, List.set_cons_zero, List.set_cons_succ]
    refine wpAnyH_ready (rs := [12]) (by kernel_rfl) (by simp) ?_
    refine AllReadyH.cons (o := { dst := none, op := Go.Op.store 3 (Go.Operand.tmp 22) (Go.Operand.tmp 21), type := 0, pos := "zone.go:113", after := #[{ on := 11, ground := Go.Ground.data }, { on := 10, ground := Go.Ground.data }, { on := 0, ground := Go.Ground.phase }, { on := 1, ground := Go.Ground.phase }, { on := 2, ground := Go.Ground.phase }, { on := 3, ground := Go.Ground.phase }, { on := 4, ground := Go.Ground.phase }, { on := 5, ground := Go.Ground.phase }, { on := 6, ground := Go.Ground.phase }, { on := 7, ground := Go.Ground.phase }, { on := 8, ground := Go.Ground.phase }, { on := 9, ground := Go.Ground.phase }, { on := 10, ground := Go.Ground.phase }], guard := none }) rfl (fun K hK => ?_) AllReadyH.nil
    go_simp
    refine hK.out _ _ (hHeld.setIn (p := ⟨g, q, none⟩) (by simp) _) (fun hHeld => ?_)
    clear hK K
    try simp only [Act.put, List.setIfInBounds_toArray, List.set_cons_zero, List.set_cons_succ]
    refine wpAnyH_done (by kernel_rfl) ?_ _
    go_wp2
    go_end0
    exact hfin.out
  · have hfin := Lib.hid (hnx.out x (by omega))
    clear hnx
    go_wp2
    refine wp_drawn_on (fun W => BelowE [g] w2.heap.size w2 W) (by kernel_rfl) ((BelowE.refl _ _ _).drew) (fun hHeld => ?_)
    refine wpAnyH_take (i := 0) (oi := { dst := some 11, op := Go.Op.fieldAddr 97 (Go.Operand.tmp 2) 1, type := 0, pos := "zone.go:113", after := #[], guard := none }) (v := ?v12) rfl (by kernel_rfl) (by kernel_rfl) (by kernel_rfl) (fun _ _ _ h => h) (Or.inl ⟨by kernel_rfl, ?h12⟩) (by assumption) ?r12
    case h12 => (intro w hSw; (try dsimp only at hSw); go_simp; try with_reducible rfl)
    try simp only [Act.put, List.setIfInBounds_toArray, List.set_cons_zero, List.set_cons_succ]
    refine wpAnyH_take (i := 1) (oi := { dst := some 12, op := Go.Op.load 22 (Go.Operand.tmp 11), type := 22, pos := "zone.go:113", after := #[{ on := 0, ground := Go.Ground.data }], guard := none }) (v := ?v13) rfl (by kernel_rfl) (by kernel_rfl) (by kernel_rfl) (fun _ _ _ h => h) (Or.inl ⟨by kernel_rfl, ?h13⟩) (by assumption) ?r13
    case h13 => (intro w hSw; (try dsimp only at hSw); go_simp; try with_reducible rfl)
    try simp only [Act.put, List.setIfInBounds_toArray, List.set_cons_zero, List.set_cons_succ]
    refine wpAnyH_take (i := 2) (oi := { dst := some 13, op := Go.Op.move (Go.Operand.tmp 4), type := 3, pos := "zone.go:113", after := #[], guard := none }) (v := ?v14) rfl (by kernel_rfl) (by kernel_rfl) (by kernel_rfl) (fun _ _ _ h => h) (Or.inl ⟨by kernel_rfl, ?h14⟩) (by assumption) ?r14
    case h14 => (intro w hSw; (try dsimp only at hSw); go_simp; try with_reducible rfl)
    try simp only [Act.put, List.setIfInBounds_toArray, List.set_cons_zero, List.set_cons_succ]
    refine wpAnyH_take (i := 3) (oi := { dst := some 14, op := Go.Op.fieldAddr 97 (Go.Operand.tmp 2) 1, type := 0, pos := "zone.go:113", after := #[], guard := none }) (v := ?v15) rfl (by kernel_rfl) (by kernel_rfl) (by kernel_rfl) (fun _ _ _ h => h) (Or.inl ⟨by kernel_rfl, ?h15⟩) (by assumption) ?r15
    case h15 => (intro w hSw; (try dsimp only at hSw); go_simp; try with_reducible rfl)
    try simp only [Act.put, List.setIfInBounds_toArray, List.set_cons_zero, List.set_cons_succ]
    refine wpAnyH_take (i := 4) (oi := { dst := some 15, op := Go.Op.load 22 (Go.Operand.tmp 14), type := 22, pos := "zone.go:113", after := #[{ on := 3, ground := Go.Ground.data }], guard := none }) (v := ?v16) rfl (by kernel_rfl) (by kernel_rfl) (by kernel_rfl) (fun _ _ _ h => h) (Or.inl ⟨by kernel_rfl, ?h16⟩) (by assumption) ?r16
    case h16 => (intro w hSw; (try dsimp only at hSw); go_simp; try with_reducible rfl)
    try simp only [Act.put, List.setIfInBounds_toArray, List.set_cons_zero, List.set_cons_succ]
    refine wpAnyH_take (i := 5) (oi := { dst := some 16, op := Go.Op.move (Go.Operand.tmp 4), type := 3, pos := "zone.go:113", after := #[], guard := none }) (v := ?v17) rfl (by kernel_rfl) (by kernel_rfl) (by kernel_rfl) (fun _ _ _ h => h) (Or.inl ⟨by kernel_rfl, ?h17⟩) (by assumption) ?r17
    case h17 => (intro w hSw; (try dsimp only at hSw); go_simp; try with_reducible rfl)
    try simp only [Act.put, List.setIfInBounds_toArray, List.set_cons_zero, List.set_cons_succ]
    refine wpAnyH_take (i := 6) (oi := { dst := some 17, op := Go.Op.indexAddr 22 (Go.Operand.tmp 15) (Go.Operand.tmp 16), type := 0, pos := "zone.go:113", after := #[{ on := 4, ground := Go.Ground.data }, { on := 5, ground := Go.Ground.data }], guard := none }) (v := ?v18) rfl (by kernel_rfl) (by kernel_rfl) (by kernel_rfl) (fun _ _ _ h => h) (Or.inl ⟨by kernel_rfl, ?h18⟩) (by assumption) ?r18
    case h18 => (intro w hSw; (try dsimp only at hSw); go_simp; try with_reducible rfl)
    try simp only [Act.put, List.setIfInBounds_toArray, List.set_cons_zero, List.set_cons_succ]
    refine wpAnyH_take (i := 8) (oi := { dst := some 19, op := Go.Op.fieldAddr 92 (Go.Operand.tmp 3) 2, type := 0, pos := "zone.go:113", after := #[], guard := none }) (v := ?v19) rfl (by kernel_rfl) (by kernel_rfl) (by kernel_rfl) (fun _ _ _ h => h) (Or.inl ⟨by kernel_rfl, ?h19⟩) (by assumption) ?r19
    case h19 => (intro w hSw; (try dsimp only at hSw); go_simp; try with_reducible rfl)
    try simp only [Act.put, List.setIfInBounds_toArray, List.set_cons_zero, List.set_cons_succ]
    refine wpAnyH_take (i := 9) (oi := { dst := some 20, op := Go.Op.load 3 (Go.Operand.tmp 19), type := 3, pos := "zone.go:113", after := #[{ on := 8, ground := Go.Ground.data }], guard := none }) (v := ?v20) rfl (by kernel_rfl) (by kernel_rfl) (by kernel_rfl) (fun _ _ _ h => h) (Or.inl ⟨by kernel_rfl, ?h20⟩) (by assumption) ?r20
    case h20 => (intro w hSw; (try dsimp only at hSw); go_simp; try with_reducible rfl)
    try simp only [Act.put, List.setIfInBounds_toArray, List.set_cons_zero, List.set_cons_succ]
    refine wpAnyH_ready (rs := [7]) (by kernel_rfl) (by simp) ?_
    refine AllReadyH.cons (o := { dst := some 18, op := Go.Op.load 3 (Go.Operand.tmp 17), type := 3, pos := "zone.go:113", after := #[{ on := 6, ground := Go.Ground.data }], guard := none }) rfl (fun K hK => ?_) AllReadyH.nil
    go_simp
    refine hK.out _ _ (hHeld) (fun hHeld => ?_)
    clear hK K
    try simp only [Act.put, List.setIfInBounds_toArray, List.set_cons_zero, List.set_cons_succ]
    refine wpAnyH_take (i := 10) (oi := { dst := some 21, op := Go.Op.call { callee := Go.Callee.builtin Go.Builtin.min, args := #[Go.Operand.tmp 18, Go.Operand.tmp 20], argTypes := #[3, 3] }, type := 3, pos := "zone.go:113", after := #[{ on := 7, ground := Go.Ground.data }, { on := 9, ground := Go.Ground.data }], guard := none }) (v := ?v21) rfl (by kernel_rfl) (by kernel_rfl) (by kernel_rfl) (fun _ _ _ h => h) (Or.inl ⟨by kernel_rfl, ?h21⟩) (by assumption) ?r21
    case h21 => (intro w hSw; (try dsimp only at hSw); go_simp; try with_reducible rfl)
    try simp only [Act.put, List.setIfInBounds_toArray, List.set_cons_zero, List.set_cons_succ]
    refine wpAnyH_take (i := 11) (oi := { dst := some 22, op := Go.Op.indexAddr 22 (Go.Operand.tmp 12) (Go.Operand.tmp 13), type := 0, pos := "zone.go:113", after := #[{ on := 1, ground := Go.Ground.data }, { on := 2, ground := Go.Ground.data }, { on := 0, ground := Go.Ground.phase }, { on := 1, ground := Go.Ground.phase }, { on := 2, ground := Go.Ground.phase }, { on := 3, ground := Go.Ground.phase }, { on := 4, ground := Go.Ground.phase }, { on := 5, ground := Go.Ground.phase }, { on := 6, ground := Go.Ground.phase }, { on := 7, ground := Go.Ground.phase }, { on := 8, ground := Go.Ground.phase }, { on := 9, ground := Go.Ground.phase }, { on := 10, ground := Go.Ground.phase }], guard := none }) (v := ?v22) rfl (by kernel_rfl) (by kernel_rfl) (by kernel_rfl) (fun _ _ _ h => h) (Or.inl ⟨by kernel_rfl, ?h22⟩) (by assumption) ?r22
    case h22 => (intro w hSw; (try dsimp only at hSw); go_simp; try with_reducible rfl)
    try simp only [Act.put, List.setIfInBounds_toArray, List.set_cons_zero, List.set_cons_succ]
    refine wpAnyH_ready (rs := [12]) (by kernel_rfl) (by simp) ?_
    refine AllReadyH.cons (o := { dst := none, op := Go.Op.store 3 (Go.Operand.tmp 22) (Go.Operand.tmp 21), type := 0, pos := "zone.go:113", after := #[{ on := 11, ground := Go.Ground.data }, { on := 10, ground := Go.Ground.data }, { on := 0, ground := Go.Ground.phase }, { on := 1, ground := Go.Ground.phase }, { on := 2, ground := Go.Ground.phase }, { on := 3, ground := Go.Ground.phase }, { on := 4, ground := Go.Ground.phase }, { on := 5, ground := Go.Ground.phase }, { on := 6, ground := Go.Ground.phase }, { on := 7, ground := Go.Ground.phase }, { on := 8, ground := Go.Ground.phase }, { on := 9, ground := Go.Ground.phase }, { on := 10, ground := Go.Ground.phase }], guard := none }) rfl (fun K hK => ?_) AllReadyH.nil
    go_simp
    refine hK.out _ _ (hHeld.setIn (p := ⟨g, q, none⟩) (by simp) _) (fun hHeld => ?_)
    clear hK K
    try simp only [Act.put, List.setIfInBounds_toArray, List.set_cons_zero, List.set_cons_succ]
    refine wpAnyH_done (by kernel_rfl) ?_ _
    go_wp2
    go_end0
    exact hfin.out
/-- One pair of places, both far. -/
def farPair (l : List Int) (p q : Nat) : List Int := (l.set p 4398046511104).set q 4398046511104
theorem fforget_any (g cap base s p q : Nat) (l : List Int) (hl : l.length = s) (hp : p < s) (hq : q < s) (w : World)
    (hown : w.ownsRow base 3 1 (.slice (some ⟨g, 0, none⟩) s cap) s (nums .i64 l)) :
    Calls Tryz.prog 101 #[.pointer (some ⟨g, p, none⟩), .pointer (some ⟨g, q, none⟩)] w (MatS s g cap base (farPair l p q) w) := by
  have o1 := own_put hown p 4398046511104
  have o2 := own_put o1 q 4398046511104
  have m0 := own_at hown (i := p) (by omega)
  have mf := hown.frozenAt p
  have m1 := own_at o1 (i := q) (by rw [List.length_set]; omega)
  have mg := o1.frozenAt q
  have hfin : Hid (MatS s g cap base (farPair l p q) w (.returned (.tuple #[])) ((w.setCell ⟨g, p, none⟩ (.int .i64 4398046511104)).setCell ⟨g, q, none⟩ (.int .i64 4398046511104))) := Lib.hid ⟨rfl, o2, ((BelowE.refl [g] w.heap.size w).setIn (p := ⟨g, p, none⟩) (by simp) (.int .i64 4398046511104)).setIn (p := ⟨g, q, none⟩) (by simp) (.int .i64 4398046511104)⟩
  clear o1 o2 hown hl hp hq
  generalize farPair l p q = R at *
  generalize (l.set p 4398046511104).getD q 0 = y at *
  generalize l.getD p 0 = x at *
  go_enter Tryz.func101, Tryz.ntmps101
  go_wp2
  go_end0
  exact hfin.out
def movPair (l : List Int) (p q : Nat) (c : Int) : List Int := (l.set p (l.getD p 0 + c)).set q (l.getD q 0 - c)
set_option maxRecDepth 100000 in
set_option maxHeartbeats 1000000 in
theorem fmove_any (g cap base s p q gw : Nat) (i0 j0 : Int) (c : Int) (hc : -4398046511104 ≤ c ∧ c ≤ 4398046511104) (l : List Int) (hl : l.length = s) (hp : p < s) (hq : q < s) (hpq : p ≠ q) (hlp : -9000000000000 ≤ l.getD p 0 ∧ l.getD p 0 ≤ 9000000000000) (hlq : -9000000000000 ≤ l.getD q 0 ∧ l.getD q 0 ≤ 9000000000000) (w : World)
    (hw : Holds w gw 92 #[.int .i64 i0, .int .i64 j0, .int .i64 c]) (hgw : gw ≠ g)
    (hown : w.ownsRow base 3 1 (.slice (some ⟨g, 0, none⟩) s cap) s (nums .i64 l)) :
    Calls Tryz.prog 100 #[.pointer (some ⟨g, p, none⟩), .pointer (some ⟨g, q, none⟩), .pointer (some ⟨gw, 0, none⟩)] w (MatS s g cap base (movPair l p q c) w) := by
  have o1 := own_put hown p (l.getD p 0 + c)
  have o2 := own_put o1 q (l.getD q 0 - c)
  have m0 := own_at hown (i := p) (by omega)
  have m1 := own_at hown (i := q) (by omega)
  have mf := hown.frozenAt p
  have m2 := own_at o1 (i := q) (by rw [List.length_set]; omega)
  have mg := o1.frozenAt q
  have hglt := World.block_lt_of_cell? _ _ m0
  have hfin : Hid (MatS s g cap base (movPair l p q c) w (.returned (.tuple #[])) ((w.setCell ⟨g, p, none⟩ (.int .i64 (l.getD p 0 + c))).setCell ⟨g, q, none⟩ (.int .i64 (l.getD q 0 - c))).drew) := Lib.hid ⟨rfl, o2, (((BelowE.refl [g] w.heap.size w).setIn (p := ⟨g, p, none⟩) (by simp) (.int .i64 (l.getD p 0 + c))).setIn (p := ⟨g, q, none⟩) (by simp) (.int .i64 (l.getD q 0 - c))).drew⟩
  have f2 : ∀ W, BelowE [g] w.heap.size w W → W.cell? ⟨gw, 2, none⟩ = some (.int .i64 c) := fun W hW => (hw.belowE hW hw.lt (by simpa using hgw)).cell 2
  clear o1 o2 hown hl hp hq hw hgw hglt
  generalize movPair l p q c = R at *
  generalize (l.set p (l.getD p 0 + c)).getD q 0 = z at *
  generalize l.getD p 0 = x at *
  generalize l.getD q 0 = y at *
  have hwa : IntKind.i64.wrap (x + c) = x + c := wrap_small (by omega) (by omega)
  have hwb : IntKind.i64.wrap (y - c) = y - c := wrap_small (by omega) (by omega)
  go_enter Tryz.func100, Tryz.ntmps100
  go_wp2
  refine wp_drawn_on (fun W => BelowE [g] w.heap.size w W) (by kernel_rfl) ((BelowE.refl _ _ _).drew) (fun hHeld => ?_)
  refine wpAnyH_take (i := 0) (oi := { dst := some 5, op := Go.Op.move (Go.Operand.tmp 0), type := 104, pos := "zone.go:123", after := #[], guard := none }) (v := ?v23) rfl (by kernel_rfl) (by kernel_rfl) (by kernel_rfl) (fun _ _ _ h => h) (Or.inl ⟨by kernel_rfl, ?h23⟩) (by assumption) ?r23
  case h23 => (intro w hSw; (try dsimp only at hSw); go_simp; try with_reducible rfl)
  try simp only [Act.put, List.setIfInBounds_toArray, List.set_cons_zero, List.set_cons_succ]
  refine wpAnyH_take (i := 1) (oi := { dst := some 6, op := Go.Op.move (Go.Operand.tmp 1), type := 104, pos := "zone.go:123", after := #[{ on := 15, ground := Go.Ground.gcOnly Go.Departure.lateStores }], guard := none }) (v := ?v24) rfl (by kernel_rfl) (by kernel_rfl) (by kernel_rfl) (fun _ _ _ h => h) (Or.inl ⟨by kernel_rfl, ?h24⟩) (by assumption) ?r24
  case h24 => (intro w hSw; (try dsimp only at hSw); go_simp; try with_reducible rfl)
  try simp only [Act.put, List.setIfInBounds_toArray, List.set_cons_zero, List.set_cons_succ]
  refine wpAnyH_take (i := 2) (oi := { dst := some 7, op := Go.Op.move (Go.Operand.tmp 0), type := 104, pos := "zone.go:123", after := #[], guard := none }) (v := ?v25) rfl (by kernel_rfl) (by kernel_rfl) (by kernel_rfl) (fun _ _ _ h => h) (Or.inl ⟨by kernel_rfl, ?h25⟩) (by assumption) ?r25
  case h25 => (intro w hSw; (try dsimp only at hSw); go_simp; try with_reducible rfl)
  try simp only [Act.put, List.setIfInBounds_toArray, List.set_cons_zero, List.set_cons_succ]
  refine wpAnyH_take (i := 3) (oi := { dst := some 8, op := Go.Op.nilCheck (Go.Operand.tmp 7), type := 0, pos := "zone.go:123", after := #[{ on := 2, ground := Go.Ground.data }], guard := none }) (v := ?v26) rfl (by kernel_rfl) (by kernel_rfl) (by kernel_rfl) (fun _ _ _ h => h) (Or.inl ⟨by kernel_rfl, ?h26⟩) (by assumption) ?r26
  case h26 => (intro w hSw; (try dsimp only at hSw); go_simp; try with_reducible rfl)
  try simp only [Act.put, List.setIfInBounds_toArray, List.set_cons_zero, List.set_cons_succ]
  refine wpAnyH_take (i := 5) (oi := { dst := some 10, op := Go.Op.fieldAddr 92 (Go.Operand.tmp 2) 2, type := 0, pos := "zone.go:123", after := #[], guard := none }) (v := ?v27) rfl (by kernel_rfl) (by kernel_rfl) (by kernel_rfl) (fun _ _ _ h => h) (Or.inl ⟨by kernel_rfl, ?h27⟩) (by assumption) ?r27
  case h27 => (intro w hSw; (try dsimp only at hSw); go_simp; try with_reducible rfl)
  try simp only [Act.put, List.setIfInBounds_toArray, List.set_cons_zero, List.set_cons_succ]
  refine wpAnyH_take (i := 6) (oi := { dst := some 11, op := Go.Op.load 3 (Go.Operand.tmp 10), type := 3, pos := "zone.go:123", after := #[{ on := 5, ground := Go.Ground.data }], guard := none }) (v := ?v28) rfl (by kernel_rfl) (by kernel_rfl) (by kernel_rfl) (fun _ _ _ h => h) (Or.inl ⟨by kernel_rfl, ?h28⟩) (by assumption) ?r28
  case h28 => (intro w hSw; (try dsimp only at hSw); go_simp; try with_reducible rfl)
  try simp only [Act.put, List.setIfInBounds_toArray, List.set_cons_zero, List.set_cons_succ]
  refine wpAnyH_take (i := 8) (oi := { dst := some 13, op := Go.Op.move (Go.Operand.tmp 1), type := 104, pos := "zone.go:123", after := #[], guard := none }) (v := ?v29) rfl (by kernel_rfl) (by kernel_rfl) (by kernel_rfl) (fun _ _ _ h => h) (Or.inl ⟨by kernel_rfl, ?h29⟩) (by assumption) ?r29
  case h29 => (intro w hSw; (try dsimp only at hSw); go_simp; try with_reducible rfl)
  try simp only [Act.put, List.setIfInBounds_toArray, List.set_cons_zero, List.set_cons_succ]
  refine wpAnyH_take (i := 9) (oi := { dst := some 14, op := Go.Op.nilCheck (Go.Operand.tmp 13), type := 0, pos := "zone.go:123", after := #[{ on := 8, ground := Go.Ground.data }], guard := none }) (v := ?v30) rfl (by kernel_rfl) (by kernel_rfl) (by kernel_rfl) (fun _ _ _ h => h) (Or.inl ⟨by kernel_rfl, ?h30⟩) (by assumption) ?r30
  case h30 => (intro w hSw; (try dsimp only at hSw); go_simp; try with_reducible rfl)
  try simp only [Act.put, List.setIfInBounds_toArray, List.set_cons_zero, List.set_cons_succ]
  refine wpAnyH_take (i := 11) (oi := { dst := some 16, op := Go.Op.fieldAddr 92 (Go.Operand.tmp 2) 2, type := 0, pos := "zone.go:123", after := #[], guard := none }) (v := ?v31) rfl (by kernel_rfl) (by kernel_rfl) (by kernel_rfl) (fun _ _ _ h => h) (Or.inl ⟨by kernel_rfl, ?h31⟩) (by assumption) ?r31
  case h31 => (intro w hSw; (try dsimp only at hSw); go_simp; try with_reducible rfl)
  try simp only [Act.put, List.setIfInBounds_toArray, List.set_cons_zero, List.set_cons_succ]
  refine wpAnyH_take (i := 12) (oi := { dst := some 17, op := Go.Op.load 3 (Go.Operand.tmp 16), type := 3, pos := "zone.go:123", after := #[{ on := 11, ground := Go.Ground.data }], guard := none }) (v := ?v32) rfl (by kernel_rfl) (by kernel_rfl) (by kernel_rfl) (fun _ _ _ h => h) (Or.inl ⟨by kernel_rfl, ?h32⟩) (by assumption) ?r32
  case h32 => (intro w hSw; (try dsimp only at hSw); go_simp; try with_reducible rfl)
  try simp only [Act.put, List.setIfInBounds_toArray, List.set_cons_zero, List.set_cons_succ]
  refine wpAnyH_ready (rs := [4, 10]) (by kernel_rfl) (by simp) ?_
  refine AllReadyH.cons (o := { dst := some 9, op := Go.Op.load 3 (Go.Operand.tmp 8), type := 3, pos := "zone.go:123", after := #[{ on := 3, ground := Go.Ground.data }], guard := none }) rfl (fun K hK => ?_) (AllReadyH.cons (o := { dst := some 15, op := Go.Op.load 3 (Go.Operand.tmp 14), type := 3, pos := "zone.go:123", after := #[{ on := 9, ground := Go.Ground.data }], guard := none }) rfl (fun K hK => ?_) AllReadyH.nil)
  · go_simp
    refine hK.out _ _ (hHeld) (fun hHeld => ?_)
    clear hK K
    try simp only [Act.put, List.setIfInBounds_toArray, List.set_cons_zero, List.set_cons_succ]
    refine wpAnyH_take (i := 7) (oi := { dst := some 12, op := Go.Op.binOp Go.BinOp.add 3 (Go.Operand.tmp 9) (Go.Operand.tmp 11) 3, type := 3, pos := "zone.go:123", after := #[{ on := 4, ground := Go.Ground.data }, { on := 6, ground := Go.Ground.data }], guard := none }) (v := ?v33) rfl (by kernel_rfl) (by kernel_rfl) (by kernel_rfl) (fun _ _ _ h => h) (Or.inl ⟨by kernel_rfl, ?h33⟩) (by assumption) ?r33
    case h33 => (intro w hSw; (try dsimp only at hSw); go_simp; try with_reducible rfl)
    try simp only [Act.put, List.setIfInBounds_toArray, List.set_cons_zero, List.set_cons_succ]
    refine wpAnyH_ready (rs := [10]) (by kernel_rfl) (by simp) ?_
    refine AllReadyH.cons (o := { dst := some 15, op := Go.Op.load 3 (Go.Operand.tmp 14), type := 3, pos := "zone.go:123", after := #[{ on := 9, ground := Go.Ground.data }], guard := none }) rfl (fun K hK => ?_) AllReadyH.nil
    go_simp
    refine hK.out _ _ (hHeld) (fun hHeld => ?_)
    clear hK K
    try simp only [Act.put, List.setIfInBounds_toArray, List.set_cons_zero, List.set_cons_succ]
    refine wpAnyH_take (i := 13) (oi := { dst := some 18, op := Go.Op.binOp Go.BinOp.sub 3 (Go.Operand.tmp 15) (Go.Operand.tmp 17) 3, type := 3, pos := "zone.go:123", after := #[{ on := 10, ground := Go.Ground.data }, { on := 12, ground := Go.Ground.data }], guard := none }) (v := ?v34) rfl (by kernel_rfl) (by kernel_rfl) (by kernel_rfl) (fun _ _ _ h => h) (Or.inl ⟨by kernel_rfl, ?h34⟩) (by assumption) ?r34
    case h34 => (intro w hSw; (try dsimp only at hSw); go_simp; try with_reducible rfl)
    try simp only [Act.put, List.setIfInBounds_toArray, List.set_cons_zero, List.set_cons_succ]
    refine wpAnyH_take (i := 14) (oi := { dst := some 19, op := Go.Op.nilCheck (Go.Operand.tmp 5), type := 0, pos := "zone.go:123", after := #[{ on := 0, ground := Go.Ground.data }, { on := 0, ground := Go.Ground.phase }, { on := 1, ground := Go.Ground.textOnly Go.Departure.lateStores }, { on := 2, ground := Go.Ground.phase }, { on := 3, ground := Go.Ground.phase }, { on := 4, ground := Go.Ground.phase }, { on := 5, ground := Go.Ground.phase }, { on := 6, ground := Go.Ground.phase }, { on := 7, ground := Go.Ground.phase }, { on := 8, ground := Go.Ground.textOnly Go.Departure.lateStores }, { on := 9, ground := Go.Ground.textOnly Go.Departure.lateStoresUnsure }, { on := 10, ground := Go.Ground.phase }, { on := 11, ground := Go.Ground.textOnly Go.Departure.lateStores }, { on := 12, ground := Go.Ground.textOnly Go.Departure.inlinedCapture }, { on := 13, ground := Go.Ground.textOnly Go.Departure.lateStoresUnsure }], guard := none }) (v := ?v35) rfl (by kernel_rfl) (by kernel_rfl) (by kernel_rfl) (fun _ _ _ h => h) (Or.inl ⟨by kernel_rfl, ?h35⟩) (by assumption) ?r35
    case h35 => (intro w hSw; (try dsimp only at hSw); go_simp; try with_reducible rfl)
    try simp only [Act.put, List.setIfInBounds_toArray, List.set_cons_zero, List.set_cons_succ]
    refine wpAnyH_ready (rs := [15]) (by kernel_rfl) (by simp) ?_
    refine AllReadyH.cons (o := { dst := none, op := Go.Op.store 3 (Go.Operand.tmp 19) (Go.Operand.tmp 12), type := 0, pos := "zone.go:123", after := #[{ on := 14, ground := Go.Ground.data }, { on := 7, ground := Go.Ground.data }, { on := 0, ground := Go.Ground.phase }, { on := 1, ground := Go.Ground.textOnly Go.Departure.lateStores }, { on := 2, ground := Go.Ground.phase }, { on := 3, ground := Go.Ground.phase }, { on := 4, ground := Go.Ground.phase }, { on := 5, ground := Go.Ground.phase }, { on := 6, ground := Go.Ground.phase }, { on := 7, ground := Go.Ground.phase }, { on := 8, ground := Go.Ground.textOnly Go.Departure.lateStores }, { on := 9, ground := Go.Ground.textOnly Go.Departure.lateStoresUnsure }, { on := 10, ground := Go.Ground.phase }, { on := 11, ground := Go.Ground.textOnly Go.Departure.lateStores }, { on := 12, ground := Go.Ground.textOnly Go.Departure.inlinedCapture }, { on := 13, ground := Go.Ground.textOnly Go.Departure.lateStoresUnsure }], guard := none }) rfl (fun K hK => ?_) AllReadyH.nil
    go_simp
    refine hK.out _ _ (hHeld.setIn (p := ⟨g, p, none⟩) (by simp) _) (fun hHeld => ?_)
    clear hK K
    try simp only [Act.put, List.setIfInBounds_toArray, List.set_cons_zero, List.set_cons_succ]
    refine wpAnyH_take (i := 16) (oi := { dst := some 20, op := Go.Op.nilCheck (Go.Operand.tmp 6), type := 0, pos := "zone.go:123", after := #[{ on := 1, ground := Go.Ground.data }, { on := 0, ground := Go.Ground.phase }, { on := 1, ground := Go.Ground.phase }, { on := 2, ground := Go.Ground.phase }, { on := 3, ground := Go.Ground.phase }, { on := 4, ground := Go.Ground.phase }, { on := 5, ground := Go.Ground.phase }, { on := 6, ground := Go.Ground.phase }, { on := 7, ground := Go.Ground.phase }, { on := 8, ground := Go.Ground.phase }, { on := 9, ground := Go.Ground.phase }, { on := 10, ground := Go.Ground.phase }, { on := 11, ground := Go.Ground.phase }, { on := 12, ground := Go.Ground.phase }, { on := 13, ground := Go.Ground.phase }, { on := 14, ground := Go.Ground.phase }, { on := 15, ground := Go.Ground.phase }], guard := none }) (v := ?v36) rfl (by kernel_rfl) (by kernel_rfl) (by kernel_rfl) (fun _ _ _ h => h) (Or.inl ⟨by kernel_rfl, ?h36⟩) (by assumption) ?r36
    case h36 => (intro w hSw; (try dsimp only at hSw); go_simp; try with_reducible rfl)
    try simp only [Act.put, List.setIfInBounds_toArray, List.set_cons_zero, List.set_cons_succ]
    refine wpAnyH_ready (rs := [17]) (by kernel_rfl) (by simp) ?_
    refine AllReadyH.cons (o := { dst := none, op := Go.Op.store 3 (Go.Operand.tmp 20) (Go.Operand.tmp 18), type := 0, pos := "zone.go:123", after := #[{ on := 16, ground := Go.Ground.data }, { on := 13, ground := Go.Ground.data }, { on := 15, ground := Go.Ground.chain }, { on := 0, ground := Go.Ground.phase }, { on := 1, ground := Go.Ground.phase }, { on := 2, ground := Go.Ground.phase }, { on := 3, ground := Go.Ground.phase }, { on := 4, ground := Go.Ground.phase }, { on := 5, ground := Go.Ground.phase }, { on := 6, ground := Go.Ground.phase }, { on := 7, ground := Go.Ground.phase }, { on := 8, ground := Go.Ground.phase }, { on := 9, ground := Go.Ground.phase }, { on := 10, ground := Go.Ground.phase }, { on := 11, ground := Go.Ground.phase }, { on := 12, ground := Go.Ground.phase }, { on := 13, ground := Go.Ground.phase }, { on := 14, ground := Go.Ground.phase }, { on := 15, ground := Go.Ground.phase }], guard := none }) rfl (fun K hK => ?_) AllReadyH.nil
    go_simp
    refine hK.out _ _ (hHeld.setIn (p := ⟨g, q, none⟩) (by simp) _) (fun hHeld => ?_)
    clear hK K
    try simp only [Act.put, List.setIfInBounds_toArray, List.set_cons_zero, List.set_cons_succ]
    refine wpAnyH_done (by kernel_rfl) ?_ _
    go_wp2
    go_end0
    exact hfin.out
  · go_simp
    refine hK.out _ _ (hHeld) (fun hHeld => ?_)
    clear hK K
    try simp only [Act.put, List.setIfInBounds_toArray, List.set_cons_zero, List.set_cons_succ]
    refine wpAnyH_take (i := 13) (oi := { dst := some 18, op := Go.Op.binOp Go.BinOp.sub 3 (Go.Operand.tmp 15) (Go.Operand.tmp 17) 3, type := 3, pos := "zone.go:123", after := #[{ on := 10, ground := Go.Ground.data }, { on := 12, ground := Go.Ground.data }], guard := none }) (v := ?v37) rfl (by kernel_rfl) (by kernel_rfl) (by kernel_rfl) (fun _ _ _ h => h) (Or.inl ⟨by kernel_rfl, ?h37⟩) (by assumption) ?r37
    case h37 => (intro w hSw; (try dsimp only at hSw); go_simp; try with_reducible rfl)
    try simp only [Act.put, List.setIfInBounds_toArray, List.set_cons_zero, List.set_cons_succ]
    refine wpAnyH_ready (rs := [4]) (by kernel_rfl) (by simp) ?_
    refine AllReadyH.cons (o := { dst := some 9, op := Go.Op.load 3 (Go.Operand.tmp 8), type := 3, pos := "zone.go:123", after := #[{ on := 3, ground := Go.Ground.data }], guard := none }) rfl (fun K hK => ?_) AllReadyH.nil
    go_simp
    refine hK.out _ _ (hHeld) (fun hHeld => ?_)
    clear hK K
    try simp only [Act.put, List.setIfInBounds_toArray, List.set_cons_zero, List.set_cons_succ]
    refine wpAnyH_take (i := 7) (oi := { dst := some 12, op := Go.Op.binOp Go.BinOp.add 3 (Go.Operand.tmp 9) (Go.Operand.tmp 11) 3, type := 3, pos := "zone.go:123", after := #[{ on := 4, ground := Go.Ground.data }, { on := 6, ground := Go.Ground.data }], guard := none }) (v := ?v38) rfl (by kernel_rfl) (by kernel_rfl) (by kernel_rfl) (fun _ _ _ h => h) (Or.inl ⟨by kernel_rfl, ?h38⟩) (by assumption) ?r38
    case h38 => (intro w hSw; (try dsimp only at hSw); go_simp; try with_reducible rfl)
    try simp only [Act.put, List.setIfInBounds_toArray, List.set_cons_zero, List.set_cons_succ]
    refine wpAnyH_take (i := 14) (oi := { dst := some 19, op := Go.Op.nilCheck (Go.Operand.tmp 5), type := 0, pos := "zone.go:123", after := #[{ on := 0, ground := Go.Ground.data }, { on := 0, ground := Go.Ground.phase }, { on := 1, ground := Go.Ground.textOnly Go.Departure.lateStores }, { on := 2, ground := Go.Ground.phase }, { on := 3, ground := Go.Ground.phase }, { on := 4, ground := Go.Ground.phase }, { on := 5, ground := Go.Ground.phase }, { on := 6, ground := Go.Ground.phase }, { on := 7, ground := Go.Ground.phase }, { on := 8, ground := Go.Ground.textOnly Go.Departure.lateStores }, { on := 9, ground := Go.Ground.textOnly Go.Departure.lateStoresUnsure }, { on := 10, ground := Go.Ground.phase }, { on := 11, ground := Go.Ground.textOnly Go.Departure.lateStores }, { on := 12, ground := Go.Ground.textOnly Go.Departure.inlinedCapture }, { on := 13, ground := Go.Ground.textOnly Go.Departure.lateStoresUnsure }], guard := none }) (v := ?v39) rfl (by kernel_rfl) (by kernel_rfl) (by kernel_rfl) (fun _ _ _ h => h) (Or.inl ⟨by kernel_rfl, ?h39⟩) (by assumption) ?r39
    case h39 => (intro w hSw; (try dsimp only at hSw); go_simp; try with_reducible rfl)
    try simp only [Act.put, List.setIfInBounds_toArray, List.set_cons_zero, List.set_cons_succ]
    refine wpAnyH_ready (rs := [15]) (by kernel_rfl) (by simp) ?_
    refine AllReadyH.cons (o := { dst := none, op := Go.Op.store 3 (Go.Operand.tmp 19) (Go.Operand.tmp 12), type := 0, pos := "zone.go:123", after := #[{ on := 14, ground := Go.Ground.data }, { on := 7, ground := Go.Ground.data }, { on := 0, ground := Go.Ground.phase }, { on := 1, ground := Go.Ground.textOnly Go.Departure.lateStores }, { on := 2, ground := Go.Ground.phase }, { on := 3, ground := Go.Ground.phase }, { on := 4, ground := Go.Ground.phase }, { on := 5, ground := Go.Ground.phase }, { on := 6, ground := Go.Ground.phase }, { on := 7, ground := Go.Ground.phase }, { on := 8, ground := Go.Ground.textOnly Go.Departure.lateStores }, { on := 9, ground := Go.Ground.textOnly Go.Departure.lateStoresUnsure }, { on := 10, ground := Go.Ground.phase }, { on := 11, ground := Go.Ground.textOnly Go.Departure.lateStores }, { on := 12, ground := Go.Ground.textOnly Go.Departure.inlinedCapture }, { on := 13, ground := Go.Ground.textOnly Go.Departure.lateStoresUnsure }], guard := none }) rfl (fun K hK => ?_) AllReadyH.nil
    go_simp
    refine hK.out _ _ (hHeld.setIn (p := ⟨g, p, none⟩) (by simp) _) (fun hHeld => ?_)
    clear hK K
    try simp only [Act.put, List.setIfInBounds_toArray, List.set_cons_zero, List.set_cons_succ]
    refine wpAnyH_take (i := 16) (oi := { dst := some 20, op := Go.Op.nilCheck (Go.Operand.tmp 6), type := 0, pos := "zone.go:123", after := #[{ on := 1, ground := Go.Ground.data }, { on := 0, ground := Go.Ground.phase }, { on := 1, ground := Go.Ground.phase }, { on := 2, ground := Go.Ground.phase }, { on := 3, ground := Go.Ground.phase }, { on := 4, ground := Go.Ground.phase }, { on := 5, ground := Go.Ground.phase }, { on := 6, ground := Go.Ground.phase }, { on := 7, ground := Go.Ground.phase }, { on := 8, ground := Go.Ground.phase }, { on := 9, ground := Go.Ground.phase }, { on := 10, ground := Go.Ground.phase }, { on := 11, ground := Go.Ground.phase }, { on := 12, ground := Go.Ground.phase }, { on := 13, ground := Go.Ground.phase }, { on := 14, ground := Go.Ground.phase }, { on := 15, ground := Go.Ground.phase }], guard := none }) (v := ?v40) rfl (by kernel_rfl) (by kernel_rfl) (by kernel_rfl) (fun _ _ _ h => h) (Or.inl ⟨by kernel_rfl, ?h40⟩) (by assumption) ?r40
    case h40 => (intro w hSw; (try dsimp only at hSw); go_simp; try with_reducible rfl)
    try simp only [Act.put, List.setIfInBounds_toArray, List.set_cons_zero, List.set_cons_succ]
    refine wpAnyH_ready (rs := [17]) (by kernel_rfl) (by simp) ?_
    refine AllReadyH.cons (o := { dst := none, op := Go.Op.store 3 (Go.Operand.tmp 20) (Go.Operand.tmp 18), type := 0, pos := "zone.go:123", after := #[{ on := 16, ground := Go.Ground.data }, { on := 13, ground := Go.Ground.data }, { on := 15, ground := Go.Ground.chain }, { on := 0, ground := Go.Ground.phase }, { on := 1, ground := Go.Ground.phase }, { on := 2, ground := Go.Ground.phase }, { on := 3, ground := Go.Ground.phase }, { on := 4, ground := Go.Ground.phase }, { on := 5, ground := Go.Ground.phase }, { on := 6, ground := Go.Ground.phase }, { on := 7, ground := Go.Ground.phase }, { on := 8, ground := Go.Ground.phase }, { on := 9, ground := Go.Ground.phase }, { on := 10, ground := Go.Ground.phase }, { on := 11, ground := Go.Ground.phase }, { on := 12, ground := Go.Ground.phase }, { on := 13, ground := Go.Ground.phase }, { on := 14, ground := Go.Ground.phase }, { on := 15, ground := Go.Ground.phase }], guard := none }) rfl (fun K hK => ?_) AllReadyH.nil
    go_simp
    refine hK.out _ _ (hHeld.setIn (p := ⟨g, q, none⟩) (by simp) _) (fun hHeld => ?_)
    clear hK K
    try simp only [Act.put, List.setIfInBounds_toArray, List.set_cons_zero, List.set_cons_succ]
    refine wpAnyH_done (by kernel_rfl) ?_ _
    go_wp2
    go_end0
    exact hfin.out
end Go.Proofs.YtplgmmjppmpnoaaGreatDoor
/- Zones changed: others, forget, move, tie. (Written by gen-zone-oth.py.) -/
namespace Go.Proofs.YtplgmmjppmpnoaaGreatDoor
open Go.RowKit
set_option linter.unusedVariables false
set_option linter.unusedSimpArgs false

def pairL (F G : Int → Int) (l : List Int) (p q : Nat) : List Int := (l.set p (F (l.getD p 0))).set q (G (l.getD q 0))
theorem far_pair (l : List Int) (p q : Nat) : farPair l p q = pairL (fun _ => 4398046511104) (fun _ => 4398046511104) l p q := rfl
theorem mov_pair (l : List Int) (p q : Nat) (c : Int) : movPair l p q c = pairL (fun x => x + c) (fun x => x - c) l p q := rfl
theorem pairL_len (F G : Int → Int) (l : List Int) (p q : Nat) : (pairL F G l p q).length = l.length := by simp [pairL]
/-- The numbers of i and each other one, up to k. -/
def othK (F G : Int → Int) (n i : Nat) (l : List Int) : Nat → List Int
  | 0 => l
  | k + 1 => if k = i then othK F G n i l k else pairL F G (othK F G n i l k) (i * (n + 1) + k) (k * (n + 1) + i)
theorem othK_len (F G : Int → Int) (n i : Nat) (l : List Int) (k : Nat) : (othK F G n i l k).length = l.length := by
  induction k with
  | zero => rfl
  | succ k ih =>
    simp only [othK]
    split
    · exact ih
    · rw [pairL_len, ih]
theorem othK_at {F G : Int → Int} {n i : Nat} (hi : i ≤ n) {l : List Int} (hl : l.length = (n + 1) * (n + 1)) : ∀ k, k ≤ n + 1 → ∀ a b, a ≤ n → b ≤ n →
    mat n (othK F G n i l k) a b = if a = i ∧ b ≠ i ∧ b < k then F (mat n l a b) else if b = i ∧ a ≠ i ∧ a < k then G (mat n l a b) else mat n l a b := by
  intro k
  induction k with
  | zero =>
    intro _ a b _ _
    rw [if_neg (by omega), if_neg (by omega)]
    rfl
  | succ k ih =>
    intro hk a b ha hb
    have h1 := ih (by omega)
    have hkn : k ≤ n := by omega
    simp only [othK]
    by_cases hki : k = i
    · rw [if_pos hki, h1 a b ha hb]
      by_cases c1 : a = i ∧ b ≠ i ∧ b < k
      · rw [if_pos c1, if_pos (show a = i ∧ b ≠ i ∧ b < k + 1 by omega)]
      · by_cases c2 : b = i ∧ a ≠ i ∧ a < k
        · rw [if_neg c1, if_pos c2, if_neg (show ¬ (a = i ∧ b ≠ i ∧ b < k + 1) by omega), if_pos (show b = i ∧ a ≠ i ∧ a < k + 1 by omega)]
        · rw [if_neg c1, if_neg c2, if_neg (show ¬ (a = i ∧ b ≠ i ∧ b < k + 1) by omega), if_neg (show ¬ (b = i ∧ a ≠ i ∧ a < k + 1) by omega)]
    · rw [if_neg hki]
      unfold pairL
      have hlk : (othK F G n i l k).length = (n + 1) * (n + 1) := by rw [othK_len, hl]
      rw [mat_set (by rw [List.length_set]; exact hlk) (place_lt hkn hi) _ ha hb, mat_set hlk (place_lt hi hkn) _ ha hb, place_div hi, place_mod hi, place_div hkn, place_mod hkn]
      have e1 : (othK F G n i l k).getD (i * (n + 1) + k) 0 = mat n l i k := by
        have := h1 i k hi hkn
        rw [if_neg (by omega), if_neg (by omega)] at this
        exact this
      have e2 : (othK F G n i l k).getD (k * (n + 1) + i) 0 = mat n l k i := by
        have := h1 k i hkn hi
        rw [if_neg (by omega), if_neg (by omega)] at this
        exact this
      rw [e1, e2, h1 a b ha hb]
      by_cases c1 : a = k ∧ b = i
      · rw [if_pos c1, if_neg (show ¬ (a = i ∧ b ≠ i ∧ b < k + 1) by omega), if_pos (show b = i ∧ a ≠ i ∧ a < k + 1 by omega), c1.1, c1.2]
      · rw [if_neg c1]
        by_cases c2 : a = i ∧ b = k
        · rw [if_pos c2, if_pos (show a = i ∧ b ≠ i ∧ b < k + 1 by omega), c2.1, c2.2]
        · rw [if_neg c2]
          by_cases c3 : a = i ∧ b ≠ i ∧ b < k
          · rw [if_pos c3, if_pos (show a = i ∧ b ≠ i ∧ b < k + 1 by omega)]
          · by_cases c4 : b = i ∧ a ≠ i ∧ a < k
            · rw [if_neg c3, if_pos c4, if_neg (show ¬ (a = i ∧ b ≠ i ∧ b < k + 1) by omega), if_pos (show b = i ∧ a ≠ i ∧ a < k + 1 by omega)]
            · rw [if_neg c3, if_neg c4, if_neg (show ¬ (a = i ∧ b ≠ i ∧ b < k + 1) by omega), if_neg (show ¬ (b = i ∧ a ≠ i ∧ a < k + 1) by omega)]
theorem othK_places {F G : Int → Int} {n i k : Nat} (hi : i ≤ n) (hk : k ≤ n) (hki : k ≠ i) {l : List Int} (hl : l.length = (n + 1) * (n + 1)) : (othK F G n i l k).getD (i * (n + 1) + k) 0 = mat n l i k ∧ (othK F G n i l k).getD (k * (n + 1) + i) 0 = mat n l k i := by
  have h1 := othK_at (F := F) (G := G) hi hl k (by omega)
  constructor
  · have := h1 i k hi hk
    rw [if_neg (by omega), if_neg (by omega)] at this
    exact this
  · have := h1 k i hk hi
    rw [if_neg (by omega), if_neg (by omega)] at this
    exact this
def forL (n : Nat) (l : List Int) (i : Nat) : List Int := othK (fun _ => 4398046511104) (fun _ => 4398046511104) n i l (n + 1)
def movL (n : Nat) (l : List Int) (i : Nat) (c : Int) : List Int := othK (fun x => x + c) (fun x => x - c) n i l (n + 1)
set_option maxRecDepth 100000 in
set_option maxHeartbeats 2000000 in
theorem others_far (n : Nat) (hn : n ≤ 8) (i : Nat) (hi : i ≤ n) (g cap base : Nat) (l : List Int) (hl : l.length = sz n) (w : World) 
    (hown : w.ownsRow base 3 1 (.slice (some ⟨g, 0, none⟩) (sz n) cap) (sz n) (nums .i64 l)) :
    Calls Tryz.prog 99 #[.agg #[.int .i64 n, .slice (some ⟨g, 0, none⟩) (sz n) cap], .int .i64 i, .func (.func 101) #[] #[]] w (MatS (sz n) g cap base (forL n l i) w) := by
  have hs81 := sz_le hn
  have hni : (n : Int) ≤ 8 := by omega
  have v1 : IntKind.i64.wrap ((n : Int) + 1) = (n : Int) + 1 := wrap_small (by omega) (by omega)
  have hat := Lib.hid (fun a b W (h1 : a ≤ n) (h2 : b ≤ n) => mat_at n a b hn h1 h2 (some ⟨g, 0, none⟩) (sz n) cap W)
  have hlen : Hid (∀ k, (othK (fun _ => 4398046511104) (fun _ => 4398046511104) n i l k).length = sz n) := Lib.hid (fun k => by rw [othK_len, hl])
  have hfin : Hid (forL n l i = othK (fun _ => 4398046511104) (fun _ => 4398046511104) n i l (n + 1)) := Lib.hid rfl
  have hstep : Hid (∀ k, othK (fun _ => 4398046511104) (fun _ => 4398046511104) n i l (k + 1) = if k = i then othK (fun _ => 4398046511104) (fun _ => 4398046511104) n i l k else pairL (fun _ => 4398046511104) (fun _ => 4398046511104) (othK (fun _ => 4398046511104) (fun _ => 4398046511104) n i l k) (i * (n + 1) + k) (k * (n + 1) + i)) := Lib.hid (fun k => rfl)
  have hpl : Hid (∀ k, k ≤ n → i * (n + 1) + k < sz n ∧ k * (n + 1) + i < sz n) := Lib.hid (fun k hk => ⟨place_lt hi hk, place_lt hk hi⟩)
  have hst : Hid (othK (fun _ => 4398046511104) (fun _ => 4398046511104) n i l 0 = l) := Lib.hid rfl
  generalize forL n l i = R at *
  generalize hQ : othK (fun _ => 4398046511104) (fun _ => 4398046511104) n i l = Q at *
  clear hQ
  generalize sz n = s at *
  have hglt := (hown.lt g rfl).2
  obtain ⟨W1, hW1⟩ : ∃ W1, W1 = w.alloc (.cells #[.int .i64 n, .slice (some ⟨g, 0, none⟩) s cap] 97) := ⟨_, rfl⟩
  have hB : Below w.heap.size w W1 := by rw [hW1]; exact box_below _ _ _
  have Z1 : Holds W1 w.heap.size 97 #[.int .i64 n, .slice (some ⟨g, 0, none⟩) s cap] := by rw [hW1]; exact Holds.new w _ _
  have O1 : Hid (W1.ownsRow base 3 1 (.slice (some ⟨g, 0, none⟩) s cap) s (nums .i64 (Q 0))) := Lib.hid (by rw [hst.out]; exact own_below hown hB)
  have hx0 : w.heap.size ∉ [g] := by simp; omega
  have hW1' := Lib.hid hW1
  have hB' := Lib.hid hB
  have Z1' := Lib.hid Z1
  clear hW1 hB Z1 hown hl hst hglt hn
  go_enter Tryz.func99, Tryz.ntmps99
  go_wp2
  rw [← hW1'.out]
  go_loopw [10] (fun x wr => ∃ k : Nat, k ≤ n + 1 ∧ x = .int .i64 k ∧ Hid (wr.ownsRow base 3 1 (.slice (some ⟨g, 0, none⟩) s cap) s (nums .i64 (Q k))) ∧ Hid (BelowE [g] W1.heap.size W1 wr)) (fun x _ => n + 1 - (intOf x).toNat)
  case atStart => exact ⟨0, by omega, rfl, O1, Lib.hid (BelowE.refl _ _ _)⟩
  case round =>
    clear O1
    obtain ⟨k, hkn, rfl, hown, hb⟩ := hrel
    by_cases hlt : k < n + 1
    · have hki : (k : Int) < (n : Int) + 1 := by omega
      by_cases hk : k = i
      · subst hk
        have hnx : Hid (wr.ownsRow base 3 1 (.slice (some ⟨g, 0, none⟩) s cap) s (nums .i64 (Q (k + 1)))) := Lib.hid (by rw [hstep.out, if_pos rfl]; exact hown.out)
        clear hown
        go_wp2
        go_roundw
        case rel => exact ⟨k + 1, by omega, by go_num, hnx, hb⟩
        case measure => simp [intOf]; omega
      · have hne : ((k : Int) != (i : Int)) = true := by simp; omega
        have hne2 : ¬ (k : Int) = (i : Int) := by omega
        have Y := Lib.hid (Z1'.out.belowE hb.out Z1'.out.lt hx0)
        have c0 : ∀ W, BelowE [g] wr.heap.size wr W → W.cell? ⟨w.heap.size, 0, none⟩ = some (.int .i64 n) := fun W hW => (Y.out.belowE hW Y.out.lt hx0).cell 0
        have c1 : ∀ W, BelowE [g] wr.heap.size wr W → W.cell? ⟨w.heap.size, 1, none⟩ = some (.slice (some ⟨g, 0, none⟩) s cap) := fun W hW => (Y.out.belowE hW Y.out.lt hx0).cell 1
        have h6 := Lib.hid (fun W => hat.out i k W hi (by omega))
        have h13 := Lib.hid (fun W => hat.out k i W (by omega) hi)
        obtain ⟨q1, q2⟩ := hpl.out k (by omega)
        have hcall := Lib.hid (fun W (hW : W.ownsRow base 3 1 (.slice (some ⟨g, 0, none⟩) s cap) s (nums .i64 (Q k)))  => fforget_any g cap base s (i * (n + 1) + k) (k * (n + 1) + i) (Q k) (hlen.out k) q1 q2 W hW)
        have hnx : Hid (pairL (fun _ => 4398046511104) (fun _ => 4398046511104) (Q k) (i * (n + 1) + k) (k * (n + 1) + i) = Q (k + 1)) := Lib.hid (by rw [hstep.out, if_neg hk])
        have hlk := hlen.out k
        simp only [far_pair] at hcall
        rw [hnx.out] at hcall
        clear hnx hlk Y
        generalize i * (n + 1) + k = p at *
        generalize k * (n + 1) + i = q at *
        have p1 : (p : Int) < (s : Int) := by omega
        have p2 : (q : Int) < (s : Int) := by omega
        go_wp2
        refine wp_drawn_on (fun W => BelowE [g] wr.heap.size wr W) (by kernel_rfl) ((BelowE.refl _ _ _).drew) (fun hHeld => ?_)
        refine wpAnyH_take (i := 0) (oi := { dst := some 16, op := Go.Op.move (Go.Operand.tmp 2), type := 105, pos := "zone.go:130", after := #[], guard := none }) (v := ?v1) rfl (by kernel_rfl) (by kernel_rfl) (by kernel_rfl) (fun _ _ _ h => h) (Or.inl ⟨by kernel_rfl, ?h1⟩) (by assumption) ?r1
        case h1 => (intro w hSw; (try dsimp only at hSw); go_simp; try with_reducible rfl)
        try simp only [Act.put, List.setIfInBounds_toArray, List.set_cons_zero, List.set_cons_succ]
        refine wpAnyH_take (i := 1) (oi := { dst := some 17, op := Go.Op.fieldAddr 97 (Go.Operand.tmp 3) 1, type := 0, pos := "zone.go:130", after := #[], guard := none }) (v := ?v2) rfl (by kernel_rfl) (by kernel_rfl) (by kernel_rfl) (fun _ _ _ h => h) (Or.inl ⟨by kernel_rfl, ?h2⟩) (by assumption) ?r2
        case h2 => (intro w hSw; (try dsimp only at hSw); go_simp; try with_reducible rfl)
        try simp only [Act.put, List.setIfInBounds_toArray, List.set_cons_zero, List.set_cons_succ]
        refine wpAnyH_take (i := 2) (oi := { dst := some 18, op := Go.Op.load 22 (Go.Operand.tmp 17), type := 22, pos := "zone.go:130", after := #[{ on := 1, ground := Go.Ground.data }], guard := none }) (v := ?v3) rfl (by kernel_rfl) (by kernel_rfl) (by kernel_rfl) (fun _ _ _ h => h) (Or.inl ⟨by kernel_rfl, ?h3⟩) (by assumption) ?r3
        case h3 => (intro w hSw; (try dsimp only at hSw); go_simp; try with_reducible rfl)
        try simp only [Act.put, List.setIfInBounds_toArray, List.set_cons_zero, List.set_cons_succ]
        refine wpAnyH_take (i := 3) (oi := { dst := some 19, op := Go.Op.load 97 (Go.Operand.tmp 3), type := 97, pos := "zone.go:130", after := #[], guard := none }) (v := ?v4) rfl (by kernel_rfl) (by kernel_rfl) (by kernel_rfl) (fun _ _ _ h => h) (Or.inl ⟨by kernel_rfl, ?h4⟩) (by assumption) ?r4
        case h4 => (intro w hSw; (try dsimp only at hSw); go_simp; try with_reducible rfl)
        try simp only [Act.put, List.setIfInBounds_toArray, List.set_cons_zero, List.set_cons_succ]
        refine wpAnyH_take (i := 4) (oi := { dst := some 20, op := Go.Op.move (Go.Operand.tmp 1), type := 3, pos := "zone.go:130", after := #[], guard := none }) (v := ?v5) rfl (by kernel_rfl) (by kernel_rfl) (by kernel_rfl) (fun _ _ _ h => h) (Or.inl ⟨by kernel_rfl, ?h5⟩) (by assumption) ?r5
        case h5 => (intro w hSw; (try dsimp only at hSw); go_simp; try with_reducible rfl)
        try simp only [Act.put, List.setIfInBounds_toArray, List.set_cons_zero, List.set_cons_succ]
        refine wpAnyH_take (i := 5) (oi := { dst := some 21, op := Go.Op.move (Go.Operand.tmp 6), type := 3, pos := "zone.go:130", after := #[], guard := none }) (v := ?v6) rfl (by kernel_rfl) (by kernel_rfl) (by kernel_rfl) (fun _ _ _ h => h) (Or.inl ⟨by kernel_rfl, ?h6⟩) (by assumption) ?r6
        case h6 => (intro w hSw; (try dsimp only at hSw); go_simp; try with_reducible rfl)
        try simp only [Act.put, List.setIfInBounds_toArray, List.set_cons_zero, List.set_cons_succ]
        refine wpAnyH_take (i := 8) (oi := { dst := some 24, op := Go.Op.fieldAddr 97 (Go.Operand.tmp 3) 1, type := 0, pos := "zone.go:130", after := #[], guard := none }) (v := ?v7) rfl (by kernel_rfl) (by kernel_rfl) (by kernel_rfl) (fun _ _ _ h => h) (Or.inl ⟨by kernel_rfl, ?h7⟩) (by assumption) ?r7
        case h7 => (intro w hSw; (try dsimp only at hSw); go_simp; try with_reducible rfl)
        try simp only [Act.put, List.setIfInBounds_toArray, List.set_cons_zero, List.set_cons_succ]
        refine wpAnyH_take (i := 9) (oi := { dst := some 25, op := Go.Op.load 22 (Go.Operand.tmp 24), type := 22, pos := "zone.go:130", after := #[{ on := 8, ground := Go.Ground.data }], guard := none }) (v := ?v8) rfl (by kernel_rfl) (by kernel_rfl) (by kernel_rfl) (fun _ _ _ h => h) (Or.inl ⟨by kernel_rfl, ?h8⟩) (by assumption) ?r8
        case h8 => (intro w hSw; (try dsimp only at hSw); go_simp; try with_reducible rfl)
        try simp only [Act.put, List.setIfInBounds_toArray, List.set_cons_zero, List.set_cons_succ]
        refine wpAnyH_take (i := 10) (oi := { dst := some 26, op := Go.Op.load 97 (Go.Operand.tmp 3), type := 97, pos := "zone.go:130", after := #[], guard := none }) (v := ?v9) rfl (by kernel_rfl) (by kernel_rfl) (by kernel_rfl) (fun _ _ _ h => h) (Or.inl ⟨by kernel_rfl, ?h9⟩) (by assumption) ?r9
        case h9 => (intro w hSw; (try dsimp only at hSw); go_simp; try with_reducible rfl)
        try simp only [Act.put, List.setIfInBounds_toArray, List.set_cons_zero, List.set_cons_succ]
        refine wpAnyH_take (i := 11) (oi := { dst := some 27, op := Go.Op.move (Go.Operand.tmp 6), type := 3, pos := "zone.go:130", after := #[], guard := none }) (v := ?v10) rfl (by kernel_rfl) (by kernel_rfl) (by kernel_rfl) (fun _ _ _ h => h) (Or.inl ⟨by kernel_rfl, ?h10⟩) (by assumption) ?r10
        case h10 => (intro w hSw; (try dsimp only at hSw); go_simp; try with_reducible rfl)
        try simp only [Act.put, List.setIfInBounds_toArray, List.set_cons_zero, List.set_cons_succ]
        refine wpAnyH_take (i := 12) (oi := { dst := some 28, op := Go.Op.move (Go.Operand.tmp 1), type := 3, pos := "zone.go:130", after := #[], guard := none }) (v := ?v11) rfl (by kernel_rfl) (by kernel_rfl) (by kernel_rfl) (fun _ _ _ h => h) (Or.inl ⟨by kernel_rfl, ?h11⟩) (by assumption) ?r11
        case h11 => (intro w hSw; (try dsimp only at hSw); go_simp; try with_reducible rfl)
        try simp only [Act.put, List.setIfInBounds_toArray, List.set_cons_zero, List.set_cons_succ]
        refine wpAnyH_ready (rs := [6]) (by kernel_rfl) (by simp) ?_
        refine AllReadyH.cons (o := { dst := some 22, op := Go.Op.call { callee := Go.Callee.value (Go.Operand.func 102), args := #[Go.Operand.tmp 19, Go.Operand.tmp 20, Go.Operand.tmp 21], argTypes := #[97, 3, 3] }, type := 3, pos := "zone.go:130", after := #[{ on := 3, ground := Go.Ground.data }, { on := 4, ground := Go.Ground.data }, { on := 5, ground := Go.Ground.data }], guard := none }) rfl (fun K hK => ?_) AllReadyH.nil
        go_simp
        refine (h6.out _).mono ?_
        rintro e v6 ⟨rfl, b6⟩
        have O6 := Lib.hid (own_below (show (wr.drew).ownsRow base 3 1 (.slice (some ⟨g, 0, none⟩) s cap) s (nums .i64 (Q k)) from hown.out) b6)
        go_simp
        refine hK.out _ _ (hHeld.trans (BelowE.of (b6.mono hHeld.size))) (fun hHeld => ?_)
        clear hK K
        try simp only [Act.put, List.setIfInBounds_toArray, List.set_cons_zero, List.set_cons_succ]
        refine wpAnyH_take (i := 7) (oi := { dst := some 23, op := Go.Op.indexAddr 22 (Go.Operand.tmp 18) (Go.Operand.tmp 22), type := 0, pos := "zone.go:130", after := #[{ on := 2, ground := Go.Ground.data }, { on := 6, ground := Go.Ground.data }], guard := none }) (v := ?v12) rfl (by kernel_rfl) (by kernel_rfl) (by kernel_rfl) (fun _ _ _ h => h) (Or.inl ⟨by kernel_rfl, ?h12⟩) (by assumption) ?r12
        case h12 => (intro w hSw; (try dsimp only at hSw); go_simp; try with_reducible rfl)
        try simp only [Act.put, List.setIfInBounds_toArray, List.set_cons_zero, List.set_cons_succ]
        refine wpAnyH_ready (rs := [13]) (by kernel_rfl) (by simp) ?_
        refine AllReadyH.cons (o := { dst := some 29, op := Go.Op.call { callee := Go.Callee.value (Go.Operand.func 102), args := #[Go.Operand.tmp 26, Go.Operand.tmp 27, Go.Operand.tmp 28], argTypes := #[97, 3, 3] }, type := 3, pos := "zone.go:130", after := #[{ on := 10, ground := Go.Ground.data }, { on := 11, ground := Go.Ground.data }, { on := 12, ground := Go.Ground.data }, { on := 6, ground := Go.Ground.chain }], guard := none }) rfl (fun K hK => ?_) AllReadyH.nil
        go_simp
        refine (h13.out _).mono ?_
        rintro e v13 ⟨rfl, b13⟩
        have O13 := Lib.hid (own_below O6.out b13)
        go_simp
        refine hK.out _ _ (hHeld.trans (BelowE.of (b13.mono hHeld.size))) (fun hHeld => ?_)
        clear hK K
        try simp only [Act.put, List.setIfInBounds_toArray, List.set_cons_zero, List.set_cons_succ]
        refine wpAnyH_take (i := 14) (oi := { dst := some 30, op := Go.Op.indexAddr 22 (Go.Operand.tmp 25) (Go.Operand.tmp 29), type := 0, pos := "zone.go:130", after := #[{ on := 9, ground := Go.Ground.data }, { on := 13, ground := Go.Ground.data }], guard := none }) (v := ?v13) rfl (by kernel_rfl) (by kernel_rfl) (by kernel_rfl) (fun _ _ _ h => h) (Or.inl ⟨by kernel_rfl, ?h13⟩) (by assumption) ?r13
        case h13 => (intro w hSw; (try dsimp only at hSw); go_simp; try with_reducible rfl)
        try simp only [Act.put, List.setIfInBounds_toArray, List.set_cons_zero, List.set_cons_succ]
        refine wpAnyH_ready (rs := [15]) (by kernel_rfl) (by simp) ?_
        refine AllReadyH.cons (o := { dst := some 31, op := Go.Op.call { callee := Go.Callee.value (Go.Operand.tmp 16), args := #[Go.Operand.tmp 23, Go.Operand.tmp 30], argTypes := #[104, 104] }, type := 0, pos := "zone.go:130", after := #[{ on := 0, ground := Go.Ground.data }, { on := 7, ground := Go.Ground.data }, { on := 14, ground := Go.Ground.data }, { on := 13, ground := Go.Ground.chain }], guard := none }) rfl (fun K hK => ?_) AllReadyH.nil
        go_simp
        refine (hcall.out _ O13.out ).mono ?_
        rintro e v15 ⟨rfl, o15, b15⟩
        have o15' := Lib.hid o15
        clear o15
        go_simp
        refine hK.out _ _ (hHeld.trans (b15.mono hHeld.size)) (fun hHeld => ?_)
        clear hK K
        try simp only [Act.put, List.setIfInBounds_toArray, List.set_cons_zero, List.set_cons_succ]
        refine wpAnyH_done (by kernel_rfl) ?_ _
        have hb2 := Lib.hid (hb.out.trans (hHeld.mono hb.out.size))
        go_wp2
        go_roundw
        case rel => exact ⟨k + 1, by omega, by go_num, o15', hb2⟩
        case measure => simp [intOf]; omega
    · have hke : k = n + 1 := by omega
      have hr : Hid (MatS s g cap base R w (.returned (.tuple #[])) wr) := Lib.hid ⟨rfl, by rw [hfin.out, ← hke]; exact hown.out, (BelowE.of hB'.out).trans (hb.out.mono hB'.out.size)⟩
      clear hown hb
      go_wp2
      go_end0
      exact hr.out
set_option maxRecDepth 100000 in
set_option maxHeartbeats 2000000 in
theorem others_mov (n : Nat) (hn : n ≤ 8) (i : Nat) (hi : i ≤ n) (gw : Nat) (i0 j0 c : Int) (hc : -4398046511104 ≤ c ∧ c ≤ 4398046511104) (g cap base : Nat) (l : List Int) (hl : l.length = sz n) (w : World) (hlb : ∀ p, -2199023255552 ≤ l.getD p 0 ∧ l.getD p 0 ≤ 2199023255552) (hw : Holds w gw 92 #[.int .i64 i0, .int .i64 j0, .int .i64 c]) (hgw : gw ≠ g)
    (hown : w.ownsRow base 3 1 (.slice (some ⟨g, 0, none⟩) (sz n) cap) (sz n) (nums .i64 l)) :
    Calls Tryz.prog 99 #[.agg #[.int .i64 n, .slice (some ⟨g, 0, none⟩) (sz n) cap], .int .i64 i, .func (.func 100) #[] #[.pointer (some ⟨gw, 0, none⟩)]] w (MatS (sz n) g cap base (movL n l i c) w) := by
  have hs81 := sz_le hn
  have hni : (n : Int) ≤ 8 := by omega
  have v1 : IntKind.i64.wrap ((n : Int) + 1) = (n : Int) + 1 := wrap_small (by omega) (by omega)
  have hat := Lib.hid (fun a b W (h1 : a ≤ n) (h2 : b ≤ n) => mat_at n a b hn h1 h2 (some ⟨g, 0, none⟩) (sz n) cap W)
  have hlen : Hid (∀ k, (othK (fun x => x + c) (fun x => x - c) n i l k).length = sz n) := Lib.hid (fun k => by rw [othK_len, hl])
  have hfin : Hid (movL n l i c = othK (fun x => x + c) (fun x => x - c) n i l (n + 1)) := Lib.hid rfl
  have hstep : Hid (∀ k, othK (fun x => x + c) (fun x => x - c) n i l (k + 1) = if k = i then othK (fun x => x + c) (fun x => x - c) n i l k else pairL (fun x => x + c) (fun x => x - c) (othK (fun x => x + c) (fun x => x - c) n i l k) (i * (n + 1) + k) (k * (n + 1) + i)) := Lib.hid (fun k => rfl)
  have hpl : Hid (∀ k, k ≤ n → i * (n + 1) + k < sz n ∧ k * (n + 1) + i < sz n) := Lib.hid (fun k hk => ⟨place_lt hi hk, place_lt hk hi⟩)
  have hpv : Hid (∀ k, k ≤ n → k ≠ i → (-9000000000000 ≤ (othK (fun x => x + c) (fun x => x - c) n i l k).getD (i * (n + 1) + k) 0 ∧ (othK (fun x => x + c) (fun x => x - c) n i l k).getD (i * (n + 1) + k) 0 ≤ 9000000000000) ∧ (-9000000000000 ≤ (othK (fun x => x + c) (fun x => x - c) n i l k).getD (k * (n + 1) + i) 0 ∧ (othK (fun x => x + c) (fun x => x - c) n i l k).getD (k * (n + 1) + i) 0 ≤ 9000000000000)) := Lib.hid (fun k hk hki => by
    obtain ⟨e1, e2⟩ := othK_places (F := fun x => x + c) (G := fun x => x - c) hi hk hki hl
    rw [e1, e2]
    have r1 := hlb (i * (n + 1) + k)
    have r2 := hlb (k * (n + 1) + i)
    unfold mat
    omega)
  have hpd : Hid (∀ k, k ≤ n → k ≠ i → i * (n + 1) + k ≠ k * (n + 1) + i) := Lib.hid (fun k hk hki e => by
    have := congrArg (fun x => x % (n + 1)) e
    simp only [place_mod hk, place_mod hi] at this
    exact hki this)
  have hst : Hid (othK (fun x => x + c) (fun x => x - c) n i l 0 = l) := Lib.hid rfl
  generalize movL n l i c = R at *
  generalize hQ : othK (fun x => x + c) (fun x => x - c) n i l = Q at *
  clear hQ
  generalize sz n = s at *
  have hglt := (hown.lt g rfl).2
  obtain ⟨W1, hW1⟩ : ∃ W1, W1 = w.alloc (.cells #[.int .i64 n, .slice (some ⟨g, 0, none⟩) s cap] 97) := ⟨_, rfl⟩
  have hB : Below w.heap.size w W1 := by rw [hW1]; exact box_below _ _ _
  have Z1 : Holds W1 w.heap.size 97 #[.int .i64 n, .slice (some ⟨g, 0, none⟩) s cap] := by rw [hW1]; exact Holds.new w _ _
  have O1 : Hid (W1.ownsRow base 3 1 (.slice (some ⟨g, 0, none⟩) s cap) s (nums .i64 (Q 0))) := Lib.hid (by rw [hst.out]; exact own_below hown hB)
  have Zw := Lib.hid (hw.below hB hw.lt)
  have hgw2 : gw ∉ [g] := by simpa using hgw
  have hx0 : w.heap.size ∉ [g] := by simp; omega
  have hW1' := Lib.hid hW1
  have hB' := Lib.hid hB
  have Z1' := Lib.hid Z1
  clear hW1 hB Z1 hown hl hst hglt hn
  go_enter Tryz.func99, Tryz.ntmps99
  go_wp2
  rw [← hW1'.out]
  go_loopw [10] (fun x wr => ∃ k : Nat, k ≤ n + 1 ∧ x = .int .i64 k ∧ Hid (wr.ownsRow base 3 1 (.slice (some ⟨g, 0, none⟩) s cap) s (nums .i64 (Q k))) ∧ Hid (BelowE [g] W1.heap.size W1 wr)) (fun x _ => n + 1 - (intOf x).toNat)
  case atStart => exact ⟨0, by omega, rfl, O1, Lib.hid (BelowE.refl _ _ _)⟩
  case round =>
    clear O1
    obtain ⟨k, hkn, rfl, hown, hb⟩ := hrel
    by_cases hlt : k < n + 1
    · have hki : (k : Int) < (n : Int) + 1 := by omega
      by_cases hk : k = i
      · subst hk
        have hnx : Hid (wr.ownsRow base 3 1 (.slice (some ⟨g, 0, none⟩) s cap) s (nums .i64 (Q (k + 1)))) := Lib.hid (by rw [hstep.out, if_pos rfl]; exact hown.out)
        clear hown
        go_wp2
        go_roundw
        case rel => exact ⟨k + 1, by omega, by go_num, hnx, hb⟩
        case measure => simp [intOf]; omega
      · have hne : ((k : Int) != (i : Int)) = true := by simp; omega
        have hne2 : ¬ (k : Int) = (i : Int) := by omega
        have Y := Lib.hid (Z1'.out.belowE hb.out Z1'.out.lt hx0)
        have c0 : ∀ W, BelowE [g] wr.heap.size wr W → W.cell? ⟨w.heap.size, 0, none⟩ = some (.int .i64 n) := fun W hW => (Y.out.belowE hW Y.out.lt hx0).cell 0
        have c1 : ∀ W, BelowE [g] wr.heap.size wr W → W.cell? ⟨w.heap.size, 1, none⟩ = some (.slice (some ⟨g, 0, none⟩) s cap) := fun W hW => (Y.out.belowE hW Y.out.lt hx0).cell 1
        have h6 := Lib.hid (fun W => hat.out i k W hi (by omega))
        have h13 := Lib.hid (fun W => hat.out k i W (by omega) hi)
        obtain ⟨q1, q2⟩ := hpl.out k (by omega)
        have hcall := Lib.hid (fun W (hW : W.ownsRow base 3 1 (.slice (some ⟨g, 0, none⟩) s cap) s (nums .i64 (Q k))) (hH : Holds W gw 92 #[.int .i64 i0, .int .i64 j0, .int .i64 c]) => fmove_any g cap base s (i * (n + 1) + k) (k * (n + 1) + i) gw i0 j0 c hc (Q k) (hlen.out k) q1 q2 (hpd.out k (by omega) hk) (hpv.out k (by omega) hk).1 (hpv.out k (by omega) hk).2 W hH hgw hW)
        have hnx : Hid (pairL (fun x => x + c) (fun x => x - c) (Q k) (i * (n + 1) + k) (k * (n + 1) + i) = Q (k + 1)) := Lib.hid (by rw [hstep.out, if_neg hk])
        have hlk := hlen.out k
        simp only [mov_pair] at hcall
        rw [hnx.out] at hcall
        clear hnx hlk Y
        generalize i * (n + 1) + k = p at *
        generalize k * (n + 1) + i = q at *
        have p1 : (p : Int) < (s : Int) := by omega
        have p2 : (q : Int) < (s : Int) := by omega
        go_wp2
        refine wp_drawn_on (fun W => BelowE [g] wr.heap.size wr W) (by kernel_rfl) ((BelowE.refl _ _ _).drew) (fun hHeld => ?_)
        refine wpAnyH_take (i := 0) (oi := { dst := some 16, op := Go.Op.move (Go.Operand.tmp 2), type := 105, pos := "zone.go:130", after := #[], guard := none }) (v := ?v14) rfl (by kernel_rfl) (by kernel_rfl) (by kernel_rfl) (fun _ _ _ h => h) (Or.inl ⟨by kernel_rfl, ?h14⟩) (by assumption) ?r14
        case h14 => (intro w hSw; (try dsimp only at hSw); go_simp; try with_reducible rfl)
        try simp only [Act.put, List.setIfInBounds_toArray, List.set_cons_zero, List.set_cons_succ]
        refine wpAnyH_take (i := 1) (oi := { dst := some 17, op := Go.Op.fieldAddr 97 (Go.Operand.tmp 3) 1, type := 0, pos := "zone.go:130", after := #[], guard := none }) (v := ?v15) rfl (by kernel_rfl) (by kernel_rfl) (by kernel_rfl) (fun _ _ _ h => h) (Or.inl ⟨by kernel_rfl, ?h15⟩) (by assumption) ?r15
        case h15 => (intro w hSw; (try dsimp only at hSw); go_simp; try with_reducible rfl)
        try simp only [Act.put, List.setIfInBounds_toArray, List.set_cons_zero, List.set_cons_succ]
        refine wpAnyH_take (i := 2) (oi := { dst := some 18, op := Go.Op.load 22 (Go.Operand.tmp 17), type := 22, pos := "zone.go:130", after := #[{ on := 1, ground := Go.Ground.data }], guard := none }) (v := ?v16) rfl (by kernel_rfl) (by kernel_rfl) (by kernel_rfl) (fun _ _ _ h => h) (Or.inl ⟨by kernel_rfl, ?h16⟩) (by assumption) ?r16
        case h16 => (intro w hSw; (try dsimp only at hSw); go_simp; try with_reducible rfl)
        try simp only [Act.put, List.setIfInBounds_toArray, List.set_cons_zero, List.set_cons_succ]
        refine wpAnyH_take (i := 3) (oi := { dst := some 19, op := Go.Op.load 97 (Go.Operand.tmp 3), type := 97, pos := "zone.go:130", after := #[], guard := none }) (v := ?v17) rfl (by kernel_rfl) (by kernel_rfl) (by kernel_rfl) (fun _ _ _ h => h) (Or.inl ⟨by kernel_rfl, ?h17⟩) (by assumption) ?r17
        case h17 => (intro w hSw; (try dsimp only at hSw); go_simp; try with_reducible rfl)
        try simp only [Act.put, List.setIfInBounds_toArray, List.set_cons_zero, List.set_cons_succ]
        refine wpAnyH_take (i := 4) (oi := { dst := some 20, op := Go.Op.move (Go.Operand.tmp 1), type := 3, pos := "zone.go:130", after := #[], guard := none }) (v := ?v18) rfl (by kernel_rfl) (by kernel_rfl) (by kernel_rfl) (fun _ _ _ h => h) (Or.inl ⟨by kernel_rfl, ?h18⟩) (by assumption) ?r18
        case h18 => (intro w hSw; (try dsimp only at hSw); go_simp; try with_reducible rfl)
        try simp only [Act.put, List.setIfInBounds_toArray, List.set_cons_zero, List.set_cons_succ]
        refine wpAnyH_take (i := 5) (oi := { dst := some 21, op := Go.Op.move (Go.Operand.tmp 6), type := 3, pos := "zone.go:130", after := #[], guard := none }) (v := ?v19) rfl (by kernel_rfl) (by kernel_rfl) (by kernel_rfl) (fun _ _ _ h => h) (Or.inl ⟨by kernel_rfl, ?h19⟩) (by assumption) ?r19
        case h19 => (intro w hSw; (try dsimp only at hSw); go_simp; try with_reducible rfl)
        try simp only [Act.put, List.setIfInBounds_toArray, List.set_cons_zero, List.set_cons_succ]
        refine wpAnyH_take (i := 8) (oi := { dst := some 24, op := Go.Op.fieldAddr 97 (Go.Operand.tmp 3) 1, type := 0, pos := "zone.go:130", after := #[], guard := none }) (v := ?v20) rfl (by kernel_rfl) (by kernel_rfl) (by kernel_rfl) (fun _ _ _ h => h) (Or.inl ⟨by kernel_rfl, ?h20⟩) (by assumption) ?r20
        case h20 => (intro w hSw; (try dsimp only at hSw); go_simp; try with_reducible rfl)
        try simp only [Act.put, List.setIfInBounds_toArray, List.set_cons_zero, List.set_cons_succ]
        refine wpAnyH_take (i := 9) (oi := { dst := some 25, op := Go.Op.load 22 (Go.Operand.tmp 24), type := 22, pos := "zone.go:130", after := #[{ on := 8, ground := Go.Ground.data }], guard := none }) (v := ?v21) rfl (by kernel_rfl) (by kernel_rfl) (by kernel_rfl) (fun _ _ _ h => h) (Or.inl ⟨by kernel_rfl, ?h21⟩) (by assumption) ?r21
        case h21 => (intro w hSw; (try dsimp only at hSw); go_simp; try with_reducible rfl)
        try simp only [Act.put, List.setIfInBounds_toArray, List.set_cons_zero, List.set_cons_succ]
        refine wpAnyH_take (i := 10) (oi := { dst := some 26, op := Go.Op.load 97 (Go.Operand.tmp 3), type := 97, pos := "zone.go:130", after := #[], guard := none }) (v := ?v22) rfl (by kernel_rfl) (by kernel_rfl) (by kernel_rfl) (fun _ _ _ h => h) (Or.inl ⟨by kernel_rfl, ?h22⟩) (by assumption) ?r22
        case h22 => (intro w hSw; (try dsimp only at hSw); go_simp; try with_reducible rfl)
        try simp only [Act.put, List.setIfInBounds_toArray, List.set_cons_zero, List.set_cons_succ]
        refine wpAnyH_take (i := 11) (oi := { dst := some 27, op := Go.Op.move (Go.Operand.tmp 6), type := 3, pos := "zone.go:130", after := #[], guard := none }) (v := ?v23) rfl (by kernel_rfl) (by kernel_rfl) (by kernel_rfl) (fun _ _ _ h => h) (Or.inl ⟨by kernel_rfl, ?h23⟩) (by assumption) ?r23
        case h23 => (intro w hSw; (try dsimp only at hSw); go_simp; try with_reducible rfl)
        try simp only [Act.put, List.setIfInBounds_toArray, List.set_cons_zero, List.set_cons_succ]
        refine wpAnyH_take (i := 12) (oi := { dst := some 28, op := Go.Op.move (Go.Operand.tmp 1), type := 3, pos := "zone.go:130", after := #[], guard := none }) (v := ?v24) rfl (by kernel_rfl) (by kernel_rfl) (by kernel_rfl) (fun _ _ _ h => h) (Or.inl ⟨by kernel_rfl, ?h24⟩) (by assumption) ?r24
        case h24 => (intro w hSw; (try dsimp only at hSw); go_simp; try with_reducible rfl)
        try simp only [Act.put, List.setIfInBounds_toArray, List.set_cons_zero, List.set_cons_succ]
        refine wpAnyH_ready (rs := [6]) (by kernel_rfl) (by simp) ?_
        refine AllReadyH.cons (o := { dst := some 22, op := Go.Op.call { callee := Go.Callee.value (Go.Operand.func 102), args := #[Go.Operand.tmp 19, Go.Operand.tmp 20, Go.Operand.tmp 21], argTypes := #[97, 3, 3] }, type := 3, pos := "zone.go:130", after := #[{ on := 3, ground := Go.Ground.data }, { on := 4, ground := Go.Ground.data }, { on := 5, ground := Go.Ground.data }], guard := none }) rfl (fun K hK => ?_) AllReadyH.nil
        go_simp
        refine (h6.out _).mono ?_
        rintro e v6 ⟨rfl, b6⟩
        have O6 := Lib.hid (own_below (show (wr.drew).ownsRow base 3 1 (.slice (some ⟨g, 0, none⟩) s cap) s (nums .i64 (Q k)) from hown.out) b6)
        go_simp
        refine hK.out _ _ (hHeld.trans (BelowE.of (b6.mono hHeld.size))) (fun hHeld => ?_)
        clear hK K
        try simp only [Act.put, List.setIfInBounds_toArray, List.set_cons_zero, List.set_cons_succ]
        refine wpAnyH_take (i := 7) (oi := { dst := some 23, op := Go.Op.indexAddr 22 (Go.Operand.tmp 18) (Go.Operand.tmp 22), type := 0, pos := "zone.go:130", after := #[{ on := 2, ground := Go.Ground.data }, { on := 6, ground := Go.Ground.data }], guard := none }) (v := ?v25) rfl (by kernel_rfl) (by kernel_rfl) (by kernel_rfl) (fun _ _ _ h => h) (Or.inl ⟨by kernel_rfl, ?h25⟩) (by assumption) ?r25
        case h25 => (intro w hSw; (try dsimp only at hSw); go_simp; try with_reducible rfl)
        try simp only [Act.put, List.setIfInBounds_toArray, List.set_cons_zero, List.set_cons_succ]
        refine wpAnyH_ready (rs := [13]) (by kernel_rfl) (by simp) ?_
        refine AllReadyH.cons (o := { dst := some 29, op := Go.Op.call { callee := Go.Callee.value (Go.Operand.func 102), args := #[Go.Operand.tmp 26, Go.Operand.tmp 27, Go.Operand.tmp 28], argTypes := #[97, 3, 3] }, type := 3, pos := "zone.go:130", after := #[{ on := 10, ground := Go.Ground.data }, { on := 11, ground := Go.Ground.data }, { on := 12, ground := Go.Ground.data }, { on := 6, ground := Go.Ground.chain }], guard := none }) rfl (fun K hK => ?_) AllReadyH.nil
        go_simp
        refine (h13.out _).mono ?_
        rintro e v13 ⟨rfl, b13⟩
        have O13 := Lib.hid (own_below O6.out b13)
        go_simp
        refine hK.out _ _ (hHeld.trans (BelowE.of (b13.mono hHeld.size))) (fun hHeld => ?_)
        clear hK K
        try simp only [Act.put, List.setIfInBounds_toArray, List.set_cons_zero, List.set_cons_succ]
        refine wpAnyH_take (i := 14) (oi := { dst := some 30, op := Go.Op.indexAddr 22 (Go.Operand.tmp 25) (Go.Operand.tmp 29), type := 0, pos := "zone.go:130", after := #[{ on := 9, ground := Go.Ground.data }, { on := 13, ground := Go.Ground.data }], guard := none }) (v := ?v26) rfl (by kernel_rfl) (by kernel_rfl) (by kernel_rfl) (fun _ _ _ h => h) (Or.inl ⟨by kernel_rfl, ?h26⟩) (by assumption) ?r26
        case h26 => (intro w hSw; (try dsimp only at hSw); go_simp; try with_reducible rfl)
        try simp only [Act.put, List.setIfInBounds_toArray, List.set_cons_zero, List.set_cons_succ]
        refine wpAnyH_ready (rs := [15]) (by kernel_rfl) (by simp) ?_
        refine AllReadyH.cons (o := { dst := some 31, op := Go.Op.call { callee := Go.Callee.value (Go.Operand.tmp 16), args := #[Go.Operand.tmp 23, Go.Operand.tmp 30], argTypes := #[104, 104] }, type := 0, pos := "zone.go:130", after := #[{ on := 0, ground := Go.Ground.data }, { on := 7, ground := Go.Ground.data }, { on := 14, ground := Go.Ground.data }, { on := 13, ground := Go.Ground.chain }], guard := none }) rfl (fun K hK => ?_) AllReadyH.nil
        go_simp
        refine (hcall.out _ O13.out (Zw.out.belowE (hb.out.trans (hHeld.mono hb.out.size)) Zw.out.lt hgw2)).mono ?_
        rintro e v15 ⟨rfl, o15, b15⟩
        have o15' := Lib.hid o15
        clear o15
        go_simp
        refine hK.out _ _ (hHeld.trans (b15.mono hHeld.size)) (fun hHeld => ?_)
        clear hK K
        try simp only [Act.put, List.setIfInBounds_toArray, List.set_cons_zero, List.set_cons_succ]
        refine wpAnyH_done (by kernel_rfl) ?_ _
        have hb2 := Lib.hid (hb.out.trans (hHeld.mono hb.out.size))
        go_wp2
        go_roundw
        case rel => exact ⟨k + 1, by omega, by go_num, o15', hb2⟩
        case measure => simp [intOf]; omega
    · have hke : k = n + 1 := by omega
      have hr : Hid (MatS s g cap base R w (.returned (.tuple #[])) wr) := Lib.hid ⟨rfl, by rw [hfin.out, ← hke]; exact hown.out, (BelowE.of hB'.out).trans (hb.out.mono hB'.out.size)⟩
      clear hown hb
      go_wp2
      go_end0
      exact hr.out
theorem mforget_any (n : Nat) (hn : n ≤ 8) (i j : Nat) (hi : i ≤ n) (hj : j ≤ n) (c : Int) (hc : -4398046511104 ≤ c ∧ c ≤ 4398046511104) (g cap base : Nat) (l : List Int) (hl : l.length = sz n) (w : World) (hown : w.ownsRow base 3 1 (.slice (some ⟨g, 0, none⟩) (sz n) cap) (sz n) (nums .i64 l)) : Calls Tryz.prog 91 #[.agg #[.int .i64 n, .slice (some ⟨g, 0, none⟩) (sz n) cap], .agg #[.int .i64 i, .int .i64 j, .int .i64 c]] w (MatS (sz n) g cap base (forL n l i) w) := by
  obtain ⟨W1, hW1⟩ : ∃ W1, W1 = (w.alloc (.cells #[.int .i64 n, .slice (some ⟨g, 0, none⟩) (sz n) cap] 97)).alloc (.cells #[.int .i64 i, .int .i64 j, .int .i64 c] 92) := ⟨_, rfl⟩
  have hB : Below w.heap.size w W1 := by rw [hW1]; exact box2_below _ _ _ _ _
  have Z1 : Holds W1 w.heap.size 97 #[.int .i64 n, .slice (some ⟨g, 0, none⟩) (sz n) cap] := by rw [hW1]; exact (Holds.new w _ _).alloc _
  have Z2 : Holds W1 (w.heap.size + 1) 92 #[.int .i64 i, .int .i64 j, .int .i64 c] := by
    rw [hW1]
    have := Holds.new (w.alloc (.cells #[.int .i64 n, .slice (some ⟨g, 0, none⟩) (sz n) cap] 97)) 92 #[.int .i64 i, .int .i64 j, .int .i64 c]
    simpa using this
  have O1 := own_below hown hB
  have hglt := (hown.lt g rfl).2
  have hW1' := Lib.hid hW1
  have hB' := Lib.hid hB
  have q := Lib.hid (others_far n hn i hi g cap base l hl W1 O1)
  clear hW1 hB Z1 Z2 O1 hown hglt
  go_enter Tryz.func91, Tryz.ntmps91
  go_wp2_with fail
  rw [← hW1'.out]
  refine q.out.mono ?_
  rintro e w2 ⟨rfl, o2, b2⟩
  have hfin := Lib.hid (show MatS (sz n) g cap base (forL n l i) w (.returned (.tuple #[])) w2 from ⟨rfl, o2, (BelowE.of hB'.out).trans (b2.mono hB'.out.size)⟩)
  clear o2 b2
  go_wp2
  go_end0
  exact hfin.out
theorem mmove_any (n : Nat) (hn : n ≤ 8) (i j : Nat) (hi : i ≤ n) (hj : j ≤ n) (c : Int) (hc : -4398046511104 ≤ c ∧ c ≤ 4398046511104) (g cap base : Nat) (l : List Int) (hl : l.length = sz n) (hlb : ∀ p, -2199023255552 ≤ l.getD p 0 ∧ l.getD p 0 ≤ 2199023255552) (w : World) (hown : w.ownsRow base 3 1 (.slice (some ⟨g, 0, none⟩) (sz n) cap) (sz n) (nums .i64 l)) : Calls Tryz.prog 90 #[.agg #[.int .i64 n, .slice (some ⟨g, 0, none⟩) (sz n) cap], .agg #[.int .i64 i, .int .i64 j, .int .i64 c]] w (MatS (sz n) g cap base (movL n l i c) w) := by
  obtain ⟨W1, hW1⟩ : ∃ W1, W1 = (w.alloc (.cells #[.int .i64 n, .slice (some ⟨g, 0, none⟩) (sz n) cap] 97)).alloc (.cells #[.int .i64 i, .int .i64 j, .int .i64 c] 92) := ⟨_, rfl⟩
  have hB : Below w.heap.size w W1 := by rw [hW1]; exact box2_below _ _ _ _ _
  have Z1 : Holds W1 w.heap.size 97 #[.int .i64 n, .slice (some ⟨g, 0, none⟩) (sz n) cap] := by rw [hW1]; exact (Holds.new w _ _).alloc _
  have Z2 : Holds W1 (w.heap.size + 1) 92 #[.int .i64 i, .int .i64 j, .int .i64 c] := by
    rw [hW1]
    have := Holds.new (w.alloc (.cells #[.int .i64 n, .slice (some ⟨g, 0, none⟩) (sz n) cap] 97)) 92 #[.int .i64 i, .int .i64 j, .int .i64 c]
    simpa using this
  have O1 := own_below hown hB
  have hglt := (hown.lt g rfl).2
  have hW1' := Lib.hid hW1
  have hB' := Lib.hid hB
  have q := Lib.hid (others_mov n hn i hi (w.heap.size + 1) i j c hc g cap base l hl W1 hlb Z2 (by omega) O1)
  clear hW1 hB Z1 Z2 O1 hown hglt hlb
  go_enter Tryz.func90, Tryz.ntmps90
  go_wp2_with fail
  rw [← hW1'.out]
  refine q.out.mono ?_
  rintro e w2 ⟨rfl, o2, b2⟩
  have hfin := Lib.hid (show MatS (sz n) g cap base (movL n l i c) w (.returned (.tuple #[])) w2 from ⟨rfl, o2, (BelowE.of hB'.out).trans (b2.mono hB'.out.size)⟩)
  clear o2 b2
  go_wp2
  go_end0
  exact hfin.out
def tieL (n : Nat) (l : List Int) (i j : Nat) (c : Int) : List Int := limL n (limL n l i j c) j i (-c)
theorem mtie_any (n : Nat) (hn : n ≤ 8) (i j : Nat) (hi : i ≤ n) (hj : j ≤ n) (c : Int) (hc : -4398046511104 ≤ c ∧ c ≤ 4398046511104) (g cap base : Nat) (l : List Int) (hl : l.length = sz n) (w : World) (hown : w.ownsRow base 3 1 (.slice (some ⟨g, 0, none⟩) (sz n) cap) (sz n) (nums .i64 l)) : Calls Tryz.prog 92 #[.agg #[.int .i64 n, .slice (some ⟨g, 0, none⟩) (sz n) cap], .agg #[.int .i64 i, .int .i64 j, .int .i64 c]] w (MatS (sz n) g cap base (tieL n l i j c) w) := by
  obtain ⟨W1, hW1⟩ : ∃ W1, W1 = (w.alloc (.cells #[.int .i64 n, .slice (some ⟨g, 0, none⟩) (sz n) cap] 97)).alloc (.cells #[.int .i64 i, .int .i64 j, .int .i64 c] 92) := ⟨_, rfl⟩
  have hB : Below w.heap.size w W1 := by rw [hW1]; exact box2_below _ _ _ _ _
  have Z1 : Holds W1 w.heap.size 97 #[.int .i64 n, .slice (some ⟨g, 0, none⟩) (sz n) cap] := by rw [hW1]; exact (Holds.new w _ _).alloc _
  have Z2 : Holds W1 (w.heap.size + 1) 92 #[.int .i64 i, .int .i64 j, .int .i64 c] := by
    rw [hW1]
    have := Holds.new (w.alloc (.cells #[.int .i64 n, .slice (some ⟨g, 0, none⟩) (sz n) cap] 97)) 92 #[.int .i64 i, .int .i64 j, .int .i64 c]
    simpa using this
  have O1 := own_below hown hB
  have hglt := (hown.lt g rfl).2
  have hW1' := Lib.hid hW1
  have hB' := Lib.hid hB
  have q1 := Lib.hid (mlimit_any n hn i j hi hj c g cap base l hl W1 O1)
  have q2 := Lib.hid (fun W hW => mlimit_any n hn j i hj hi (-c) g cap base (limL n l i j c) (by rw [limL_len, hl]) W hW)
  have Z1' := Lib.hid Z1
  have Z2' := Lib.hid Z2
  have hx0 : w.heap.size ∉ [g] := by simp; omega
  have hx1 : w.heap.size + 1 ∉ [g] := by simp; omega
  have hneg : IntKind.i64.wrap (-c) = -c := wrap_small (by omega) (by omega)
  have hT : Hid (tieL n l i j c = limL n (limL n l i j c) j i (-c)) := Lib.hid rfl
  clear hW1 hB Z1 Z2 O1 hown hglt
  generalize tieL n l i j c = R at *
  go_enter Tryz.func92, Tryz.ntmps92
  go_wp2_with fail
  rw [← hW1'.out]
  refine q1.out.mono ?_
  rintro e w2 ⟨rfl, o2, b2⟩
  have p2 := Lib.hid (q2.out w2 o2)
  rw [← hT.out] at p2
  have Y1 := Z1'.out.belowE b2 Z1'.out.lt hx0
  have Y2 := Z2'.out.belowE b2 Z2'.out.lt hx1
  have b2' := Lib.hid b2
  have k0 := Y1.cell 0
  have k1 := Y1.cell 1
  have j0 := Y2.cell 0
  have j1 := Y2.cell 1
  have j2 := Y2.cell 2
  clear q1 q2 o2 b2 Y1 Y2 hT
  go_wp2_with fail
  refine p2.out.mono ?_
  rintro e w3 ⟨rfl, o3, b3⟩
  have hfin := Lib.hid (show MatS (sz n) g cap base R w (.returned (.tuple #[])) w3 from ⟨rfl, o3, (BelowE.of hB'.out).trans ((b2'.out.trans (b3.mono b2'.out.size)).mono hB'.out.size)⟩)
  clear o3 b3 p2 k0 k1 j0 j1 j2
  go_wp2
  go_end0
  exact hfin.out
end Go.Proofs.YtplgmmjppmpnoaaGreatDoor
