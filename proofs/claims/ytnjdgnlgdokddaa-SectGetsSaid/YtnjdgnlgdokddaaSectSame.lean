/- sect: Same, Find; the document's Same, Check, Large. -/
import Derived.Test.YtnjdgnlgdokddaaSectFuncs
import Derived.Deep.LoopGhost
namespace Go.Proofs.Ytnjdgnlgdokddaa
open Go.RowKit
set_option linter.unusedVariables false
set_option linter.unusedSimpArgs false

theorem below_box (w : World) (v1 : Array Value) (t1 : TypeId) : Below w.heap.size w (w.alloc (.cells v1 t1)) := (Below.refl _ _).alloc (Nat.le_refl _) _
set_option maxRecDepth 100000 in
theorem pair_any (s1 s2 : Sc) (w : World) (o1 : ScOK w.heap.size w s1) (o2 : ScOK w.heap.size w s2) :
    Calls Try.prog 38 #[.agg #[.int .i64 s1.tag, .slice s1.a s1.m s1.c], .agg #[.int .i64 s2.tag, .slice s2.a s2.m s2.c]] w (Gives (.bool (decide (absS s1 = absS s2))) w) := by
  have hB : Below w.heap.size w ((w.alloc (.cells #[.int .i64 s1.tag, .slice s1.a s1.m s1.c] 39)).alloc (.cells #[.int .i64 s2.tag, .slice s2.a s2.m s2.c] 39)) :=
    ((Below.refl _ _).alloc (Nat.le_refl _) _).alloc (by simp) _
  have q1 := (o1.below hB).2.2.2.2.2
  have q2 := (o2.below hB).2.2.2.2.2
  have heq := Lib.hid (bequal_any s1.a s2.a s1.b s2.b s1.m s2.m s1.c s2.c _ o1.2.1 o2.2.1 o1.2.2.2.2.1 o2.2.2.2.2.1 _ q1 q2)
  have hres : Hid (∀ v, v = (decide (s1.tag = s2.tag) && decide (s1.b = s2.b)) → v = decide (absS s1 = absS s2)) := Lib.hid (by
    rintro v rfl
    simp [absS, Prod.ext_iff])
  have hB' := Lib.hid hB
  clear q1 q2 o1 o2 hB
  generalize decide (absS s1 = absS s2) = d at *
  generalize decide (s1.b = s2.b) = eb at *
  generalize s1.tag = t1 at *
  generalize s2.tag = t2 at *
  by_cases ht : t1 = t2
  · subst ht
    have hr2 := hres.out eb (by simp)
    subst hr2
    clear hres
    go_enter Try.func38, Try.ntmps38
    go_wp2_with fail
    refine heq.out.mono ?_
    rintro e w1 ⟨rfl, rfl⟩
    go_wp2
    go_ret
    exact ⟨rfl, hB'.out⟩
  · have hr2 := hres.out false (by simp [ht])
    subst hr2
    have ht2 : (t1 == t2) = false := by simpa using ht
    clear hres heq
    go_enter Try.func38, Try.ntmps38
    go_wp2
    go_ret
    exact ⟨rfl, hB'.out⟩

theorem same_step {l1 l2 : List Sc} {k : Nat} (h1 : k < l1.length) (h2 : k < l2.length) (h : (l1.take k).map absS = (l2.take k).map absS) (e : absS (l1.getD k sc0) = absS (l2.getD k sc0)) : (l1.take (k + 1)).map absS = (l2.take (k + 1)).map absS := by
  rw [List.take_succ_eq_append_getElem h1, List.take_succ_eq_append_getElem h2, List.map_append, List.map_append, h]
  simp [List.getD, h1, h2] at e
  simp [e]
theorem same_no {l1 l2 : List Sc} {k : Nat} (h1 : k < l1.length) (h2 : k < l2.length) (e : absS (l1.getD k sc0) ≠ absS (l2.getD k sc0)) : decide (l1.map absS = l2.map absS) = false := by
  rw [decide_eq_false_iff_not]
  intro h
  apply e
  have := congrArg (fun l => l[k]?) h
  simpa [List.getD, h1, h2] using this
set_option maxRecDepth 100000 in
set_option maxHeartbeats 1000000 in
theorem equalf_any (r1 r2 : Option Addr) (l1 l2 : List Sc) (n1 n2 c1 c2 : Nat) (h1 : n1 = l1.length) (h2 : n2 = l2.length) (hl : n1 ≤ 9223372036854775807) (hl2 : n2 ≤ 9223372036854775807) (w : World) (s1 : SecS w.heap.size w r1 l1) (s2 : SecS w.heap.size w r2 l2) :
    Calls Try.prog 37 #[.slice r1 n1 c1, .slice r2 n2 c2, .func (.func 38) #[] #[]] w (Gives (.bool (decide (l1.map absS = l2.map absS))) w) := by
  by_cases hn : n1 = n2
  · subst hn
    have hli : (n1 : Int) ≤ 9223372036854775807 := by omega
    have h1' := Lib.hid h1
    have h2' := Lib.hid h2
    have s1' := Lib.hid s1
    have s2' := Lib.hid s2
    clear h1 h2 s1 s2 hl hl2
    go_enter Try.func37, Try.ntmps37
    go_wp2
    go_loopw [17] (fun i wr => ∃ k : Nat, k ≤ n1 ∧ i = .int .i64 k ∧ Hid ((l1.take k).map absS = (l2.take k).map absS) ∧ Hid (Below w.heap.size w wr)) (fun i _ => n1 - (intOf i).toNat)
    case atStart => exact ⟨0, Nat.zero_le _, rfl, Lib.hid (by simp), Lib.hid (Below.refl _ _)⟩
    case round =>
      obtain ⟨k, hk, rfl, he, hB⟩ := hrel
      by_cases hlt : k < n1
      · have hk1 : k < l1.length := by have := h1'.out; omega
        have hk2 : k < l2.length := by have := h2'.out; omega
        obtain ⟨b1, o1, rfl, hb1, e1, e2, ok1⟩ := (s1'.out.below hB.out).at_ hk1
        obtain ⟨b2, o2, rfl, hb2, g1, g2, ok2⟩ := (s2'.out.below hB.out).at_ hk2
        have hsz := hB.out.size
        have hBx : Below wr.heap.size wr ((wr.alloc (.cells #[.int .i64 (l1.getD k sc0).tag, .slice (l1.getD k sc0).a (l1.getD k sc0).m (l1.getD k sc0).c] 39)).alloc (.cells #[.int .i64 (l2.getD k sc0).tag, .slice (l2.getD k sc0).a (l2.getD k sc0).m (l2.getD k sc0).c] 39)) :=
          ((Below.refl _ _).alloc (Nat.le_refl _) _).alloc (by simp) _
        have hcall := Lib.hid (pair_any (l1.getD k sc0) (l2.getD k sc0) _ (((ok1.mono hsz).below hBx).mono hBx.size) (((ok2.mono hsz).below hBx).mono hBx.size))
        have hBx' := Lib.hid (hB.out.trans (hBx.mono hsz))
        have hyes : Hid (absS (l1.getD k sc0) = absS (l2.getD k sc0) → (l1.take (k + 1)).map absS = (l2.take (k + 1)).map absS) := Lib.hid (same_step hk1 hk2 he.out)
        have hno : Hid (absS (l1.getD k sc0) ≠ absS (l2.getD k sc0) → decide (l1.map absS = l2.map absS) = false) := Lib.hid (same_no hk1 hk2)
        have hB1x : Below wr.heap.size wr (wr.alloc (.cells #[.int .i64 (l1.getD k sc0).tag, .slice (l1.getD k sc0).a (l1.getD k sc0).m (l1.getD k sc0).c] 39)) := below_box _ _ _
        have g1x := (hB1x.cell (p := ⟨b2, o2 + k * 2, none⟩) (by simp; omega)).trans g1
        have g2x := (hB1x.cell (p := ⟨b2, o2 + k * 2 + 1, none⟩) (by simp; omega)).trans g2
        clear ok1 ok2 hBx hk1 hk2 he hsz hb1 hb2 hB1x
        by_cases hab : absS (l1.getD k sc0) = absS (l2.getD k sc0)
        · have hy := Lib.hid (hyes.out hab)
          rw [decide_eq_true hab] at hcall
          clear hyes hno hab
          generalize (l1.getD k sc0).tag = tg at *
          generalize (l1.getD k sc0).a = ad at *
          generalize (l1.getD k sc0).m = mm at *
          generalize (l1.getD k sc0).c = cc at *
          generalize (l2.getD k sc0).tag = tg2 at *
          generalize (l2.getD k sc0).a = ad2 at *
          generalize (l2.getD k sc0).m = mm2 at *
          generalize (l2.getD k sc0).c = cc2 at *
          go_wp2_with fail
          refine hcall.out.mono ?_
          rintro e w1 ⟨rfl, q1⟩
          have hB1 := Lib.hid (hBx'.out.trans (q1.mono hBx'.out.size))
          clear q1 hcall hBx'
          go_wp2
          go_roundw
          case rel => exact ⟨k + 1, by omega, by go_num, hy, hB1⟩
          case measure => simp [intOf]; omega
        · have hn2 := Lib.hid (hno.out hab)
          rw [decide_eq_false hab] at hcall
          clear hyes hno hab
          generalize (l1.getD k sc0).tag = tg at *
          generalize (l1.getD k sc0).a = ad at *
          generalize (l1.getD k sc0).m = mm at *
          generalize (l1.getD k sc0).c = cc at *
          generalize (l2.getD k sc0).tag = tg2 at *
          generalize (l2.getD k sc0).a = ad2 at *
          generalize (l2.getD k sc0).m = mm2 at *
          generalize (l2.getD k sc0).c = cc2 at *
          go_wp2_with fail
          refine hcall.out.mono ?_
          rintro e w1 ⟨rfl, q1⟩
          have hB1 := Lib.hid (hBx'.out.trans (q1.mono hBx'.out.size))
          clear q1 hcall hBx'
          go_wp2
          go_ret
          exact ⟨by rw [hn2.out]; rfl, hB1.out⟩
      · have hl : decide (l1.map absS = l2.map absS) = true := by
          have hkn : k = n1 := by omega
          have := he.out
          rw [hkn, List.take_of_length_le (by have := h1'.out; omega), List.take_of_length_le (by have := h2'.out; omega)] at this
          simpa using this
        have hl' := Lib.hid hl
        clear hl he
        go_wp2
        go_ret
        exact ⟨by rw [hl'.out]; rfl, hB.out⟩
  · have hl3 : decide (l1.map absS = l2.map absS) = false := by
      rw [decide_eq_false_iff_not]
      intro e
      have := congrArg List.length e
      simp at this
      omega
    rw [hl3]
    have hi1 : (n1 : Int) ≠ (n2 : Int) := by omega
    have hi2 : ((n1 : Int) != (n2 : Int)) = true := by simpa using hi1
    clear h1 h2 s1 s2 hl hl2 hn hl3
    go_enter Try.func37, Try.ntmps37
    go_wp2
    go_ret
    exact ⟨rfl, Below.refl _ _⟩
theorem ssame_any (r1 r2 : Option Addr) (l1 l2 : List Sc) (n1 n2 c1 c2 : Nat) (h1 : n1 = l1.length) (h2 : n2 = l2.length) (hl : n1 ≤ 9223372036854775807) (hl2 : n2 ≤ 9223372036854775807) (w : World) (s1 : SecS w.heap.size w r1 l1) (s2 : SecS w.heap.size w r2 l2) :
    Calls Try.prog 17 #[.slice r1 n1 c1, .slice r2 n2 c2] w (Gives (.bool (decide (l1.map absS = l2.map absS))) w) := by
  have hq := Lib.hid (equalf_any r1 r2 l1 l2 n1 n2 c1 c2 h1 h2 hl hl2 w s1 s2)
  clear h1 h2 hl hl2 s1 s2
  generalize decide (l1.map absS = l2.map absS) = d at *
  go_enter Try.func17, Try.ntmps17
  go_wp2_with fail
  refine hq.out.mono ?_
  rintro e w1 ⟨rfl, b1⟩
  have b1' := Lib.hid b1
  clear b1 hq
  go_wp2
  go_ret
  exact ⟨rfl, b1'.out⟩
end Go.Proofs.Ytnjdgnlgdokddaa
