/- Zones changed: the document's Var, Or0, Limit, Itv. -/
import Derived.Test.YtacbkddkjlnklaaZoneLives
namespace Go.Proofs.Ytacbkddkjlnklaa
open Go.RowKit
set_option linter.unusedVariables false
set_option linter.unusedSimpArgs false

theorem rvar_any (n i : Int) (a : Option Addr) (m c : Nat) (w : World) : Calls Try.prog 26 #[.agg #[.int .i64 n, .slice a m c], .int .i64 i] w (Gives (.bool (decide (1 ≤ i) && decide (i ≤ n))) w) := by
  have hB := box_below w #[.int .i64 n, .slice a m c] 24
  by_cases h : 1 ≤ i
  · rw [decide_eq_true h, Bool.true_and]
    go_enter Try.func26, Try.ntmps26
    go_wp2
    go_ret
    exact ⟨rfl, hB⟩
  · rw [decide_eq_false h, Bool.false_and]
    go_enter Try.func26, Try.ntmps26
    go_wp2
    go_ret
    exact ⟨rfl, hB⟩
theorem ror0_any (n i : Int) (a : Option Addr) (m c : Nat) (w : World) : Calls Try.prog 27 #[.agg #[.int .i64 n, .slice a m c], .int .i64 i] w (Gives (.bool (decide (0 ≤ i) && decide (i ≤ n))) w) := by
  have hB := box_below w #[.int .i64 n, .slice a m c] 24
  by_cases h : 0 ≤ i
  · rw [decide_eq_true h, Bool.true_and]
    go_enter Try.func27, Try.ntmps27
    go_wp2
    go_ret
    exact ⟨rfl, hB⟩
  · rw [decide_eq_false h, Bool.false_and]
    go_enter Try.func27, Try.ntmps27
    go_wp2
    go_ret
    exact ⟨rfl, hB⟩
theorem b1_new2 (w : World) (x y x2 y2 : Value) : Below w.heap.size w ((w.alloc (.cells #[x, y] 24)).alloc (.cells #[x2, y2] 24)) ∧ ZH ((w.alloc (.cells #[x, y] 24)).alloc (.cells #[x2, y2] 24)) (w.heap.size + 1) x2 y2 := by
  refine ⟨box2_below _ _ _ _ _, ?_⟩
  have := Holds.new (w.alloc (.cells #[x, y] 24)) 24 #[x2, y2]
  simpa using this
theorem rlim_nil (n : Nat) (i j c : Int) (a : Option Addr) (ca : Nat) (w : World) : Calls Try.prog 30 #[.agg #[.int .i64 n, .slice a 0 ca], .int .i64 i, .int .i64 j, .int .i64 c] w (ZoneN n [] w) := by
  obtain ⟨hb, hz⟩ := b1_new2 w (.int .i64 n) (.slice a 0 ca) (.int .i64 n) (.slice a 0 ca)
  have hb' := Lib.hid hb
  have hz' := Lib.hid hz
  clear hb hz
  go_enter Try.func30, Try.ntmps30
  go_wp2
  exact zone_ret hz'.out ⟨a, 0, ca, rfl, ⟨rfl, Nat.zero_le _, by omega, .inl rfl⟩, hb'.out, .inl rfl⟩ _ _ 8 rfl rfl rfl
set_option maxRecDepth 100000 in
set_option maxHeartbeats 1000000 in
theorem rlim_full (n : Nat) (l : List Int) (hF : Full n l) (i j : Nat) (hi : i ≤ n) (hj : j ≤ n) (c : Int) (a : Option Addr) (m ca : Nat) (w : World) (h : SL w a m ca l) : Calls Try.prog 30 #[.agg #[.int .i64 n, .slice a m ca], .int .i64 i, .int .i64 j, .int .i64 c] w (ZoneN n (closedL n (limL n l i j c)) w) := by
  obtain ⟨i0, hii, hz0, hz1, hz2⟩ := info_parts infoInt
  obtain ⟨W1, hW1⟩ : ∃ W1, W1 = (w.alloc (.cells #[.int .i64 n, .slice a m ca] 24)).alloc (.cells #[.int .i64 0, .slice none 0 0] 24) := ⟨_, rfl⟩
  have X1 : B1 w W1 (.int .i64 n) (.slice a m ca) := by rw [hW1]; exact b1_new _ _ _
  have hpos := sz_pos n
  have hs81 := sz_le hF.le
  have hm : m = sz n := by rw [h.len, hF.len]
  have p1 : ((m : Int) == 0) = false := by simp; omega
  have p2 : ¬ (m : Int) = 0 := by omega
  obtain ⟨p, q, u1, u2, u3, hq, hqs, -, -, -⟩ := place_wraps hF.le hi hj
  have hqm : (q : Int) < (m : Int) := by omega
  have hL : limL n l i j c = l.set q (min (l.getD q 0) c) := by unfold limL; rw [hq]
  have hrc := Lib.hid (fun b cb W (hs : Sees .i64 W.heap.size W b (limL n l i j c)) => rclose_any n hF.le b (limL n l i j c) m cb (by rw [limL_len, hF.len, hm]) hm W hs)
  have hsm : Hid ((closedL n (limL n l i j c)).length ≤ 1000) := Lib.hid (by have := closed_small hF.le (limL n l i j c); omega)
  have hlm := Lib.hid (show l.length = m by rw [hF.len, hm])
  have hmb : m ≤ 81 := by omega
  have hS := Lib.hid (h.below X1.bl)
  have X1' := Lib.hid X1
  have k0 := X1.z1.cell 0
  have k1 := X1.z1.cell 1
  have hW1' := Lib.hid hW1
  have hbe : Hid (Below W1.heap.size W1 (W1.alloc (.cells #[] 3))) := Lib.hid (box_below _ _ _)
  have hsz1 : Hid (W1.heap.size = w.heap.size + 1 + 1) := Lib.hid (by rw [hW1]; simp)
  have hm0 : Hid (m ≠ 0) := Lib.hid (by omega)
  obtain ⟨x, hx⟩ : ∃ x, x = l.getD q 0 := ⟨_, rfl⟩
  have hxl : Hid (l.getD q 0 = x) := Lib.hid hx.symm
  have hLlt : Hid (c < x → limL n l i j c = l.set q c) := Lib.hid (fun hc => by rw [hL, ← hx, show min x c = c by omega])
  have hLge : Hid (¬ c < x → limL n l i j c = l) := Lib.hid (fun hc => by
    rw [hL, ← hx, show min x c = x by omega, hx]
    apply List.ext_getElem (by simp)
    intro t h1 h2
    rw [List.getElem_set]
    split
    · rename_i e; subst e; simp [List.getD, h2]
    · rfl)
  have hgoal : Hid (∀ (g cap : Nat) (W : World), B1 w W (.int .i64 n) (.slice a m ca) → W.ownsRow W1.heap.size 3 1 (.slice (some ⟨g, 0, none⟩) m cap) m (nums .i64 (limL n l i j c)) → Calls Try.prog 54 #[.int .i64 n, .slice (some ⟨g, 0, none⟩) m cap] W (fun e w' => ∃ a7 m7 c7, e = .returned (.agg #[.int .i64 n, .slice a7 m7 c7]) ∧ B1 w w' (.int .i64 n) (.slice a m ca) ∧ SL w' a7 m7 c7 (closedL n (limL n l i j c)) ∧ ZH ((w'.setCell ⟨w.heap.size + 1, 0, none⟩ (.int .i64 n)).setCell ⟨w.heap.size + 1, 1, none⟩ (.slice a7 m7 c7)) (w.heap.size + 1) (.int .i64 n) (.slice a7 m7 c7) ∧ ZoneN n (closedL n (limL n l i j c)) w (.returned (.agg #[.int .i64 n, .slice a7 m7 c7])) ((w'.setCell ⟨w.heap.size + 1, 0, none⟩ (.int .i64 n)).setCell ⟨w.heap.size + 1, 1, none⟩ (.slice a7 m7 c7)))) := Lib.hid (fun g cap W hX hO => by
    obtain ⟨b, cb, hv, -, ss⟩ := sees_own hO
    injection hv with e1 e2 e3
    subst e1 e3
    refine (hrc.out _ cap W ss).mono ?_
    intro e w7 hz7
    obtain ⟨a7, m7, c7, rfl, s7, b7, nw7⟩ := zoneN_of hsm.out hz7
    obtain ⟨f1, f2⟩ := zone_putN (n := n) hX.bl (by omega) hX.z2 s7 b7 nw7
    exact ⟨a7, m7, c7, rfl, hX.on b7, s7, f1, f2⟩)
  clear hW1 X1 h hF hm hpos hq hqs hL hx hrc hsm
  generalize limL n l i j c = L at *
  generalize closedL n L = R at *
  by_cases hc : c < x
  · have hLe := Lib.hid (hLlt.out hc)
    clear hLlt hLge
    go_enter Try.func30, Try.ntmps30
    go_wp2_with (at_builtin; rw [← hW1'.out]; refine wpList_append_sees _ rfl (.tmp 16) (.tmp 18) 22 rfl W1 3 i0 (.int .i64 0) 8 Try.underlying22 hii hz0 hz1 hz2 rfl .i64 _ [] (by exact own_empty 3 .i64 (Below.refl _ W1)) (by exact hbe.out) W1.heap.size a l (by exact hS.out.sees.below hbe.out) m ca hS.out.len (by rw [hsz1.out]; rfl) rfl (by have := hlm.out; simp; omega) (by omega) ?_; intro v2 w2 hown2 hw2; simp only [List.nil_append] at hown2; rw [hlm.out] at hown2; obtain ⟨g, cap, rfl, hg⟩ := own_some hown2 hm0.out; have m0 := own_at hown2 (i := q) (by have := hlm.out; omega); rw [hxl.out] at m0; have mf := hown2.frozenAt q; have X2 := Lib.hid (X1'.out.on hw2); have d0 := X2.out.z1.cell 0; have d1 := X2.out.z1.cell 1; have O2 := Lib.hid hown2; have d2 : (w2.setCell ⟨g, q, none⟩ (.int .i64 c)).cell? ⟨w.heap.size, 0, none⟩ = some (.int .i64 n) := (World.cell?_setCell_far w2 ⟨g, q, none⟩ ⟨w.heap.size, 0, none⟩ (.int .i64 c) (by have := hsz1.out; show g ≠ w.heap.size; omega)).trans d0; clear hown2 hw2 k0 k1)
    have hB1 : Hid (B1 w (w2.setCell ⟨g, q, none⟩ (.int .i64 c)) (.int .i64 n) (.slice a m ca)) := Lib.hid (by
      have hE : BelowE [g] w2.heap.size w2 (w2.setCell ⟨g, q, none⟩ (.int .i64 c)) := (BelowE.refl _ _ _).setIn (p := ⟨g, q, none⟩) (by simp) _
      have := hsz1.out
      exact ⟨X2.out.bl.setCell (p := ⟨g, q, none⟩) (by show _ ≤ g; omega) _, X2.out.z1.belowE hE X2.out.z1.lt (by simp; omega), X2.out.z2.belowE hE X2.out.z2.lt (by simp; omega)⟩)
    have hcall := Lib.hid (hgoal.out g cap _ hB1.out (by rw [hLe.out]; exact own_put O2.out q c))
    refine hcall.out.mono ?_
    rintro e w7 ⟨a7, m7, c7, rfl, Y, s7, z1, z2⟩
    have y0 := Y.z2.cell 0
    have y1 := Y.z2.cell 1
    have f0 := Y.z2.free 0
    have f1 := Y.z2.free 1
    have z1' := Lib.hid z1
    have z2' := Lib.hid z2
    clear Y s7 z1 z2
    go_wp2
    exact zone_ret z1'.out z2'.out _ _ 8 rfl rfl rfl
  · have hLe := Lib.hid (hLge.out hc)
    clear hLlt hLge
    go_enter Try.func30, Try.ntmps30
    go_wp2_with (at_builtin; rw [← hW1'.out]; refine wpList_append_sees _ rfl (.tmp 16) (.tmp 18) 22 rfl W1 3 i0 (.int .i64 0) 8 Try.underlying22 hii hz0 hz1 hz2 rfl .i64 _ [] (by exact own_empty 3 .i64 (Below.refl _ W1)) (by exact hbe.out) W1.heap.size a l (by exact hS.out.sees.below hbe.out) m ca hS.out.len (by rw [hsz1.out]; rfl) rfl (by have := hlm.out; simp; omega) (by omega) ?_; intro v2 w2 hown2 hw2; simp only [List.nil_append] at hown2; rw [hlm.out] at hown2; obtain ⟨g, cap, rfl, hg⟩ := own_some hown2 hm0.out; have m0 := own_at hown2 (i := q) (by have := hlm.out; omega); rw [hxl.out] at m0; have mf := hown2.frozenAt q; have X2 := Lib.hid (X1'.out.on hw2); have d0 := X2.out.z1.cell 0; have d1 := X2.out.z1.cell 1; have O2 := Lib.hid hown2; have B2' := Lib.hid hw2; clear hown2 hw2 k0 k1)
    have hcall := Lib.hid (hgoal.out g cap _ X2.out (by rw [hLe.out]; exact O2.out))
    refine hcall.out.mono ?_
    rintro e w7 ⟨a7, m7, c7, rfl, Y, s7, z1, z2⟩
    have y0 := Y.z2.cell 0
    have y1 := Y.z2.cell 1
    have f0 := Y.z2.free 0
    have f1 := Y.z2.free 1
    have z1' := Lib.hid z1
    have z2' := Lib.hid z2
    clear Y s7 z1 z2
    go_wp2
    exact zone_ret z1'.out z2'.out _ _ 8 rfl rfl rfl
theorem rnone_any (w : World) : Calls Try.prog 38 #[] w (Gives (.agg #[.int .i64 1, .int .i64 0]) w) := by
  go_enter Try.func38, Try.ntmps38
  go_wp2
  exact itv_ret (Holds.new w _ _) ⟨rfl, box_below _ _ _⟩ _ _ 0 rfl rfl rfl
end Go.Proofs.Ytacbkddkjlnklaa
