/- Zones: what a zone has; points. -/
import Derived.Test.YtacbkddkjlnklaaDbmAsk
namespace Go.Proofs.Ytacbkddkjlnklaa
open Go.RowKit
set_option linter.unusedVariables false
set_option linter.unusedSimpArgs false

def cellB (n : Nat) (l v : List Int) (t : Nat) : Bool := decide (valF v (t / (n + 1)) - valF v (t % (n + 1)) ≤ l.getD t 0)
def cellsB (n : Nat) (l v : List Int) : Bool := (List.range (sz n)).all (cellB n l v)
theorem cellsB_yes {n : Nat} {l v : List Int} (h : ∀ t, t < sz n → cellB n l v t = true) : cellsB n l v = true := List.all_eq_true.2 (fun t ht => h t (List.mem_range.1 ht))
theorem cellsB_no {n : Nat} {l v : List Int} {t : Nat} (ht : t < sz n) (h : cellB n l v t = false) : cellsB n l v = false := List.all_eq_false.2 ⟨t, List.mem_range.2 ht, by rw [h]; decide⟩
theorem val_in {v : List Int} (h : v.any farB = false) (i : Nat) : -1099511627776 ≤ valF v i ∧ valF v i ≤ 1099511627776 := by
  unfold valF
  split
  · omega
  · by_cases hi : i - 1 < v.length
    · have := List.any_eq_false.1 h (v[i - 1]) (List.getElem_mem hi)
      unfold farB at this
      simp at this
      simp [List.getD, hi]
      omega
    · simp [List.getD, show v.length ≤ i - 1 by omega]
theorem is_any (x : Int) (w : World) : Calls Try.prog 43 #[.int .i64 x] w (Tells (.bool (!farB x)) w) := by
  have e : (!farB x) = (decide (-1099511627776 ≤ x) && decide (x ≤ 1099511627776)) := by unfold farB; by_cases h1 : 1099511627776 < x <;> by_cases h2 : x < -1099511627776 <;> simp [h1, h2] <;> omega
  rw [e]
  by_cases h0 : -1099511627776 ≤ x
  · have d0 : decide (-1099511627776 ≤ x) = true := decide_eq_true h0
    rw [d0, Bool.true_and]
    clear e d0
    go_enter Try.func43, Try.ntmps43
    go_wp2
    go_ret
    exact ⟨rfl, rfl⟩
  · have d0 : decide (-1099511627776 ≤ x) = false := decide_eq_false h0
    rw [d0, Bool.false_and]
    clear e d0
    go_enter Try.func43, Try.ntmps43
    go_wp2
    go_ret
    exact ⟨rfl, rfl⟩
theorem drewN_add (w : World) (a b : Nat) : (w.drewN a).drewN b = w.drewN (a + b) := by simp [World.drewN, Nat.add_assoc]
theorem diff_any (gv : Nat) (a : Option Addr) (v : List Int) (m c : Nat) (hm : m = v.length) (hl : m ≤ 1000) (hv : v.any farB = false) (i j : Nat) (hi : i ≤ m) (hj : j ≤ m) (B : Nat) (w : World) (h : Sees .i64 B w a v)
    (hg : w.cell? ⟨gv, 0, none⟩ = some (.slice a m c)) :
    Calls Try.prog 74 #[.int .i64 i, .int .i64 j, .pointer (some ⟨gv, 0, none⟩)] w (ReadsV (.int .i64 (valF v i - valF v j)) w) := by
  have hx := Lib.hid (fun W (hW : ∃ k, W = w.drewN k) => value_any a v m c hm hl i hi B W (by obtain ⟨k, rfl⟩ := hW; exact h.drewN k))
  have hy := Lib.hid (fun W (hW : ∃ k, W = w.drewN k) => value_any a v m c hm hl j hj B W (by obtain ⟨k, rfl⟩ := hW; exact h.drewN k))
  have b1 := val_in hv i
  have b2 := val_in hv j
  clear h hm hv hi hj
  generalize valF v i = x at *
  generalize valF v j = y at *
  have hw : IntKind.i64.wrap (x - y) = x - y := wrap_small (by omega) (by omega)
  go_enter Try.func74, Try.ntmps74
  go_wp2
  have hc : ∀ W, (∃ k, W = w.drewN k) → W.cell? ⟨gv, 0, none⟩ = some (.slice a m c) := by rintro W ⟨k, rfl⟩; exact hg
  clear hg
  refine wp_drawn_on (fun W => ∃ k, W = w.drewN k) (by kernel_rfl) (⟨1, rfl⟩) (fun hHeld => ?_)
  refine wpAnyH_take (i := 0) (oi := { dst := some 6, op := Go.Op.load 22 (Go.Operand.tmp 2), type := 22, pos := "dbm.go:115", after := #[], guard := none }) (v := ?v1) rfl (by kernel_rfl) (by kernel_rfl) (by kernel_rfl) (fun _ _ _ h => h) (Or.inl ⟨by kernel_rfl, ?h1⟩) (by assumption) ?r1
  case h1 => (intro w hSw; (try dsimp only at hSw); go_simp; try with_reducible rfl)
  try simp only [Act.put, List.setIfInBounds_toArray, List.set_cons_zero, List.set_cons_succ]
  refine wpAnyH_take (i := 1) (oi := { dst := some 7, op := Go.Op.move (Go.Operand.tmp 0), type := 3, pos := "dbm.go:115", after := #[], guard := none }) (v := ?v2) rfl (by kernel_rfl) (by kernel_rfl) (by kernel_rfl) (fun _ _ _ h => h) (Or.inl ⟨by kernel_rfl, ?h2⟩) (by assumption) ?r2
  case h2 => (intro w hSw; (try dsimp only at hSw); go_simp; try with_reducible rfl)
  try simp only [Act.put, List.setIfInBounds_toArray, List.set_cons_zero, List.set_cons_succ]
  refine wpAnyH_take (i := 3) (oi := { dst := some 9, op := Go.Op.load 22 (Go.Operand.tmp 2), type := 22, pos := "dbm.go:115", after := #[], guard := none }) (v := ?v3) rfl (by kernel_rfl) (by kernel_rfl) (by kernel_rfl) (fun _ _ _ h => h) (Or.inl ⟨by kernel_rfl, ?h3⟩) (by assumption) ?r3
  case h3 => (intro w hSw; (try dsimp only at hSw); go_simp; try with_reducible rfl)
  try simp only [Act.put, List.setIfInBounds_toArray, List.set_cons_zero, List.set_cons_succ]
  refine wpAnyH_take (i := 4) (oi := { dst := some 10, op := Go.Op.move (Go.Operand.tmp 1), type := 3, pos := "dbm.go:115", after := #[], guard := none }) (v := ?v4) rfl (by kernel_rfl) (by kernel_rfl) (by kernel_rfl) (fun _ _ _ h => h) (Or.inl ⟨by kernel_rfl, ?h4⟩) (by assumption) ?r4
  case h4 => (intro w hSw; (try dsimp only at hSw); go_simp; try with_reducible rfl)
  try simp only [Act.put, List.setIfInBounds_toArray, List.set_cons_zero, List.set_cons_succ]
  refine wpAnyH_ready (rs := [2]) (by kernel_rfl) (by simp) ?_
  refine AllReadyH.cons (o := { dst := some 8, op := Go.Op.call { callee := Go.Callee.value (Go.Operand.func 75), args := #[Go.Operand.tmp 6, Go.Operand.tmp 7], argTypes := #[22, 3] }, type := 3, pos := "dbm.go:115", after := #[{ on := 0, ground := Go.Ground.data }, { on := 1, ground := Go.Ground.data }], guard := none }) rfl (fun K hK => ?_) AllReadyH.nil
  go_simp
  refine (hx.out _ hHeld).mono ?_
  rintro e w1 ⟨rfl, rfl⟩
  go_simp
  refine hK.out _ _ (hHeld) (fun hHeld => ?_)
  clear hK K
  try simp only [Act.put, List.setIfInBounds_toArray, List.set_cons_zero, List.set_cons_succ]
  refine wpAnyH_ready (rs := [5]) (by kernel_rfl) (by simp) ?_
  refine AllReadyH.cons (o := { dst := some 11, op := Go.Op.call { callee := Go.Callee.value (Go.Operand.func 75), args := #[Go.Operand.tmp 9, Go.Operand.tmp 10], argTypes := #[22, 3] }, type := 3, pos := "dbm.go:115", after := #[{ on := 3, ground := Go.Ground.data }, { on := 4, ground := Go.Ground.data }, { on := 2, ground := Go.Ground.chain }], guard := none }) rfl (fun K hK => ?_) AllReadyH.nil
  go_simp
  refine (hy.out _ hHeld).mono ?_
  rintro e w1 ⟨rfl, rfl⟩
  go_simp
  refine hK.out _ _ (hHeld) (fun hHeld => ?_)
  clear hK K
  try simp only [Act.put, List.setIfInBounds_toArray, List.set_cons_zero, List.set_cons_succ]
  refine wpAnyH_take (i := 6) (oi := { dst := some 12, op := Go.Op.binOp Go.BinOp.sub 3 (Go.Operand.tmp 8) (Go.Operand.tmp 11) 3, type := 3, pos := "dbm.go:115", after := #[{ on := 2, ground := Go.Ground.data }, { on := 5, ground := Go.Ground.data }], guard := none }) (v := ?v5) rfl (by kernel_rfl) (by kernel_rfl) (by kernel_rfl) (fun _ _ _ h => h) (Or.inl ⟨by kernel_rfl, ?h5⟩) (by assumption) ?r5
  case h5 => (intro w hSw; (try dsimp only at hSw); go_simp; try with_reducible rfl)
  try simp only [Act.put, List.setIfInBounds_toArray, List.set_cons_zero, List.set_cons_succ]
  refine wpAnyH_take (i := 7) (oi := { dst := some 5, op := Go.Op.assign (Go.Operand.tmp 12), type := 3, pos := "dbm.go:115", after := #[{ on := 6, ground := Go.Ground.data }, { on := 5, ground := Go.Ground.chain }, { on := 0, ground := Go.Ground.phase }, { on := 1, ground := Go.Ground.phase }, { on := 2, ground := Go.Ground.phase }, { on := 3, ground := Go.Ground.phase }, { on := 4, ground := Go.Ground.phase }, { on := 5, ground := Go.Ground.phase }, { on := 6, ground := Go.Ground.phase }], guard := none }) (v := ?v6) rfl (by kernel_rfl) (by kernel_rfl) (by kernel_rfl) (fun _ _ _ h => h) (Or.inl ⟨by kernel_rfl, ?h6⟩) (by assumption) ?r6
  case h6 => (intro w hSw; (try dsimp only at hSw); go_simp; try with_reducible rfl)
  try simp only [Act.put, List.setIfInBounds_toArray, List.set_cons_zero, List.set_cons_succ]
  refine wpAnyH_done (by kernel_rfl) ?_ _
  obtain ⟨k, hk⟩ := hHeld
  go_wp2
  go_ret
  exact ⟨rfl, k, hk⟩
def hasB (n : Int) (l v : List Int) : Bool := fullB n l && (decide ((v.length : Int) = n) && (!v.any farB && cellsB n.toNat l v))
set_option maxRecDepth 100000 in
set_option maxHeartbeats 1000000 in
theorem has_any (n : Int) (a : Option Addr) (m c : Nat) (l : List Int) (av : Option Addr) (mv cv : Nat) (v : List Int) (w : World) (h : SL w a m c l) (hv : SL w av mv cv v) :
    Calls Try.prog 35 #[.agg #[.int .i64 n, .slice a m c], .slice av mv cv] w (Gives (.bool (hasB n l v)) w) := by
  obtain ⟨W1, hW1⟩ : ∃ W1, W1 = (w.alloc (.cells #[.int .i64 n, .slice a m c] 24)).alloc (.cells #[.slice av mv cv] 22) := ⟨_, rfl⟩
  have hB : Below w.heap.size w W1 := by rw [hW1]; exact box2_below _ _ _ _ _
  have hsz : W1.heap.size = w.heap.size + 2 := by rw [hW1]; simp
  have hz : ZH W1 w.heap.size (.int .i64 n) (.slice a m c) := by rw [hW1]; exact (Holds.new w _ _).alloc _
  have hzv : Holds W1 (w.heap.size + 1) 22 #[.slice av mv cv] := by
    rw [hW1]
    have := Holds.new (w.alloc (.cells #[.int .i64 n, .slice a m c] 24)) 22 #[.slice av mv cv]
    simpa using this
  have hW1' := Lib.hid hW1
  have hB' := Lib.hid hB
  have hz' := Lib.hid hz
  have hzv' := Lib.hid hzv
  have hsl := Lib.hid (h.below hB)
  have hvl := Lib.hid (hv.below hB)
  have hsz' := Lib.hid hsz
  have hful := Lib.hid (full_any n a m c l W1 hsl.out)
  have hcells : Hid (∀ W, Below W1.heap.size W1 W → W.cell? ⟨w.heap.size, 0, none⟩ = some (.int .i64 n) ∧ W.cell? ⟨w.heap.size, 1, none⟩ = some (.slice a m c) ∧ W.cell? ⟨w.heap.size + 1, 0, none⟩ = some (.slice av mv cv)) := Lib.hid (fun W hW => ⟨(hz'.out.below hW hz'.out.lt).cell 0, (hz'.out.below hW hz'.out.lt).cell 1, (hzv'.out.below hW hzv'.out.lt).cell 0⟩)
  have hmvx := hv.max
  have hml := h.len
  have hmvl := hv.len
  clear hW1 hB hz hzv hsz h hv
  have hdef : Hid (hasB n l v = (fullB n l && (decide ((v.length : Int) = n) && (!v.any farB && cellsB n.toNat l v)))) := Lib.hid rfl
  generalize hasB n l v = R at *
  cases hf : fullB n l
  · have hr : R = false := by rw [hdef.out, hf, Bool.false_and]
    subst hr
    rw [hf] at hful
    clear hdef hf hml hmvl
    go_enter Try.func35, Try.ntmps35
    go_wp2_with fail
    rw [← hW1'.out]
    refine hful.out.mono ?_
    rintro e w1 ⟨rfl, b1⟩
    have hb1 := Lib.hid (hB'.out.trans (b1.mono hB'.out.size))
    go_wp2
    go_ret
    exact ⟨rfl, hb1.out⟩
  · rw [hf] at hful hdef
    obtain ⟨n, rfl, hF⟩ := full_of hf
    have hF' := Lib.hid hF
    have hn' := Lib.hid hF.le
    have hni : (n : Int) ≤ 8 := by have := hF.le; omega
    have hms : m = sz n := by rw [hml, hF.len]
    have hms' := Lib.hid hms
    clear hf hF hml hms
    by_cases hvn : mv = n
    · subst hvn
      have hdef2 : Hid (R = (!v.any farB && cellsB mv l v)) := Lib.hid (by
        rw [hdef.out, ← hmvl]
        simp)
      have hcon := Lib.hid (fun W (hW : Below W1.heap.size W1 W) => contains_any av v mv cv hmvl (by omega) W.heap.size W (hvl.out.below hW).sees)
      clear hdef
      cases hfar : v.any farB
      · rw [hfar] at hcon
        have hR : Hid (R = cellsB mv l v) := Lib.hid (by rw [hdef2.out, hfar]; rfl)
        have heach := Lib.hid (fun W (hW : Below W1.heap.size W1 W) => each_diff mv hn'.out (w.heap.size + 1) (fun i j => valF v i - valF v j) W (fun i j hi hj W2 hW2 => diff_any (w.heap.size + 1) av v mv cv hmvl (by omega) hfar i j hi hj W2.heap.size W2 ((hvl.out.below hW).below hW2).sees ((hcells.out W2 (hW.trans (hW2.mono hW.size))).2.2)))
        have hD : Hid (∀ t, t < sz mv → (matL mv (fun i j => valF v i - valF v j)).getD t 0 = valF v (t / (mv + 1)) - valF v (t % (mv + 1))) := Lib.hid (by
          intro t ht
          obtain ⟨q1, q2, q3⟩ := place_of ht
          have := mat_matL (fun i j => valF v i - valF v j) q1 q2
          unfold mat at this
          rw [q3] at this
          exact this)
        have hDl : Hid ((matL mv (fun i j => valF v i - valF v j)).length = sz mv) := Lib.hid (matL_len _ _)
        clear hdef2 hfar hmvl
        generalize matL mv (fun i j => valF v i - valF v j) = D at *
        go_enter Try.func35, Try.ntmps35
        go_wp2_with fail
        rw [← hW1'.out]
        refine hful.out.mono ?_
        rintro e w1 ⟨rfl, b1⟩
        have hb1 := Lib.hid b1
        obtain ⟨c0, c1, c2⟩ := hcells.out w1 b1
        have hcon1 := Lib.hid (hcon.out w1 b1)
        clear b1 hful hcon
        go_wp2_with fail
        refine hcon1.out.mono ?_
        rintro e w2 ⟨rfl, rfl⟩
        have heach1 := Lib.hid (heach.out w1 hb1.out)
        clear hcon1 heach
        go_wp2_with fail
        refine heach1.out.mono ?_
        intro e w3 hmd
        obtain ⟨a3, c3, rfl, s3, b3, -⟩ := made_parts hmd
        rw [hDl.out]
        have hb3 := Lib.hid (hb1.out.trans (b3.mono hb1.out.size))
        obtain ⟨d0, d1, d2⟩ := hcells.out w3 hb3.out
        have s3' := Lib.hid s3
        have hl3 := Lib.hid ((hsl.out.below hb3.out).sees)
        have hms2 := hms'.out
        have hsi := sz_le hn'.out
        clear hmd heach1 s3 b3 hcells c0 c1 c2 hb1
        subst hms2
        go_wp2
        go_loop [31] (fun x => ∃ k : Nat, k ≤ sz mv ∧ x = .int .i64 k ∧ Hid (∀ t, t < k → cellB mv l v t = true)) (fun x => sz mv - (intOf x).toNat)
        case atStart => exact ⟨0, Nat.zero_le _, rfl, Lib.hid (by intro t ht; omega)⟩
        case round =>
          obtain ⟨k, hk, rfl, hall⟩ := hrel
          by_cases hlt : k < sz mv
          · obtain ⟨b1, o1, rfl, -, e1⟩ := sees_at' hl3.out (i := k) (by rw [hF'.out.len]; exact hlt)
            obtain ⟨b2, o2, rfl, -, e2⟩ := sees_at' s3'.out (i := k) (by rw [hDl.out]; exact hlt)
            have hki : (k : Int) < ((sz mv : Nat) : Int) := by omega
            have hcb : Hid (cellB mv l v k = decide (D.getD k 0 ≤ l.getD k 0)) := Lib.hid (by unfold cellB; rw [hD.out k hlt])
            have hno : Hid (cellB mv l v k = false → R = false) := Lib.hid (fun q => by rw [hR.out]; exact cellsB_no hlt q)
            have hyes : Hid (cellB mv l v k = true → ∀ t, t < k + 1 → cellB mv l v t = true) := Lib.hid (fun q t ht => by
              by_cases e : t = k
              · subst e; exact q
              · exact hall.out t (by omega))
            clear hall
            generalize D.getD k 0 = x at *
            generalize l.getD k 0 = y at *
            generalize cellB mv l v k = z at *
            by_cases hxy : y < x
            · have hz0 : z = false := by rw [hcb.out, decide_eq_false_iff_not]; omega
              have hr := hno.out hz0
              subst hr
              clear hno hyes hcb
              go_wp2
              go_ret
              exact ⟨rfl, hB'.out.trans (hb3.out.mono hB'.out.size)⟩
            · have hz0 : z = true := by rw [hcb.out, decide_eq_true_eq]; omega
              have hn2 := Lib.hid (hyes.out hz0)
              clear hno hyes hcb
              go_wp2
              go_round
              case rel => exact ⟨k + 1, by omega, by go_num, hn2⟩
              case measure => simp [intOf]; omega
          · have hke : k = sz mv := by omega
            have hr : R = true := by rw [hR.out]; exact cellsB_yes (by rw [← hke]; exact hall.out)
            subst hr
            clear hall
            go_wp2
            go_ret
            exact ⟨rfl, hB'.out.trans (hb3.out.mono hB'.out.size)⟩
      · rw [hfar] at hcon
        have hr : R = false := by rw [hdef2.out, hfar]; rfl
        subst hr
        clear hdef2 hfar hmvl
        go_enter Try.func35, Try.ntmps35
        go_wp2_with fail
        rw [← hW1'.out]
        refine hful.out.mono ?_
        rintro e w1 ⟨rfl, b1⟩
        have hb1 := Lib.hid (hB'.out.trans (b1.mono hB'.out.size))
        obtain ⟨c0, c1, c2⟩ := hcells.out w1 b1
        have hcon1 := Lib.hid (hcon.out w1 b1)
        clear b1 hful hcon
        go_wp2_with fail
        refine hcon1.out.mono ?_
        rintro e w2 ⟨rfl, rfl⟩
        go_wp2
        go_ret
        exact ⟨rfl, hb1.out⟩
    · have hr : R = false := by
        rw [hdef.out, ← hmvl, decide_eq_false (show ¬ (mv : Int) = (n : Int) by omega)]
        rfl
      subst hr
      have e1 : ((mv : Int) != (n : Int)) = true := by simp; omega
      have e2 : ¬ (mv : Int) = (n : Int) := by omega
      have e3 : ((mv : Int) == (n : Int)) = false := by simp; omega
      clear hdef hmvl
      go_enter Try.func35, Try.ntmps35
      go_wp2_with fail
      rw [← hW1'.out]
      refine hful.out.mono ?_
      rintro e w1 ⟨rfl, b1⟩
      have hb1 := Lib.hid (hB'.out.trans (b1.mono hB'.out.size))
      obtain ⟨c0, c1, c2⟩ := hcells.out w1 b1
      go_wp2
      go_ret
      exact ⟨rfl, hb1.out⟩
end Go.Proofs.Ytacbkddkjlnklaa
