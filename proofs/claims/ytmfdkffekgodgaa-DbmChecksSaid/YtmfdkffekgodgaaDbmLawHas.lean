/- DbmHas: the walk of the statement's function. -/
import Derived.Test.YtmfdkffekgodgaaDbmLives
namespace Go.Proofs.Ytmfdkffekgodgaa
open Go.RowKit
set_option linter.unusedVariables false
set_option linter.unusedSimpArgs false

/-- What a list's values differ by. -/
def difF (v : List Int) (i j : Nat) : Int := valF v i - valF v j
theorem dif_closed (n : Nat) (v : List Int) : Closed n (difF v) := ⟨fun i _ => by unfold difF; omega, fun i j k _ _ _ => by unfold difF; omega⟩
theorem cells_iff (n : Nat) (l v : List Int) : cellsB n l v = true ↔ Leq n (difF v) (mat n l) := by
  constructor
  · intro h i j hi hj
    have ht := place_lt hi hj
    have := List.all_eq_true.1 h (i * (n + 1) + j) (List.mem_range.2 ht)
    unfold cellB at this
    rw [place_div hj, place_mod hj] at this
    exact of_decide_eq_true this
  · intro h
    refine cellsB_yes (fun t ht => ?_)
    obtain ⟨q1, q2, q3⟩ := place_of ht
    have := h _ _ q1 q2
    unfold cellB
    apply decide_eq_true
    unfold mat at this
    rw [q3] at this
    exact this
theorem dif_widest {v : List Int} (h : v.any farB = false) (i j : Nat) : difF v i j ≤ widestF i j ∧ -2199023255552 ≤ difF v i j := by
  have h1 := val_in h i
  have h2 := val_in h j
  have h0 : valF v 0 = 0 := by unfold valF; rw [if_pos rfl]
  unfold difF widestF
  split
  · rename_i e; subst e; omega
  · split
    · rename_i e
      rcases e with rfl | rfl <;> omega
    · omega
theorem dif_clip {n : Nat} {m v : List Int} (h : v.any farB = false) : Leq n (difF v) (mat n (clipL n m)) ↔ Leq n (difF v) (mat n m) := by
  constructor
  · intro hh i j hi hj
    have := hh i j hi hj
    unfold clipL at this
    rw [mat_matL _ hi hj] at this
    have := dif_widest h i j
    unfold clipF at *
    omega
  · intro hh i j hi hj
    have := hh i j hi hj
    unfold clipL
    rw [mat_matL _ hi hj]
    have := dif_widest h i j
    unfold clipF
    omega
theorem holds_ne {m v : List Int} (h : holdsB m v = true) : closedL v.length m ≠ [] := by
  unfold holdsB at h
  rw [Bool.and_eq_true, Bool.and_eq_true] at h
  have hf : v.any farB = false := by simpa using h.2.1
  have := (cells_iff _ _ _).1 h.2.2
  exact closedL_ne (closedL_max (dif_closed _ v) ((dif_clip hf).2 this)).1
theorem closed_full {n : Nat} (hn : n ≤ 8) {m : List Int} (h : closedL n m ≠ []) : Full n (closedL n m) := ⟨hn, (closedL_is h).1, h, (closedL_again h).symm⟩
theorem has_holds {m v : List Int} (hn : v.length ≤ 8) (hl : m.length = sz v.length) : hasB v.length (closedL v.length m) v = holdsB m v := by
  have ht : (((v.length : Nat) : Int)).toNat = v.length := by omega
  by_cases hc : closedL v.length m = []
  · have h1 : hasB v.length (closedL v.length m) v = false := by unfold hasB; rw [hc]; rfl
    rw [h1]
    cases h2 : holdsB m v
    · rfl
    · exact absurd hc (holds_ne h2)
  · have hF := closed_full hn hc
    unfold hasB holdsB
    rw [hF.is, ht, decide_eq_true hl, decide_eq_true rfl, Bool.true_and, Bool.true_and, Bool.true_and]
    cases hf : v.any farB
    · rw [Bool.not_false, Bool.true_and, Bool.true_and]
      apply Bool.eq_iff_iff.2
      rw [cells_iff, cells_iff]
      obtain ⟨h3, h4, h5⟩ := closedL_is hc
      constructor
      · intro h
        exact (dif_clip hf).1 (fun i j hi hj => Int.le_trans (h i j hi hj) (h5 i j hi hj))
      · intro h
        exact (closedL_max (dif_closed _ v) ((dif_clip hf).2 h)).2
    · rfl
theorem livesAt (w W : World) (hb : Below w.heap.size w W) : Calls Try.prog 8 #[] W (fun e w' => e = .returned (.bool true) ∧ Below W.heap.size W w' ∧ Below w.heap.size w w') :=
  (lives_dbm W).mono (fun e w' h => ⟨h.1, h.2, hb.trans (h.2.mono hb.size)⟩)
set_option maxRecDepth 100000 in
set_option maxHeartbeats 2000000 in
theorem dbmHas_walk (w : World) (a0 : Option Addr) (n0 c0 : Nat) (l0 : List Int) (hl0 : l0.length = n0) (hm0 : n0 ≤ maxLen) (hc0 : n0 ≤ c0) (hw0 : ∀ n ∈ l0, (Lit.int .i64 n).wf = true) (hs0 : Sees .i64 w.heap.size w a0 l0)
    (a1 : Option Addr) (n1 c1 : Nat) (l1 : List Int) (hl1 : l1.length = n1) (hm1 : n1 ≤ maxLen) (hc1 : n1 ≤ c1) (hw1 : ∀ n ∈ l1, (Lit.int .i64 n).wf = true) (hs1 : Sees .i64 w.heap.size w a1 l1) :
    Calls Try.prog 5 #[.slice a0 n0 c0, .slice a1 n1 c1] w (Gives (.bool true) w) := by
  have hx0 : n0 ≤ 9223372036854775807 := by unfold maxLen at hm0; omega
  have hx1 : n1 ≤ 9223372036854775807 := by unfold maxLen at hm1; omega
  have S0 : SL w a0 n0 c0 l0 := ⟨hl0.symm, hc0, hx0, hs0⟩
  have S1 : SL w a1 n1 c1 l1 := ⟨hl1.symm, hc1, hx1, hs1⟩
  have hlg := Lib.hid (large_any a0 n0 c0 hx0 w)
  have hlv := Lib.hid (lives_dbm w)
  clear hl0 hm0 hc0 hw0 hs0 hl1 hm1 hc1 hw1 hs1
  by_cases hl : 200 < n0
  · have e : decide (200 < (n0 : Int)) = true := decide_eq_true (by omega)
    rw [e] at hlg
    clear S0 S1 e
    go_enter Try.func5, Try.ntmps5
    go_wp2_with fail
    refine hlg.out.mono ?_
    rintro e w1 ⟨rfl, rfl⟩
    go_wp2_with fail
    refine hlv.out.mono ?_
    rintro e w1 ⟨rfl, b1⟩
    have b1' := Lib.hid b1
    clear b1
    go_wp2
    go_ret
    exact ⟨rfl, b1'.out⟩
  have e : decide (200 < (n0 : Int)) = false := decide_eq_false (by omega)
  rw [e] at hlg
  clear e
  by_cases h8 : 8 < n1
  · have h8i : (8 : Int) < (n1 : Int) := by omega
    clear S0 S1
    go_enter Try.func5, Try.ntmps5
    go_wp2_with fail
    refine hlg.out.mono ?_
    rintro e w1 ⟨rfl, rfl⟩
    go_wp2_with fail
    refine hlv.out.mono ?_
    rintro e w1 ⟨rfl, b1⟩
    have b1' := Lib.hid b1
    clear b1
    go_wp2
    go_ret
    exact ⟨rfl, b1'.out⟩
  have h8n : n1 ≤ 8 := by omega
  have h8i : ¬ (8 : Int) < (n1 : Int) := by omega
  have h8j : (n1 : Int) ≤ 8 := by omega
  have hs81 := sz_le h8n
  have v1 : IntKind.i64.wrap ((n1 : Int) + 1) = (n1 : Int) + 1 := wrap_small (by omega) (by omega)
  have v2 : IntKind.i64.wrap (((n1 : Int) + 1) * ((n1 : Int) + 1)) = (sz n1 : Nat) := by rw [sz_int]; exact wrap_small (by omega) (by omega)
  by_cases hsz : n0 = sz n1
  · have hcl := Lib.hid ((dclose_ok n1 h8n a0 l0 n0 c0 S0.len hsz w S0.sees).mono (fun e w' h => ends_of (m := (closedL n1 l0).length) rfl (by
      by_cases q : closedL n1 l0 = []
      · rw [q]; simp
      · have := (closedL_is q).1; have : (closedL n1 l0).length = sz n1 := this; omega) h))
    have hS0 := Lib.hid S0
    have hS1 := Lib.hid S1
    have hmath : Hid (hasB n1 (closedL n1 l0) l1 = holdsB l0 l1) := Lib.hid (by
      have := has_holds (m := l0) (v := l1) (by rw [← S1.len]; exact h8n) (by rw [← S1.len, ← S0.len]; exact hsz)
      rw [← S1.len] at this
      exact this)
    have hne : Hid (holdsB l0 l1 = true → emptyB n1 (closedL n1 l0) = false) := Lib.hid (by
      intro h
      have := holds_ne h
      rw [← S1.len] at this
      unfold emptyB
      rw [decide_eq_false this, Bool.false_and])
    rw [← hsz] at v2
    have h8' := Lib.hid h8n
    clear S0 S1 hsz
    generalize closedL n1 l0 = R at *
    go_enter Try.func5, Try.ntmps5
    go_wp2_with fail
    refine hlg.out.mono ?_
    rintro e w1 ⟨rfl, rfl⟩
    go_wp2_with fail
    refine hcl.out.mono ?_
    rintro e w3 ⟨a3, c3, rfl, s3, b3⟩
    have B3 := b3.trans ((box_below w3 #[.int .i64 n1, .slice a3 R.length c3] 26).mono b3.size)
    have Z3 := Lib.hid (Holds.new w3 26 #[.int .i64 n1, .slice a3 R.length c3])
    have S3 := Lib.hid (s3.below (box_below w3 #[.int .i64 n1, .slice a3 R.length c3] 26))
    have B3' := Lib.hid B3
    have hl3 := Lib.hid (livesAt w _ B3)
    clear b3 s3 B3 hcl hlg
    go_wp2_with fail
    refine hl3.out.mono ?_
    rintro e w4 ⟨rfl, b4, bw4⟩
    have Z4 := Lib.hid (Z3.out.below b4 Z3.out.lt)
    have S4 := Lib.hid (S3.out.below b4)
    have T0 := Lib.hid (hS0.out.below bw4)
    have T1 := Lib.hid (hS1.out.below bw4)
    have bw4' := Lib.hid bw4
    have k0 := Z4.out.cell 0
    have k1 := Z4.out.cell 1
    have hh := Lib.hid (has_any n1 a3 R.length c3 R a1 n1 c1 l1 w4 S4.out T1.out)
    rw [hmath.out] at hh
    clear Z3 S3 b4 bw4 hl3
    go_wp2_with fail
    refine hh.out.mono ?_
    rintro e w5 ⟨rfl, b5⟩
    have Z5 := Lib.hid (Z4.out.below b5 Z4.out.lt)
    have S5 := Lib.hid (S4.out.below b5)
    have U0 := Lib.hid (T0.out.below b5)
    have U1 := Lib.hid (T1.out.below b5)
    have bw5 := Lib.hid (bw4'.out.trans (b5.mono bw4'.out.size))
    have z0 := Z5.out.cell 0
    have z1 := Z5.out.cell 1
    have ho := Lib.hid (fun k => holds_any a0 n0 c0 l0 a1 n1 c1 l1 h8'.out (w5.drewN k) (U0.out.drewN k) (U1.out.drewN k))
    have ho0 := Lib.hid (ho.out 0)
    have hem := Lib.hid (fun k => empty_any n1 a3 R.length c3 R (w5.drewN k) (S5.out.drewN k))
    clear hh Z4 S4 T0 T1 k0 k1 b5 bw4'
    generalize holdsB l0 l1 = y at *
    generalize emptyB n1 R = u at *
    go_wp2_with fail
    refine ho0.out.mono ?_
    rintro e w6 ⟨rfl, m6, rfl⟩
    have ho1 := Lib.hid (ho.out m6)
    clear ho0
    go_wp2_with fail
    refine ho1.out.mono ?_
    rintro e w7 ⟨rfl, m7, rfl⟩
    cases y
    · go_wp2
      go_ret
      exact ⟨rfl, Below.drewN bw5.out (m6 + m7)⟩
    · have hu := hne.out rfl
      subst hu
      have he7 := Lib.hid (hem.out (m6 + m7))
      clear ho1 ho hem
      go_wp2_with fail
      refine he7.out.mono ?_
      rintro e w8 ⟨rfl, b8⟩
      have b8' := Lib.hid ((Below.drewN bw5.out (m6 + m7)).trans (b8.mono bw5.out.size))
      clear b8
      go_wp2
      go_ret
      exact ⟨rfl, b8'.out⟩
  · generalize sz n1 = s at *
    have e1 : ((n0 : Int) != (s : Int)) = true := by simp; omega
    have e2 : ¬ (n0 : Int) = (s : Int) := by omega
    clear S0 S1
    go_enter Try.func5, Try.ntmps5
    go_wp2_with fail
    refine hlg.out.mono ?_
    rintro e w1 ⟨rfl, rfl⟩
    go_wp2_with fail
    refine hlv.out.mono ?_
    rintro e w1 ⟨rfl, b1⟩
    have b1' := Lib.hid b1
    clear b1
    go_wp2
    go_ret
    exact ⟨rfl, b1'.out⟩
end Go.Proofs.Ytmfdkffekgodgaa
