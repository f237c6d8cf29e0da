/- Zones: Same of both; the document's All. -/
import Derived.Test.YtacbkddkjlnklaaDbmZone
namespace Go.Proofs.Ytacbkddkjlnklaa
open Go.RowKit
set_option linter.unusedVariables false
set_option linter.unusedSimpArgs false

theorem box_below (w : World) (v1 : Array Value) (t1 : TypeId) : Below w.heap.size w (w.alloc (.cells v1 t1)) := (Below.refl _ _).alloc (Nat.le_refl _) _
theorem box2_below (w : World) (v1 v2 : Array Value) (t1 t2 : TypeId) : Below w.heap.size w ((w.alloc (.cells v1 t1)).alloc (.cells v2 t2)) := ((Below.refl _ _).alloc (Nat.le_refl _) _).alloc (by simp) _
/-- A slice argument: its length is the list's, and it reads as the list. -/
structure SL (w : World) (a : Option Addr) (m c : Nat) (l : List Int) : Prop where
  len : m = l.length
  cap : m ≤ c
  max : m ≤ 9223372036854775807
  sees : Sees .i64 w.heap.size w a l
theorem SL.below {w w' : World} {a : Option Addr} {m c : Nat} {l : List Int} (h : SL w a m c l) (hb : Below w.heap.size w w') : SL w' a m c l := ⟨h.len, h.cap, h.max, (h.sees.below hb).mono hb.size⟩
theorem SL.drewN {w : World} {a : Option Addr} {m c : Nat} {l : List Int} (h : SL w a m c l) (n : Nat) : SL (w.drewN n) a m c l := ⟨h.len, h.cap, h.max, h.sees⟩
theorem SL.nil (w : World) : SL w none 0 0 [] := ⟨rfl, Nat.le_refl _, by omega, .inl rfl⟩
theorem dsame_any (n1 n2 : Int) (a1 a2 : Option Addr) (l1 l2 : List Int) (m1 m2 c1 c2 : Nat) (w : World) (h1 : SL w a1 m1 c1 l1) (h2 : SL w a2 m2 c2 l2) :
    Calls Try.prog 46 #[.agg #[.int .i64 n1, .slice a1 m1 c1], .agg #[.int .i64 n2, .slice a2 m2 c2]] w (Gives (.bool (decide (n1 = n2) && decide (l1 = l2))) w) := by
  have hB : Below w.heap.size w ((w.alloc (.cells #[.int .i64 n1, .slice a1 m1 c1] 24)).alloc (.cells #[.int .i64 n2, .slice a2 m2 c2] 24)) := box2_below _ _ _ _ _
  have g1 := h1.below hB
  have g2 := h2.below hB
  have heq := Lib.hid (equal_any a1 a2 l1 l2 m1 m2 c1 c2 g1.len g2.len (by have := g1.max; omega) (by have := g2.max; omega) _ _ g1.sees g2.sees)
  have hB' := Lib.hid hB
  clear g1 g2 h1 h2 hB
  generalize decide (l1 = l2) = d at *
  by_cases hn : n1 = n2
  · have e : decide (n1 = n2) = true := decide_eq_true hn
    rw [e, Bool.true_and]
    subst hn
    clear e
    go_enter Try.func46, Try.ntmps46
    go_wp2_with fail
    refine heq.out.mono ?_
    rintro e w1 ⟨rfl, m, rfl⟩
    go_wp2
    go_ret
    exact ⟨rfl, Below.drewN hB'.out m⟩
  · have e : decide (n1 = n2) = false := decide_eq_false hn
    rw [e, Bool.false_and]
    have e2 : (n1 == n2) = false := by simpa using hn
    clear e heq
    go_enter Try.func46, Try.ntmps46
    go_wp2
    go_ret
    exact ⟨rfl, hB'.out⟩
set_option maxRecDepth 100000 in
set_option maxHeartbeats 1000000 in
theorem rsame_any (n1 n2 : Int) (a1 a2 : Option Addr) (l1 l2 : List Int) (m1 m2 c1 c2 : Nat) (w : World) (h1 : SL w a1 m1 c1 l1) (h2 : SL w a2 m2 c2 l2) :
    Calls Try.prog 16 #[.agg #[.int .i64 n1, .slice a1 m1 c1], .agg #[.int .i64 n2, .slice a2 m2 c2]] w (Gives (.bool (decide (n1 = n2) && decide (l1 = l2))) w) := by
  obtain ⟨W1, hW1⟩ : ∃ W1, W1 = (w.alloc (.cells #[.int .i64 n1, .slice a1 m1 c1] 24)).alloc (.cells #[.int .i64 n2, .slice a2 m2 c2] 24) := ⟨_, rfl⟩
  have hB : Below w.heap.size w W1 := by rw [hW1]; exact box2_below _ _ _ _ _
  have g1 := h1.below hB
  have g2 := h2.below hB
  have z1 : ZH W1 w.heap.size (.int .i64 n1) (.slice a1 m1 c1) := by rw [hW1]; exact (Holds.new w _ _).alloc _
  have z2 : ZH W1 (w.heap.size + 1) (.int .i64 n2) (.slice a2 m2 c2) := by
    rw [hW1]
    have := Holds.new (w.alloc (.cells #[.int .i64 n1, .slice a1 m1 c1] 24)) 24 #[.int .i64 n2, .slice a2 m2 c2]
    simpa using this
  have k1 := z1.cell 1
  have k2 := z2.cell 1
  have hW1' := Lib.hid hW1
  have hB' := Lib.hid hB
  by_cases hn : n1 = n2
  · have e : decide (n1 = n2) = true := decide_eq_true hn
    rw [e, Bool.true_and]
    subst hn
    clear e
    by_cases hm : m1 = m2
    · subst hm
      have hmi : (m1 : Int) ≤ 9223372036854775807 := by have := h1.max; omega
      have h1' := Lib.hid g1
      have h2' := Lib.hid g2
      clear h1 h2 g1 g2 z1 z2 hB
      go_enter Try.func16, Try.ntmps16
      go_wp2
      rw [← hW1]
      clear hW1
      go_loopw [5] (fun x wr => ∃ k m : Nat, k ≤ m1 ∧ x = .int .i64 k ∧ Hid (∀ j, j < k → l1.getD j 0 = l2.getD j 0) ∧ wr = W1.drewN m) (fun x _ => m1 - (intOf x).toNat)
      case atStart => exact ⟨0, 0, Nat.zero_le _, rfl, Lib.hid (by intro j hj; omega), rfl⟩
      case round =>
        obtain ⟨k, m, hk, rfl, he, rfl⟩ := hrel
        by_cases hlt : k < m1
        · obtain ⟨b1, o1, rfl, -, e1⟩ := sees_at' h1'.out.sees (i := k) (by have := h1'.out.len; omega)
          obtain ⟨b2, o2, rfl, -, e2⟩ := sees_at' h2'.out.sees (i := k) (by have := h2'.out.len; omega)
          have hki : (k : Int) < (m1 : Int) := by omega
          have hyes : Hid (l1.getD k 0 = l2.getD k 0 → ∀ j, j < k + 1 → l1.getD j 0 = l2.getD j 0) := Lib.hid (fun hx j hj => by
            by_cases e : j = k
            · subst e; exact hx
            · exact he.out j (by omega))
          have hno : Hid (l1.getD k 0 ≠ l2.getD k 0 → decide (l1 = l2) = false) := Lib.hid (fun hx => decide_eq_false (fun e => hx (by rw [e])))
          clear he
          generalize l1.getD k 0 = x at *
          generalize l2.getD k 0 = y at *
          by_cases hxy : x = y
          · subst hxy
            have hy2 := Lib.hid (hyes.out rfl)
            clear hyes hno
            go_wp2
            go_quiet (fail)
            go_wp2
            go_roundw
            case rel => exact ⟨k + 1, m + nq, by omega, by go_num, hy2, by simp [World.drewN, Nat.add_assoc]⟩
            case measure => simp [intOf]; omega
          · have hr := Lib.hid (hno.out hxy)
            have hxy2 : (x == y) = false := by simpa using hxy
            have hxy3 : (x != y) = true := by simpa using hxy
            clear hyes hno
            go_wp2
            go_quiet (fail)
            go_wp2
            go_ret
            exact ⟨by rw [hr.out]; rfl, Below.drewN (Below.drewN hB'.out m) nq⟩
        · have hr : Hid (decide (l1 = l2) = true) := Lib.hid (decide_eq_true (by
            have q1 := h1'.out.len
            have q2 := h2'.out.len
            apply List.ext_getElem (by omega)
            intro j g1 g2
            have := he.out j (by omega)
            simpa [List.getD, g1, g2] using this))
          clear he
          go_wp2
          go_ret
          exact ⟨by rw [hr.out]; rfl, Below.drewN hB'.out m⟩
    · have hr : decide (l1 = l2) = false := decide_eq_false (fun e => hm (by rw [h1.len, h2.len, e]))
      rw [hr]
      have hi1 : (m1 : Int) ≠ (m2 : Int) := by omega
      have hi2 : ((m1 : Int) != (m2 : Int)) = true := by simpa using hi1
      clear h1 h2 hr hm g1 g2 z1 z2 hB hW1 k1 k2
      go_enter Try.func16, Try.ntmps16
      go_wp2
      go_ret
      rw [← hW1'.out]
      exact ⟨rfl, hB'.out⟩
  · have e : decide (n1 = n2) = false := decide_eq_false hn
    rw [e, Bool.false_and]
    have e2 : (n1 != n2) = true := by simpa using hn
    clear e h1 h2 g1 g2 z1 z2 hB hW1 k1 k2
    go_enter Try.func16, Try.ntmps16
    go_wp2
    go_ret
    rw [← hW1'.out]
    exact ⟨rfl, hB'.out⟩

/- What is closed stays so. -/
theorem clipL_fix {n : Nat} {D : List Int} (hl : D.length = (n + 1) * (n + 1)) (hc : Closed n (mat n D)) (hw : ∀ i j, i ≤ n → j ≤ n → mat n D i j ≤ widestF i j) : clipL n D = D := by
  refine mat_ext (clip_len _ _) hl (fun i j hi hj => ?_)
  unfold clipL
  rw [mat_matL _ hi hj]
  unfold clipF
  have h1 := hw i j hi hj
  have h2 := hw j i hj hi
  have h3 := hc.tri i i j hi hi hj
  rw [hc.zero i hi] at h3
  have h4 := widestF_le j i
  omega
theorem closedL_fix {n : Nat} {D : List Int} (hl : D.length = (n + 1) * (n + 1)) (hc : Closed n (mat n D)) (hw : ∀ i j, i ≤ n → j ≤ n → mat n D i j ≤ widestF i j) : closedL n D = D := by
  have hf := clipL_fix hl hc hw
  obtain ⟨h1, h2⟩ := closedL_max (M := D) hc (by rw [hf]; exact fun i j _ _ => Int.le_refl _)
  obtain ⟨h3, h4, h5⟩ := closedL_is (closedL_ne h1)
  rw [hf] at h5
  exact mat_ext h3 hl (fun i j hi hj => Int.le_antisymm (h5 i j hi hj) (h2 i j hi hj))
theorem closedL_widest {n : Nat} {M : List Int} (h : closedL n M ≠ []) {i j : Nat} (hi : i ≤ n) (hj : j ≤ n) : mat n (closedL n M) i j ≤ widestF i j := by
  obtain ⟨h3, h4, h5⟩ := closedL_is h
  have := h5 i j hi hj
  unfold clipL at this
  rw [mat_matL _ hi hj] at this
  have := widestF_le i j
  unfold clipF at *
  omega
theorem closedL_again {n : Nat} {M : List Int} (h : closedL n M ≠ []) : closedL n (closedL n M) = closedL n M := by
  obtain ⟨h3, h4, h5⟩ := closedL_is h
  exact closedL_fix h3 h4 (fun i j hi hj => closedL_widest h hi hj)
theorem widest_closed (n : Nat) : Closed n (mat n (allL n)) := by
  constructor
  · intro i hi
    unfold allL
    rw [mat_matL _ hi hi]
    unfold widestF
    rw [if_pos rfl]
  · intro i j k hi hj hk
    unfold allL
    rw [mat_matL _ hi hj, mat_matL _ hi hk, mat_matL _ hk hj]
    unfold widestF
    split <;> split <;> split <;> (try split) <;> (try split) <;> (try split) <;> omega
theorem all_closed (n : Nat) : closedL n (allL n) = allL n := closedL_fix (matL_len _ _) (widest_closed n) (fun i j hi hj => by unfold allL; rw [mat_matL _ hi hj]; exact Int.le_refl _)
theorem all_of (n : Nat) : closedL n (List.replicate (sz n) 4398046511104) = allL n := by
  have h1 : clipL n (List.replicate (sz n) 4398046511104) = clipL n (allL n) := by
    refine mat_ext (clip_len _ _) (clip_len _ _) (fun i j hi hj => ?_)
    unfold clipL
    rw [mat_matL _ hi hj, mat_matL _ hi hj]
    unfold clipF
    have h2 : mat n (List.replicate (sz n) 4398046511104) i j = 4398046511104 := by
      have := place_lt hi hj
      unfold mat sz
      simp [List.getD, this]
    have h3 : mat n (allL n) i j = widestF i j := mat_matL _ hi hj
    have h4 := widestF_le i j
    rw [h2, h3]
    omega
  unfold closedL
  rw [h1]
  exact all_closed n
theorem sees_other {k : IntKind} {B : Nat} {w : World} {a : Option Addr} {l : List Int} (h : Sees k B w a l) (g : Nat) (hg : ∀ p, a = some p → g ≠ p.block) (i : Nat) (v : Value) : Sees k B (w.setCell ⟨g, i, none⟩ v) a l := by
  rcases h with h | ⟨b, off, rfl, hB, hc⟩
  · exact .inl h
  · refine .inr ⟨b, off, rfl, hB, fun j hj => ?_⟩
    have hne : (⟨b, off + j, none⟩ : Addr).block ≠ g := fun e => hg _ rfl e.symm
    have := World.cell?_of_block (w := w) (w' := w.setCell ⟨g, i, none⟩ v) (a := ⟨b, off + j, none⟩) (Below.heap_setCell w ⟨g, i, none⟩ v b hne)
    rw [this]; exact hc j hj
set_option maxRecDepth 100000 in
theorem rall_any (n : Nat) (hn : n ≤ 8) (w : World) : Calls Try.prog 69 #[.int .i64 n] w (ZoneS n (allL n) w) := by
  obtain ⟨i0, hi, hz0, hz1, hz2⟩ := info_parts infoInt
  obtain ⟨W1, hW1⟩ : ∃ W1, W1 = w.alloc (.cells #[.int .i64 0, .slice none 0 0] 24) := ⟨_, rfl⟩
  obtain ⟨hB, hz⟩ : Below w.heap.size w W1 ∧ ZH W1 w.heap.size (.int .i64 0) (.slice none 0 0) := by rw [hW1]; exact zone_new
  have hrc := Lib.hid (fun a c W (h : Sees .i64 W.heap.size W a (List.replicate (sz n) 4398046511104)) => rclose_any n hn a (List.replicate (sz n) 4398046511104) (sz n) c (by simp) rfl W h)
  rw [all_of] at hrc
  have hB' := Lib.hid hB
  have hz' := Lib.hid hz
  have hW1' := Lib.hid hW1
  have hs81 := sz_le hn
  have hni : (n : Int) ≤ 8 := by omega
  have hw1 : IntKind.i64.wrap ((n : Int) + 1) = (n : Int) + 1 := wrap_small (by omega) (by omega)
  have hw2 : IntKind.i64.wrap (((n : Int) + 1) * ((n : Int) + 1)) = (sz n : Nat) := by rw [sz_int]; exact wrap_small (by omega) (by omega)
  clear hW1 hB hz
  generalize allL n = R at *
  generalize sz n = s at *
  go_enter Try.func69, Try.ntmps69
  go_wp2
  rw [← hW1'.out]
  go_loopw [3, 4] (fun v x wr => ∃ k : Nat, k ≤ s ∧ x = .int .i64 k ∧ Hid (wr.ownsRow W1.heap.size 3 1 v (List.replicate k (4398046511104 : Int)).length (nums .i64 (List.replicate k 4398046511104))) ∧ Hid (Below W1.heap.size W1 wr)) (fun _ x _ => s - (intOf x).toNat)
  case atStart => exact ⟨0, by omega, rfl, Lib.hid ⟨rfl, .inl ⟨rfl, rfl⟩⟩, Lib.hid (Below.refl _ _)⟩
  case round =>
    obtain ⟨k, hk, rfl, hown, hb⟩ := hrel
    by_cases hlt : k < s
    · have hki : (k : Int) < (s : Int) := by omega
      go_wp2_with (at_builtin; refine wpList_append1 _ rfl _ _ 22 rfl W1 3 i0 (.int .i64 0) 8 Try.underlying22 hi hz0 hz1 hz2 rfl .i64 4398046511104 _ _ hown.out hb.out rfl rfl (by simp; omega) (by omega) ?_; intro v' w' hown2 hb2; have hown2' := Lib.hid hown2; have hb2' := Lib.hid hb2; clear hown2 hb2)
      go_roundw
      case rel => exact ⟨k + 1, by omega, by go_num, by rw [List.replicate_succ']; exact hown2', hb2'⟩
      case measure => simp [intOf]; omega
    · have hke : k = s := by omega
      subst hke
      obtain ⟨a, c, rfl, -, hs⟩ := sees_own hown.out
      have hcall := Lib.hid (hrc.out a c wr hs)
      have hb' := Lib.hid hb.out
      have hz3 := hz'.out.below hb.out hz'.out.lt
      clear hown hb hs hrc
      simp only [List.length_replicate]
      go_wp2_with fail
      refine hcall.out.mono ?_
      rintro e w5 ⟨a5, c5, rfl, hc5, s5, b5, nw5⟩
      have hz5 := hz3.below b5 hz3.lt
      have k0 := hz5.cell 0
      have k1 := hz5.cell 1
      have f0 := hz5.free 0
      have f1 := hz5.free 1
      have hfin : Hid (ZH ((w5.setCell ⟨w.heap.size, 0, none⟩ (.int .i64 n)).setCell ⟨w.heap.size, 1, none⟩ (.slice a5 R.length c5)) w.heap.size (.int .i64 n) (.slice a5 R.length c5)) := Lib.hid (zh_set hz5 _ _)
      have hout : Hid (ZoneS n R w (.returned (.agg #[.int .i64 n, .slice a5 R.length c5])) ((w5.setCell ⟨w.heap.size, 0, none⟩ (.int .i64 n)).setCell ⟨w.heap.size, 1, none⟩ (.slice a5 R.length c5))) := Lib.hid (by
        have hne : ∀ p, a5 = some p → w.heap.size ≠ p.block := fun p hp => by have h1 := nw5 p hp; have h2 := hb'.out.size; have h3 := hz'.out.lt; omega
        have hbb : Below w.heap.size w w5 := (hB'.out.trans (hb'.out.mono hB'.out.size)).trans (b5.mono (by have h2 := hb'.out.size; have h3 := hB'.out.size; omega))
        refine ⟨a5, c5, rfl, hc5, ?_, (hbb.setCell (p := ⟨w.heap.size, 0, none⟩) (Nat.le_refl _) _).setCell (p := ⟨w.heap.size, 1, none⟩) (Nat.le_refl _) _, fun p hp => by have h1 := nw5 p hp; have h2 := hb'.out.size; have h3 := hB'.out.size; omega⟩
        have := sees_other (sees_other s5 w.heap.size hne 0 (.int .i64 n)) w.heap.size hne 1 (.slice a5 R.length c5)
        simpa using this)
      clear hz3 hz5 s5 b5
      go_wp2
      exact zone_ret hfin.out hout.out _ _ 2 rfl rfl rfl
end Go.Proofs.Ytacbkddkjlnklaa
