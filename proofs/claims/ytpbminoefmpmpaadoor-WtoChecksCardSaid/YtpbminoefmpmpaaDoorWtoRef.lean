/- wto: the document's heads, Check. -/
import Derived.Test.YtpbminoefmpmpaaDoorWtoHeads
namespace Go.Proofs.YtpbminoefmpmpaaDoor
open Go.RowKit
set_option linter.unusedVariables false
set_option linter.unusedSimpArgs false

/-- How many of the first k entries' components go on behind i. -/
def cntH (S : List Int) (i k : Nat) : Nat := ((List.range k).filter fun j => decide ((i : Int) - j < S.getD j 0)).length
theorem cnt_next (S : List Int) (i k : Nat) : cntH S i (k + 1) = cntH S i k + if (i : Int) - k < S.getD k 0 then 1 else 0 := by
  unfold cntH
  rw [List.range_succ, List.filter_append, List.length_append]
  congr 1
  by_cases h : (i : Int) - k < S.getD k 0
  · rw [if_pos h, List.filter_cons_of_pos (by simpa only [decide_eq_true_eq] using h)]; rfl
  · rw [if_neg h, List.filter_cons_of_neg (by simpa only [decide_eq_true_eq] using h)]; rfl
theorem cnt_all (S : List Int) (i : Nat) : cntH S i (i + 1) = (hds S i).length := rfl
theorem cnt_le (S : List Int) (i k : Nat) : cntH S i k ≤ k := by
  unfold cntH
  exact Nat.le_trans (List.length_filter_le _ _) (by simp)
set_option maxRecDepth 100000 in
set_option maxHeartbeats 2000000 in
theorem rheads_any (a1 a2 : Option Addr) (n1 c1 n2 c2 i : Nat) (S : List Int) (w : World) (h : SL w a2 n2 c2 S) (hi : i < S.length) (h128 : S.length ≤ 128) :
    Calls Tryd.prog 27 #[.agg #[.slice a1 n1 c1, .slice a2 n2 c2], .int .i64 i] w (Gives (.int .i64 ((hds S i).length : Nat)) w) := by
  obtain ⟨W1, hW1⟩ : ∃ W1, W1 = w.alloc (.cells #[.slice a1 n1 c1, .slice a2 n2 c2] 24) := ⟨_, rfl⟩
  have hB1 := Lib.hid (show Below w.heap.size w W1 by rw [hW1]; exact box_below w _ _)
  have Z := Holds.new w 24 #[.slice a1 n1 c1, .slice a2 n2 c2]
  rw [← hW1] at Z
  have k1 := Z.cell 1
  have hl := Lib.hid h.len
  have hS := Lib.hid (h.below hB1.out)
  have hin : i < n2 := by rw [h.len]; exact hi
  have hn2 : n2 ≤ 128 := by rw [h.len]; exact h128
  have hii : (i : Int) < (n2 : Int) := by omega
  have hn2i : (n2 : Int) ≤ 128 := by omega
  have hall := Lib.hid (cnt_all S i)
  clear h hi h128 Z
  go_enter Tryd.func27, Tryd.ntmps27
  go_wp2
  rw [← hW1]
  clear hW1
  go_loop [5, 6] (fun m x => ∃ k : Nat, k ≤ i + 1 ∧ x = .int .i64 k ∧ m = .int .i64 (cntH S i k : Nat)) (fun _ x => i + 1 - (intOf x).toNat)
  case atStart => exact ⟨0, by omega, rfl, rfl⟩
  case round =>
    obtain ⟨k, hk, rfl, rfl⟩ := hrel
    by_cases hlt : k < i + 1
    · obtain ⟨b, o, rfl, -, e1⟩ := sees_num hS.out.sees (i := k) (by rw [← hl.out]; omega)
      have hnx := Lib.hid (cnt_next S i k)
      have hle := cnt_le S i k
      have hki : (k : Int) ≤ (i : Int) := by omega
      have hci : ((cntH S i k : Nat) : Int) ≤ 200 := by omega
      obtain ⟨cn, hcn⟩ : ∃ cn, cn = cntH S i (k + 1) := ⟨_, rfl⟩
      rw [← hcn] at hnx
      have hcn' := Lib.hid hcn
      clear hcn hle
      generalize cntH S i k = c at *
      generalize S.getD k 0 = x at *
      by_cases hx : (i : Int) - k < x
      · have hn1 := Lib.hid (hnx.out.trans (by rw [if_pos hx]))
        clear hnx
        go_wp2
        go_round
        case rel => exact ⟨k + 1, by omega, by go_num, by rw [← hcn'.out, hn1.out]; go_num⟩
        case measure => simp [intOf]; omega
      · have hn1 := Lib.hid (hnx.out.trans (by rw [if_neg hx]))
        clear hnx
        go_wp2
        go_round
        case rel => exact ⟨k + 1, by omega, by go_num, by rw [← hcn'.out, hn1.out]; rfl⟩
        case measure => simp [intOf]; omega
    · obtain rfl : k = i + 1 := by omega
      rw [hall.out]
      have hfin : Hid (Gives (.int .i64 ((hds S i).length : Nat)) w (.returned (.int .i64 ((hds S i).length : Nat))) W1) := Lib.hid ⟨rfl, hB1.out⟩
      generalize (hds S i).length = m at *
      go_wp2
      go_ret
      exact hfin.out

/-- What is asked of an entry. -/
def entW (P S : List Int) (n i : Nat) : Prop := 0 ≤ P.getD i 0 ∧ P.getD i 0 ≤ 127 ∧ 0 ≤ S.getD i 0 ∧ S.getD i 0 ≤ (n : Int) - i
/-- What is asked of two. -/
def twoW (P S : List Int) (i k : Nat) : Prop := P.getD k 0 ≠ P.getD i 0 ∧ ((i : Int) - k < S.getD k 0 → S.getD i 0 ≤ S.getD k 0 - ((i : Int) - k))
def goodW (P S : List Int) (n i : Nat) : Prop := ∀ j, j < i → entW P S n j ∧ ∀ k, k < j → twoW P S j k
theorem ent_iff (P S : List Int) (n i : Nat) : entW P S n i ↔ 0 ≤ P.getD i 0 ∧ P.getD i 0 ≤ 127 ∧ 0 ≤ S.getD i 0 ∧ S.getD i 0 ≤ (n : Int) - i := Iff.rfl
theorem two_iff (P S : List Int) (i k : Nat) : twoW P S i k ↔ P.getD k 0 ≠ P.getD i 0 ∧ ((i : Int) - k < S.getD k 0 → S.getD i 0 ≤ S.getD k 0 - ((i : Int) - k)) := Iff.rfl
theorem good_next {P S : List Int} {n i : Nat} (h : goodW P S n i) (he : entW P S n i) (ht : ∀ k, k < i → twoW P S i k) : goodW P S n (i + 1) := fun j hj => by
  by_cases e : j = i
  · subst e; exact ⟨he, ht⟩
  · exact h j (by omega)
theorem good_iff {P S : List Int} (hl : P.length = S.length) : goodW P S S.length S.length ↔ nestB S = true ∧ onceP P P.length := by
  unfold nestB
  rw [decide_eq_true_eq]
  constructor
  · intro h
    refine ⟨fun j hj => ?_, fun j hj => ?_⟩
    · obtain ⟨⟨a, b, c, d⟩, e⟩ := h j hj
      exact ⟨c, d, fun k hk => (e k hk).2⟩
    · obtain ⟨⟨a, b, c, d⟩, e⟩ := h j (by omega)
      exact ⟨a, b, fun k hk => (e k hk).1⟩
  · rintro ⟨h1, h2⟩ j hj
    obtain ⟨a, b, c⟩ := h1 j hj
    obtain ⟨d, e, f⟩ := h2 j (by omega)
    exact ⟨⟨d, e, a, b⟩, fun k hk => ⟨f k hk, c k hk⟩⟩
theorem bad_ent {P S : List Int} {n i : Nat} (hi : i < n) (h : ¬ entW P S n i) : ¬ goodW P S n n := fun hg => h (hg i hi).1
theorem bad_two {P S : List Int} {n i k : Nat} (hi : i < n) (hk : k < i) (h : ¬ twoW P S i k) : ¬ goodW P S n n := fun hg => h ((hg i hi).2 k hk)
theorem chk_bad {P S : List Int} {n : Nat} (h1 : n = P.length) (h2 : n = S.length) (hn : n ≤ 128) (h : ¬ goodW P S n n) : chkW P S = 100 := by
  unfold chkW
  rw [if_neg (by omega), if_pos (fun x => h (by rw [h2]; exact (good_iff (by omega)).2 x.2))]
theorem chk_good {P S : List Int} {n : Nat} (h1 : n = P.length) (h2 : n = S.length) (hn : n ≤ 128) (h : goodW P S n n) : chkW P S = if 64 < mostL S n then 3 else 0 := by
  unfold chkW
  rw [h2] at h
  rw [if_neg (by omega), if_neg (fun x => x ⟨by omega, (good_iff (by omega)).1 h⟩), h2]
/-- What holds of the document's Check, all along. -/
structure RC (w : World) (a1 : Option Addr) (n c1 : Nat) (P : List Int) (a2 : Option Addr) (c2 : Nat) (S : List Int) (wr : World) : Prop where
  below : Below w.heap.size w wr
  box : Holds wr w.heap.size 24 #[.slice a1 n c1, .slice a2 n c2]
  arg : WA wr a1 n c1 P a2 n c2 S
theorem RC.drewN {w a1 n c1 P a2 c2 S wr} (h : RC w a1 n c1 P a2 c2 S wr) (k : Nat) : RC w a1 n c1 P a2 c2 S (wr.drewN k) := ⟨Below.drewN h.below k, h.box.drewN k, ⟨h.arg.p.drewN k, h.arg.s.drewN k⟩⟩
theorem RC.made {w a1 n c1 P a2 c2 S wr w'} (h : RC w a1 n c1 P a2 c2 S wr) (hb : Below wr.heap.size wr w') : RC w a1 n c1 P a2 c2 S w' := ⟨h.below.trans (hb.mono h.below.size), h.box.below hb h.box.lt, h.arg.below hb⟩
set_option maxRecDepth 100000 in
set_option maxHeartbeats 4000000 in
theorem rcheck_any (a1 a2 : Option Addr) (n1 c1 n2 c2 : Nat) (P S : List Int) (w : World) (h : WA w a1 n1 c1 P a2 n2 c2 S) :
    Calls Tryd.prog 12 #[.agg #[.slice a1 n1 c1, .slice a2 n2 c2]] w (Gives (.int .i64 (chkW P S)) w) := by
  have l1 := h.p.len
  have l2 := h.s.len
  have hB := box_below w #[.slice a1 n1 c1, .slice a2 n2 c2] 24
  have m1 := h.p.max
  have m2 := h.s.max
  by_cases g1 : 128 < n1
  · have hr : chkW P S = 3 := by unfold chkW; rw [if_pos (.inl (by omega))]
    have gi : (128 : Int) < (n1 : Int) := by omega
    have hB' := Lib.hid hB
    rw [hr]
    clear hr hB l1 l2 h
    go_enter Tryd.func12, Tryd.ntmps12
    go_wp2
    go_ret
    exact ⟨rfl, hB'.out⟩
  have gi : ¬ (128 : Int) < (n1 : Int) := by omega
  by_cases g2 : 128 < n2
  · have hr : chkW P S = 3 := by unfold chkW; rw [if_pos (.inr (by omega))]
    have gi2 : (128 : Int) < (n2 : Int) := by omega
    have hB' := Lib.hid hB
    rw [hr]
    clear hr hB l1 l2 h
    go_enter Tryd.func12, Tryd.ntmps12
    go_wp2
    go_ret
    exact ⟨rfl, hB'.out⟩
  have gi2 : ¬ (128 : Int) < (n2 : Int) := by omega
  by_cases g3 : n2 = n1
  case neg =>
    have hr : chkW P S = 100 := by unfold chkW; rw [if_neg (by omega), if_pos (fun x => g3 (by rw [l1, l2, x.1]))]
    have e : ((n2 : Int) != (n1 : Int)) = true := by simp; omega
    have hB' := Lib.hid hB
    rw [hr]
    clear hr hB l1 l2 h
    go_enter Tryd.func12, Tryd.ntmps12
    go_wp2
    go_ret
    exact ⟨rfl, hB'.out⟩
  subst g3
  have R0 : Hid (RC w a1 n2 c1 P a2 c2 S (w.alloc (.cells #[.slice a1 n2 c1, .slice a2 n2 c2] 24))) := Lib.hid ⟨hB, Holds.new w _ _, h.below hB⟩
  have hbad := Lib.hid (fun x => chk_bad (P := P) (S := S) l1 l2 (by omega) x)
  have hgood := Lib.hid (fun x => chk_good (P := P) (S := S) l1 l2 (by omega) x)
  have L1 := Lib.hid l1
  have L2 := Lib.hid l2
  have hn : n2 ≤ 128 := by omega
  have hni : (n2 : Int) ≤ 128 := by omega
  clear h l1 l2 hB m1 m2 g1 g2
  go_enter Tryd.func12, Tryd.ntmps12
  go_wp2
  go_loopw [4] (fun x wr => ∃ i : Nat, i ≤ n2 ∧ x = .int .i64 i ∧ Hid (goodW P S n2 i) ∧ Hid (RC w a1 n2 c1 P a2 c2 S wr)) (fun x _ => n2 - (intOf x).toNat)
  case atStart => exact ⟨0, by omega, rfl, Lib.hid (fun j hj => by omega), R0⟩
  case round =>
    clear R0
    obtain ⟨i, hi, rfl, hG, R⟩ := hrel
    by_cases hlt : i < n2
    · have hii : (i : Int) < (n2 : Int) := by omega
      have k1 := R.out.box.cell 0
      have k2 := R.out.box.cell 1
      obtain ⟨b1, o1, rfl, -, e1⟩ := sees_num R.out.arg.p.sees (i := i) (by rw [← L1.out]; exact hlt)
      obtain ⟨b2, o2, rfl, -, e2⟩ := sees_num R.out.arg.s.sees (i := i) (by rw [← L2.out]; exact hlt)
      have hent : Hid (¬ entW P S n2 i → chkW P S = 100) := Lib.hid (fun hx => hbad.out (bad_ent hlt hx))
      have hpe := Lib.hid (ent_iff P S n2 i)
      obtain ⟨p, hp⟩ : ∃ p, p = P.getD i 0 := ⟨_, rfl⟩
      obtain ⟨s, hs⟩ : ∃ s, s = S.getD i 0 := ⟨_, rfl⟩
      rw [← hp] at e1
      rw [← hs] at e2
      rw [← hp, ← hs] at hpe
      have hp' := Lib.hid hp
      have hs' := Lib.hid hs
      clear hp hs
      by_cases q1 : p < 0
      · have hr := Lib.hid (hent.out (fun x => by have := hpe.out.1 x; omega))
        clear hent hpe
        go_wp2
        go_ret
        exact ⟨by rw [hr.out]; rfl, R.out.below⟩
      by_cases q2 : 127 < p
      · have hr := Lib.hid (hent.out (fun x => by have := hpe.out.1 x; omega))
        clear hent hpe
        go_wp2
        go_ret
        exact ⟨by rw [hr.out]; rfl, R.out.below⟩
      by_cases q3 : s < 0
      · have hr := Lib.hid (hent.out (fun x => by have := hpe.out.1 x; omega))
        clear hent hpe
        go_wp2
        go_ret
        exact ⟨by rw [hr.out]; rfl, R.out.below⟩
      by_cases q4 : (n2 : Int) - i < s
      · have hr := Lib.hid (hent.out (fun x => by have := hpe.out.1 x; omega))
        clear hent hpe
        go_wp2
        go_ret
        exact ⟨by rw [hr.out]; rfl, R.out.below⟩
      have hE : Hid (entW P S n2 i) := Lib.hid (hpe.out.2 ⟨by omega, by omega, by omega, by omega⟩)
      clear hent hpe
      go_wp2
      obtain ⟨wo, rfl⟩ : ∃ wo : World, wo = wr := ⟨_, rfl⟩
      go_loopw [5] (fun x wr => ∃ k : Nat, k ≤ i ∧ x = .int .i64 k ∧ Hid (∀ j, j < k → twoW P S i j) ∧ Hid (RC w (some ⟨b1, o1, none⟩) n2 c1 P (some ⟨b2, o2, none⟩) c2 S wr)) (fun x _ => i - (intOf x).toNat)
      case atStart => exact ⟨0, by omega, rfl, Lib.hid (fun j hj => by omega), R⟩
      case round =>
        clear R k1 k2 e1 e2
        obtain ⟨k, hk, rfl, hT, R⟩ := hrel
        by_cases hkt : k < i
        · have hki : (k : Int) < (i : Int) := by omega
          have k1 := R.out.box.cell 0
          have k2 := R.out.box.cell 1
          have e1 : wr.cell? ⟨b1, o1 + i, none⟩ = some (.int .i64 p) := by
            obtain ⟨b, o, e, -, q⟩ := sees_num R.out.arg.p.sees (i := i) (by rw [← L1.out]; exact hlt)
            injection e with e; injection e with e3 e4; subst e3 e4; rw [hp'.out]; exact q
          have e2 : wr.cell? ⟨b2, o2 + i, none⟩ = some (.int .i64 s) := by
            obtain ⟨b, o, e, -, q⟩ := sees_num R.out.arg.s.sees (i := i) (by rw [← L2.out]; exact hlt)
            injection e with e; injection e with e3 e4; subst e3 e4; rw [hs'.out]; exact q
          have e3 : wr.cell? ⟨b1, o1 + k, none⟩ = some (.int .i64 (P.getD k 0)) := by
            obtain ⟨b, o, e, -, q⟩ := sees_num R.out.arg.p.sees (i := k) (by rw [← L1.out]; omega)
            injection e with e; injection e with e3 e4; subst e3 e4; exact q
          have e4 : wr.cell? ⟨b2, o2 + k, none⟩ = some (.int .i64 (S.getD k 0)) := by
            obtain ⟨b, o, e, -, q⟩ := sees_num R.out.arg.s.sees (i := k) (by rw [← L2.out]; omega)
            injection e with e; injection e with e3 e4; subst e3 e4; exact q
          have hg := (hG.out k hkt).1
          have hs0 : 0 ≤ S.getD k 0 := hg.2.2.1
          have hs1 : S.getD k 0 ≤ 128 := by have := hg.2.2.2; omega
          have htwo : Hid (¬ twoW P S i k → chkW P S = 100) := Lib.hid (fun hx => hbad.out (bad_two hlt hkt hx))
          have hnext : Hid (twoW P S i k → ∀ j, j < k + 1 → twoW P S i j) := Lib.hid (fun hx j hj => by
            by_cases e : j = k
            · subst e; exact hx
            · exact hT.out j (by omega))
          have hdef := Lib.hid (two_iff P S i k)
          rw [← hp'.out, ← hs'.out] at hdef
          clear hg hT
          generalize P.getD k 0 = pk at *
          generalize S.getD k 0 = sk at *
          by_cases r1 : pk = p
          · have hr := Lib.hid (htwo.out (fun x => (hdef.out.1 x).1 r1))
            have r2 : (pk == p) = true := by simpa using r1
            clear htwo hnext hdef
            subst r1
            go_wp2
            go_quiet (fail)
            go_wp2
            go_ret
            exact ⟨by rw [hr.out]; rfl, Below.drewN R.out.below nq⟩
          have r2 : (pk == p) = false := by simpa using r1
          by_cases r3 : (i : Int) - k < sk
          · by_cases r4 : sk - ((i : Int) - k) < s
            · have hr := Lib.hid (htwo.out (fun x => by have := (hdef.out.1 x).2 r3; omega))
              clear htwo hnext hdef r1
              have r5 : decide ((i : Int) - k < sk) = true := decide_eq_true r3
              go_wp2
              go_quiet (fail)
              go_wp2
              go_ret
              exact ⟨by rw [hr.out]; rfl, Below.drewN R.out.below nq⟩
            · have hN := Lib.hid (hnext.out (hdef.out.2 ⟨r1, fun _ => by omega⟩))
              clear htwo hnext hdef r1
              have r5 : decide ((i : Int) - k < sk) = true := decide_eq_true r3
              have r6 : decide (sk - ((i : Int) - k) < s) = false := decide_eq_false r4
              go_wp2
              go_quiet (fail)
              go_wp2
              go_roundw
              case rel => exact ⟨k + 1, by omega, by go_num, hN, Lib.hid (R.out.drewN nq)⟩
              case measure => simp [intOf]; omega
          · have hN := Lib.hid (hnext.out (hdef.out.2 ⟨r1, fun h => absurd h r3⟩))
            clear htwo hnext hdef r1
            have r5 : decide ((i : Int) - k < sk) = false := decide_eq_false r3
            go_wp2
            go_quiet (fail)
            go_wp2
            go_roundw
            case rel => exact ⟨k + 1, by omega, by go_num, hN, Lib.hid (R.out.drewN nq)⟩
            case measure => simp [intOf]; omega
        · obtain rfl : k = i := by omega
          have hG2 := Lib.hid (good_next hG.out hE.out hT.out)
          clear hG hE hT
          go_wp2
          go_roundw
          case rel => exact ⟨k + 1, by omega, by go_num, hG2, R⟩
          case measure => simp [intOf]; omega
    · obtain rfl : i = n2 := by omega
      have hr := Lib.hid (hgood.out hG.out)
      clear hG hbad hgood
      go_wp2
      obtain ⟨wo, rfl⟩ : ∃ wo : World, wo = wr := ⟨_, rfl⟩
      go_loopw [6] (fun x wr => ∃ k : Nat, k ≤ i ∧ x = .int .i64 k ∧ Hid (mostL S k ≤ 64) ∧ Hid (RC w a1 i c1 P a2 c2 S wr)) (fun x _ => i - (intOf x).toNat)
      case atStart => exact ⟨0, by omega, rfl, Lib.hid (by simp [mostL]), R⟩
      case round =>
        clear R
        obtain ⟨k, hk, rfl, hM, R⟩ := hrel
        by_cases hkt : k < i
        · have hki : (k : Int) < (i : Int) := by omega
          have k1 := R.out.box.cell 0
          have k2 := R.out.box.cell 1
          have hq := Lib.hid (rheads_any a1 a2 i c1 i c2 k S wr R.out.arg.s (by rw [← L2.out]; exact hkt) (by rw [← L2.out]; exact hn))
          have hml : Hid (mostL S (k + 1) = max (mostL S k) (hds S k).length) := Lib.hid rfl
          have hmg : Hid (64 < (hds S k).length → 64 < mostL S i) := Lib.hid (fun h => most_gt.2 ⟨k, hkt, h⟩)
          generalize (hds S k).length = m at *
          go_wp2_with fail
          with_reducible refine hq.out.mono ?_
          rintro e w2 ⟨rfl, b2⟩
          have R2 := Lib.hid (R.out.made b2)
          clear hq b2 R k1 k2
          by_cases hm : 64 < m
          · have hmi : (64 : Int) < (m : Int) := by omega
            have hr2 := Lib.hid (hr.out.trans (if_pos (hmg.out hm)))
            clear hmg hml hm hr
            go_wp2
            go_ret
            exact ⟨by rw [hr2.out]; rfl, R2.out.below⟩
          · have hmi : ¬ (64 : Int) < (m : Int) := by omega
            have hM2 : Hid (mostL S (k + 1) ≤ 64) := Lib.hid (by have := hM.out; rw [hml.out]; omega)
            clear hmg hml hm
            go_wp2
            go_roundw
            case rel => exact ⟨k + 1, by omega, by go_num, hM2, R2⟩
            case measure => simp [intOf]; omega
        · obtain rfl : k = i := by omega
          have hr2 := Lib.hid (hr.out.trans (if_neg (by have := hM.out; omega)))
          clear hM hr
          go_wp2
          go_ret
          exact ⟨by rw [hr2.out]; rfl, R.out.below⟩
end Go.Proofs.YtpbminoefmpmpaaDoor
