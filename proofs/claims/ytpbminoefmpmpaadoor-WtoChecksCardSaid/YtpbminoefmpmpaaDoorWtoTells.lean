/- wto: the closures of Check and Depth; Check, Depth. -/
import Derived.Test.YtpbminoefmpmpaaDoorWtoScan
namespace Go.Proofs.YtpbminoefmpmpaaDoor
open Go.RowKit
set_option linter.unusedVariables false
set_option linter.unusedSimpArgs false

/-- The most so far stands in block g. -/
def InvM (S : List Int) (g : Nat) (k : Nat) (q : Option Nat) (w : World) : Prop := Holds w g 3 #[.int .i64 (mostL S k : Nat)]
theorem invM_scan {S : List Int} {g : Nat} {w : World} (hg : g < w.heap.size) : ScanH (InvM S g) [g] w :=
  ⟨by simpa using hg, fun k q q' W W' h hb hq hl hw => by
    refine Holds.belowE h hb (Holds.lt h) (fun hx => ?_)
    have := (hl g (by simpa using hx)).1
    omega⟩
theorem most_next (S : List Int) (k : Nat) : ((mostL S (k + 1) : Nat) : Int) = max ((mostL S k : Nat) : Int) ((hds S k).length : Int) := by
  show ((max (mostL S k) (hds S k).length : Nat) : Int) = _
  omega
theorem clo_check (S : List Int) (g k n c : Nat) (a : Option Addr) (q : Option Nat) (w : World) (h : InvM S g k q w) (hn : n = (hds S k).length) (hk : k ≤ 128) :
    Calls Tryd.prog 25 #[.int .i64 k, .slice a n c, .pointer (some ⟨g, 0, none⟩)] w (CloS (InvM S g) [g] k q w) := by
  have hc := Holds.cell h 0
  have hf := Holds.free h 0
  have hset := Holds.set h 0 (.int .i64 (mostL S (k + 1) : Nat))
  have hfin : Hid (CloS (InvM S g) [g] k q w (.returned (.tuple #[])) (w.setCell ⟨g, 0, none⟩ (.int .i64 (mostL S (k + 1) : Nat)))) :=
    Lib.hid ⟨rfl, hset, (BelowE.refl _ _ _).setIn (p := ⟨g, 0, none⟩) (by simp) _⟩
  have hm := most_next S k
  rw [← hn] at hm
  rw [hm] at hfin
  clear hset hm h hn
  generalize ((mostL S k : Nat) : Int) = m at *
  by_cases hmn : (n : Int) ≤ m
  · rw [Int.max_eq_left hmn] at hfin
    go_enter Tryd.func25, Tryd.ntmps25
    go_wp2
    go_end0
    exact hfin.out
  · rw [Int.max_eq_right (by omega)] at hfin
    go_enter Tryd.func25, Tryd.ntmps25
    go_wp2
    go_end0
    exact hfin.out
theorem clo_depth (S : List Int) (g k n c : Nat) (a : Option Addr) (q : Option Nat) (w : World) (h : InvM S g k q w) (hn : n = (hds S k).length) (hk : k ≤ 128) :
    Calls Tryd.prog 29 #[.int .i64 k, .slice a n c, .pointer (some ⟨g, 0, none⟩)] w (CloS (InvM S g) [g] k q w) := by
  have hc := Holds.cell h 0
  have hf := Holds.free h 0
  have hset := Holds.set h 0 (.int .i64 (mostL S (k + 1) : Nat))
  have hfin : Hid (CloS (InvM S g) [g] k q w (.returned (.tuple #[])) (w.setCell ⟨g, 0, none⟩ (.int .i64 (mostL S (k + 1) : Nat)))) :=
    Lib.hid ⟨rfl, hset, (BelowE.refl _ _ _).setIn (p := ⟨g, 0, none⟩) (by simp) _⟩
  have hm := most_next S k
  rw [← hn] at hm
  rw [hm] at hfin
  clear hset hm h hn
  generalize ((mostL S k : Nat) : Int) = m at *
  by_cases hmn : (n : Int) ≤ m
  · rw [Int.max_eq_left hmn] at hfin
    go_enter Tryd.func29, Tryd.ntmps29
    go_wp2
    go_end0
    exact hfin.out
  · rw [Int.max_eq_right (by omega)] at hfin
    go_enter Tryd.func29, Tryd.ntmps29
    go_wp2
    go_end0
    exact hfin.out

/-- What a slice that reads as S is, where the blocks of X are all above it. -/
theorem SL.seesE {w : World} {a : Option Addr} {n c : Nat} {S : List Int} (h : SL w a n c S) {w' : World} (hb : Below w.heap.size w w') {X : List Nat} (hx : ∀ x ∈ X, w.heap.size ≤ x) : SeesE X .i64 w'.heap.size w' a S :=
  ((h.sees.below hb).out hx).mono hb.size
theorem belowE_new {X : List Nat} {w W1 w2 : World} (hB : Below w.heap.size w W1) (hb : BelowE X W1.heap.size W1 w2) (hx : ∀ x ∈ X, w.heap.size ≤ x) : Below w.heap.size w w2 :=
  hB.trans (BelowE.none ((hb.mono hB.size).less (Y := []) (fun x hm hl => by have := hx x hm; omega)))
set_option maxRecDepth 100000 in
set_option maxHeartbeats 2000000 in
theorem check_any (a1 a2 : Option Addr) (n1 c1 n2 c2 : Nat) (P S : List Int) (w : World) (h : WA w a1 n1 c1 P a2 n2 c2 S) :
    Calls Tryd.prog 11 #[.agg #[.slice a1 n1 c1, .slice a2 n2 c2]] w (Gives (.int .i64 (chkW P S)) w) := by
  have l1 := h.p.len
  have l2 := h.s.len
  have hB := box_below w #[.slice a1 n1 c1, .slice a2 n2 c2] 24
  have m1 := h.p.max
  have m2 := h.s.max
  by_cases g1 : 128 < n1
  · have hr : chkW P S = 3 := by unfold chkW; rw [if_pos (.inl (by omega))]
    have gi : (128 : Int) < (n1 : Int) := by omega
    have hB' := Lib.hid hB
    rw [hr]
    clear hr hB l1 l2 h
    go_enter Tryd.func11, Tryd.ntmps11
    go_wp2
    go_ret
    exact ⟨rfl, hB'.out⟩
  have gi : ¬ (128 : Int) < (n1 : Int) := by omega
  by_cases g2 : 128 < n2
  · have hr : chkW P S = 3 := by unfold chkW; rw [if_pos (.inr (by omega))]
    have gi2 : (128 : Int) < (n2 : Int) := by omega
    have hB' := Lib.hid hB
    rw [hr]
    clear hr hB l1 l2 h
    go_enter Tryd.func11, Tryd.ntmps11
    go_wp2
    go_ret
    exact ⟨rfl, hB'.out⟩
  have gi2 : ¬ (128 : Int) < (n2 : Int) := by omega
  obtain ⟨W1, hW1⟩ : ∃ W1, W1 = (w.alloc (.cells #[.slice a1 n1 c1, .slice a2 n2 c2] 24)).alloc (.cells #[.int .i64 0] 3) := ⟨_, rfl⟩
  have hB1 := Lib.hid (show Below w.heap.size w W1 by rw [hW1]; exact hB.alloc (by simp) _)
  have Z := Lib.hid (show Holds W1 w.heap.size 24 #[.slice a1 n1 c1, .slice a2 n2 c2] by rw [hW1]; exact (Holds.new w _ _).alloc _)
  have M := Lib.hid (show Holds W1 (w.heap.size + 1) 3 #[.int .i64 0] by rw [hW1]; have q := Holds.new (w.alloc (.cells #[.slice a1 n1 c1, .slice a2 n2 c2] 24)) 3 #[.int .i64 0]; simpa using q)
  have hW1' := Lib.hid hW1
  have hL1 := Lib.hid l1
  have hL2 := Lib.hid l2
  have H := Lib.hid h
  by_cases g3 : n1 = n2
  case neg =>
    have hr : chkW P S = 100 := by unfold chkW; rw [if_neg (by omega), if_pos (fun x => g3 (by rw [l1, l2, x.1]))]
    have e : ((n1 : Int) == (n2 : Int)) = false := by simp; omega
    rw [hr]
    clear hr hB l1 l2 h hW1 Z M
    go_enter Tryd.func11, Tryd.ntmps11
    go_wp2
    go_ret
    rw [← hW1'.out]
    exact ⟨rfl, hB1.out⟩
  subst g3
  have hx : ∀ x ∈ [w.heap.size + 1], w.heap.size ≤ x := by simp
  have hq := Lib.hid (scan_check (w.heap.size + 1) a1 a2 n1 c1 n1 c2 S (InvM S (w.heap.size + 1)) [w.heap.size + 1] W1 l2 (by omega) h.s.cap (h.s.seesE hB1.out hx) (invM_scan M.out.lt) M.out (fun k W a n c hk hi hw ho => clo_check S (w.heap.size + 1) k n c a _ W hi (by have := ho.1; simp [nums, intsN] at this; omega) (by omega)))
  have hx' := Lib.hid hx
  have r100 : Hid (¬ (nestB S = true ∧ onceP P n1) → chkW P S = 100) := Lib.hid (fun hn => by unfold chkW; rw [if_neg (by omega), if_pos (fun x => hn ⟨x.2.1, by rw [l1]; exact x.2.2⟩)])
  have r0 : Hid ((nestB S = true ∧ onceP P n1) → chkW P S = if 64 < mostL S S.length then 3 else 0) := Lib.hid (fun hn => by unfold chkW; rw [if_neg (by omega), if_neg (fun x => x ⟨by omega, hn.1, by rw [← l1]; exact hn.2⟩)])
  clear hx hB l1 l2 h hW1
  have k1 := Z.out.cell 0
  have k2 := Z.out.cell 1
  go_enter Tryd.func11, Tryd.ntmps11
  go_wp2_with fail
  rw [← hW1'.out]
  with_reducible refine hq.out.mono ?_
  rintro e w2 ⟨rfl, hb, hi⟩
  have hB2 := Lib.hid (belowE_new hB1.out hb hx'.out)
  have Z2 := Lib.hid (Z.out.belowE hb Z.out.lt (by simp))
  have hi' := Lib.hid hi
  clear hq hb hi k1 k2 hW1' Z M hB1
  have k1 := Z2.out.cell 0
  generalize nestB S = b at *
  cases b with
  | false =>
    have hr := Lib.hid (r100.out (by simp))
    clear hi' r0 r100
    go_wp2
    go_ret
    exact ⟨by rw [hr.out]; rfl, hB2.out⟩
  | true =>
    obtain ⟨q, M0⟩ := hi'.out rfl
    have M := Lib.hid (show Holds w2 (w.heap.size + 1) 3 #[.int .i64 (mostL S S.length : Nat)] from M0)
    have ho := Lib.hid (once_any a1 n1 c1 P w2 (H.out.p.below hB2.out))
    clear hi' M0
    go_wp2_with fail
    with_reducible refine ho.out.mono ?_
    rintro e w3 ⟨rfl, hb3⟩
    have hB3 := Lib.hid (hB2.out.trans (hb3.mono hB2.out.size))
    have M3 := (M.out.below hb3 M.out.lt).cell 0
    clear ho hb3 Z2 k1 hB2 M
    by_cases hon : onceP P n1
    · have hr := Lib.hid (r0.out (by simpa using hon))
      rw [decide_eq_true hon]
      clear r0 r100 hon
      generalize mostL S S.length = m at *
      by_cases hm : 64 < m
      · have hmi : (64 : Int) < (m : Int) := by omega
        have hr2 := Lib.hid (hr.out.trans (if_pos hm))
        clear hr hm
        go_wp2
        go_ret
        exact ⟨by rw [hr2.out]; rfl, hB3.out⟩
      · have hmi : ¬ (64 : Int) < (m : Int) := by omega
        have hr2 := Lib.hid (hr.out.trans (if_neg hm))
        clear hr hm
        go_wp2
        go_ret
        exact ⟨by rw [hr2.out]; rfl, hB3.out⟩
    · have hr := Lib.hid (r100.out (by simpa using hon))
      rw [decide_eq_false hon]
      clear r0 r100 hon
      go_wp2
      go_ret
      exact ⟨by rw [hr.out]; rfl, hB3.out⟩
end Go.Proofs.YtpbminoefmpmpaaDoor
