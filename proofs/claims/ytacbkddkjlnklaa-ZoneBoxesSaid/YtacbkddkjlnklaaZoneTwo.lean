/- Zones put together: two, empty, clone. -/
import Derived.Test.YtacbkddkjlnklaaDbmLawTight
import Derived.Lib.BufferMore
namespace Go.Proofs.Ytacbkddkjlnklaa
open Go.RowKit
set_option linter.unusedVariables false
set_option linter.unusedSimpArgs false

/-- What is wrong with two zones. -/
def twoE (n1 : Int) (l1 : List Int) (n2 : Int) (l2 : List Int) : Int := if checkB n1 l1 = false ∨ checkB n2 l2 = false then 80 else if n1 = n2 then 0 else 1
theorem ztwo_any (n1 n2 : Int) (a1 a2 : Option Addr) (l1 l2 : List Int) (m1 m2 c1 c2 : Nat) (w : World) (h1 : SL w a1 m1 c1 l1) (h2 : SL w a2 m2 c2 l2) :
    Calls Try.prog 47 #[.agg #[.int .i64 n1, .slice a1 m1 c1], .agg #[.int .i64 n2, .slice a2 m2 c2]] w (Gives (.int .i64 (twoE n1 l1 n2 l2)) w) := by
  obtain ⟨W1, hW1⟩ : ∃ W1, W1 = (w.alloc (.cells #[.int .i64 n1, .slice a1 m1 c1] 24)).alloc (.cells #[.int .i64 n2, .slice a2 m2 c2] 24) := ⟨_, rfl⟩
  have hB : Below w.heap.size w W1 := by rw [hW1]; exact box2_below _ _ _ _ _
  have Z1 : ZH W1 w.heap.size (.int .i64 n1) (.slice a1 m1 c1) := by rw [hW1]; exact (Holds.new w _ _).alloc _
  have Z2 : ZH W1 (w.heap.size + 1) (.int .i64 n2) (.slice a2 m2 c2) := by
    rw [hW1]
    have := Holds.new (w.alloc (.cells #[.int .i64 n1, .slice a1 m1 c1] 24)) 24 #[.int .i64 n2, .slice a2 m2 c2]
    simpa using this
  have hW1' := Lib.hid hW1
  have hB' := Lib.hid hB
  have Z1' := Lib.hid Z1
  have Z2' := Lib.hid Z2
  have S2' := Lib.hid (h2.below hB)
  have q1 := Lib.hid (dcheck_any n1 a1 m1 c1 l1 W1 (h1.below hB))
  have q2 := Lib.hid (fun W (hW : Below W1.heap.size W1 W) => dcheck_any n2 a2 m2 c2 l2 W (S2'.out.below hW))
  have o1 := chk_or n1 l1
  have o2 := chk_or n2 l2
  clear hW1 hB Z1 Z2 h1 h2
  unfold twoE
  generalize chk n1 l1 = E1 at *
  generalize chk n2 l2 = E2 at *
  rcases o1 with ⟨e1, rfl⟩ | ⟨e1, rfl⟩
  · rcases o2 with ⟨e2, rfl⟩ | ⟨e2, rfl⟩
    · rw [if_neg (by rw [e1, e2]; simp)]
      clear e1 e2
      by_cases hn : n1 = n2
      · rw [if_pos hn]
        subst hn
        go_enter Try.func47, Try.ntmps47
        go_wp2_with fail
        rw [← hW1'.out]
        refine q1.out.mono ?_
        rintro e w1 ⟨rfl, b1⟩
        have k0 := (Z2'.out.below b1 Z2'.out.lt).cell 0
        have k1 := (Z2'.out.below b1 Z2'.out.lt).cell 1
        have p2 := Lib.hid (q2.out w1 b1)
        have b1' := Lib.hid b1
        clear b1 q1 q2
        go_wp2_with fail
        refine p2.out.mono ?_
        rintro e w2 ⟨rfl, b2⟩
        have b12 := Lib.hid (b1'.out.trans (b2.mono b1'.out.size))
        clear k0 k1 b2 p2
        have k0 := (Z1'.out.below b12.out Z1'.out.lt).cell 0
        have k1 := (Z2'.out.below b12.out Z2'.out.lt).cell 0
        go_wp2
        go_ret
        exact ⟨rfl, hB'.out.trans (b12.out.mono hB'.out.size)⟩
      · rw [if_neg hn]
        have hn2 : (n1 != n2) = true := by simpa using hn
        go_enter Try.func47, Try.ntmps47
        go_wp2_with fail
        rw [← hW1'.out]
        refine q1.out.mono ?_
        rintro e w1 ⟨rfl, b1⟩
        have k0 := (Z2'.out.below b1 Z2'.out.lt).cell 0
        have k1 := (Z2'.out.below b1 Z2'.out.lt).cell 1
        have p2 := Lib.hid (q2.out w1 b1)
        have b1' := Lib.hid b1
        clear b1 q1 q2
        go_wp2_with fail
        refine p2.out.mono ?_
        rintro e w2 ⟨rfl, b2⟩
        have b12 := Lib.hid (b1'.out.trans (b2.mono b1'.out.size))
        clear k0 k1 b2 p2
        have k0 := (Z1'.out.below b12.out Z1'.out.lt).cell 0
        have k1 := (Z2'.out.below b12.out Z2'.out.lt).cell 0
        go_wp2
        go_ret
        exact ⟨rfl, hB'.out.trans (b12.out.mono hB'.out.size)⟩
    · rw [if_pos (.inr e2)]
      clear e1 e2
      go_enter Try.func47, Try.ntmps47
      go_wp2_with fail
      rw [← hW1'.out]
      refine q1.out.mono ?_
      rintro e w1 ⟨rfl, b1⟩
      have k0 := (Z2'.out.below b1 Z2'.out.lt).cell 0
      have k1 := (Z2'.out.below b1 Z2'.out.lt).cell 1
      have p2 := Lib.hid (q2.out w1 b1)
      have b1' := Lib.hid b1
      clear b1 q1 q2
      go_wp2_with fail
      refine p2.out.mono ?_
      rintro e w2 ⟨rfl, b2⟩
      have b12 := Lib.hid (b1'.out.trans (b2.mono b1'.out.size))
      clear b2 p2
      go_wp2
      go_ret
      exact ⟨rfl, hB'.out.trans (b12.out.mono hB'.out.size)⟩
  · rw [if_pos (.inl e1)]
    clear e1 o2
    go_enter Try.func47, Try.ntmps47
    go_wp2_with fail
    rw [← hW1'.out]
    refine q1.out.mono ?_
    rintro e w1 ⟨rfl, b1⟩
    have b1' := Lib.hid b1
    clear b1 q1 q2
    go_wp2
    go_ret
    exact ⟨rfl, hB'.out.trans (b1'.out.mono hB'.out.size)⟩
theorem zempty_any (n : Int) (a : Option Addr) (m c : Nat) (l : List Int) (w : World) (h : SL w a m c l) :
    Calls Try.prog 48 #[.agg #[.int .i64 n, .slice a m c]] w (Gives (.bool (decide (l = []))) w) := by
  have hB := box_below w #[.int .i64 n, .slice a m c] 24
  have hmx := h.max
  by_cases h0 : l = []
  · rw [decide_eq_true h0]
    have hm : m = 0 := by rw [h.len, h0]; rfl
    subst hm
    clear h h0
    go_enter Try.func48, Try.ntmps48
    go_wp2
    go_ret
    exact ⟨rfl, hB⟩
  · rw [decide_eq_false h0]
    have hm := len_pos h0 h.len
    have e1 : ((m : Int) == 0) = false := by simp; omega
    clear h h0 hm
    go_enter Try.func48, Try.ntmps48
    go_wp2
    go_ret
    exact ⟨rfl, hB⟩
theorem iclone_any (A : Option Addr) (l : List Int) (n c : Nat) (hn : n = l.length) (hl : l.length ≤ 1000000) (w : World) (hs : Sees .i64 w.heap.size w A l) :
    Calls Try.prog 93 #[.slice A n c] w (Made 3 .i64 w l) := by
  obtain ⟨i0, hi, hz0, hz1, hz2⟩ := info_parts infoInt
  subst hn
  cases A with
  | none =>
    have hl0 : l = [] := by
      rcases hs with h | ⟨b, off, h, _⟩
      · exact h
      · cases h
    subst hl0
    have hq := fun W => Lib.run_eql_slice_nil_nil (P := Try.prog) W (t := 22) (e := 3) 0 c Try.underlying22
    go_enter Try.func93, Try.ntmps93
    go_wp2
    go_ret
    exact ⟨_, rfl, ⟨rfl, .inl ⟨rfl, rfl⟩⟩, Below.refl _ _⟩
  | some ad =>
    have hq := fun W => Lib.run_eql_slice_some_nil (P := Try.prog) W (t := 22) (e := 3) ad l.length c Try.underlying22
    have hB : Below w.heap.size w (w.alloc (.cells #[] 3)) := (Below.refl _ _).alloc (Nat.le_refl _) _
    have hs' : Sees .i64 w.heap.size (w.alloc (.cells #[] 3)) (some ad) l := hs.below hB
    have hl' := Lib.hid hl
    go_enter Try.func93, Try.ntmps93
    go_wp2_with (at_builtin; refine wpList_append_sees _ rfl (.tmp 5) (.tmp 6) 22 rfl w 3 i0 (.int .i64 0) 8 Try.underlying22 hi hz0 hz1 hz2 rfl .i64 _ [] (by exact own_empty 3 .i64 (Below.refl _ w)) (by exact hB) w.heap.size (some ad) l (by exact hs') l.length c rfl rfl rfl (by have := hl'.out; simp; omega) (by omega) ?_; intro v2 w2 hown2 hw2; simp only [List.nil_append] at hown2)
    go_ret
    exact ⟨v2, rfl, hown2, hw2⟩
end Go.Proofs.Ytacbkddkjlnklaa
