/- What the statements themselves reckon with valuations. -/
import Derived.Test.YtacbkddkjlnklaaZoneHasFacts
namespace Go.Proofs.Ytacbkddkjlnklaa
open Go.RowKit
set_option linter.unusedVariables false
set_option linter.unusedSimpArgs false

theorem lval_any (a : Option Addr) (v : List Int) (n c : Nat) (hn : n = v.length) (hl : n ≤ 1000) (i : Nat) (hi : i ≤ n) (B : Nat) (w : World) (h : Sees .i64 B w a v) : Calls Try.prog 39 #[.slice a n c, .int .i64 i] w (Tells (.int .i64 (valF v i)) w) := by
  unfold valF
  by_cases h0 : i = 0
  · subst h0
    rw [if_pos rfl]
    go_enter Try.func39, Try.ntmps39
    go_wp2
    go_ret
    exact ⟨rfl, rfl⟩
  · rw [if_neg h0]
    obtain ⟨k, rfl⟩ : ∃ k, i = k + 1 := ⟨i - 1, by omega⟩
    rw [Nat.add_sub_cancel]
    obtain ⟨b, off, rfl, -, hc⟩ := sees_at' h (i := k) (by omega)
    have hkn : k < n := by omega
    have hki : (k : Int) ≤ 1000 := by omega
    clear h hn
    generalize v.getD k 0 = x at *
    go_enter Try.func39, Try.ntmps39
    go_wp2
    go_ret
    exact ⟨rfl, rfl⟩
theorem rclipV_any (n : Int) (w : World) : Calls Try.prog 40 #[.int .i64 n] w (Tells (.int .i64 (clipV n)) w) := by
  unfold clipV
  go_enter Try.func40, Try.ntmps40
  by_cases h1 : 1099511627776 < n
  · rw [if_pos h1]
    go_wp2
    go_ret
    exact ⟨rfl, rfl⟩
  · rw [if_neg h1]
    by_cases h2 : n < -1099511627776
    · rw [if_pos h2]
      go_wp2
      go_ret
      exact ⟨rfl, rfl⟩
    · rw [if_neg h2]
      go_wp2
      go_ret
      exact ⟨rfl, rfl⟩
/-- A slice of one's own that reads as l. -/
def SlG (n : Nat) (l : List Int) (w : World) (e : Ending) (w' : World) : Prop := ∃ a c, e = .returned (.slice a n c) ∧ SL w' a n c l ∧ Below w.heap.size w w'
theorem lwith_any (a : Option Addr) (v : List Int) (n c : Nat) (h0 : n ≤ 1000) (i : Nat) (hi0 : 1 ≤ i) (hi : i ≤ n) (x : Int) (w : World) (h : SL w a n c v) : Calls Try.prog 42 #[.slice a n c, .int .i64 i, .int .i64 x] w (SlG n (withL v i x) w) := by
  obtain ⟨i0, hii, hz0, hz1, hz2⟩ := info_parts infoInt
  obtain ⟨k, rfl⟩ : ∃ k, i = k + 1 := ⟨i - 1, by omega⟩
  have hk : Hid (withL v (k + 1) x = v.set k x) := Lib.hid (by unfold withL; rw [Nat.add_sub_cancel])
  have hkn : (k : Int) < (n : Int) := by omega
  have hki : (k : Int) ≤ 1000 := by omega
  have hlm := Lib.hid (show v.length = n from h.len.symm)
  have hS := Lib.hid h
  have hnb : n ≤ 1000 := h0
  have hbe : Hid (Below w.heap.size w (w.alloc (.cells #[] 3))) := Lib.hid (box_below _ _ _)
  have hn0 : Hid (n ≠ 0) := Lib.hid (by omega)
  have hkl : Hid (k < v.length) := Lib.hid (by rw [← h.len]; omega)
  clear h hi0 hi h0
  generalize withL v (k + 1) x = L at *
  go_enter Try.func42, Try.ntmps42
  go_wp2_with (at_builtin; refine wpList_append_sees _ rfl (.tmp 8) (.tmp 9) 22 rfl w 3 i0 (.int .i64 0) 8 Try.underlying22 hii hz0 hz1 hz2 rfl .i64 _ [] (by exact own_empty 3 .i64 (Below.refl _ w)) (by exact hbe.out) w.heap.size a v (by exact hS.out.sees.below hbe.out) n c hS.out.len rfl rfl (by have := hlm.out; simp; omega) (by omega) ?_; intro v2 w2 hown2 hw2; simp only [List.nil_append] at hown2; rw [hlm.out] at hown2; obtain ⟨g, cap, rfl, hg⟩ := own_some hown2 hn0.out; have m0 := own_at hown2 (i := k) hkl.out; have mf := hown2.frozenAt k; have O2 := Lib.hid hown2; have b2 := Lib.hid hw2; have hg' := Lib.hid hg; clear hown2 hw2 hg)
  go_ret
  have O3 := own_put O2.out k x
  rw [← hk.out] at O3
  obtain ⟨a3, c3, e3, h3, s3⟩ := sees_own O3
  injection e3 with e4 e5 e6
  refine ⟨some ⟨g, 0, none⟩, cap, rfl, ⟨e5, own_cap O3, by omega, ?_⟩, b2.out.setCell (p := ⟨g, k, none⟩) hg'.out _⟩
  rw [e4]; exact s3
/-- A zone handed back, whose memory is new. -/
def EndsN (n : Int) (m : Nat) (l : List Int) (w : World) (e : Ending) (w' : World) : Prop := ∃ a c, e = .returned (.tuple #[.agg #[.int .i64 n, .slice a m c], .int .i64 0]) ∧ SL w' a m c l ∧ Below w.heap.size w w' ∧ New w a
theorem endsN_of {n : Int} {m : Nat} {l : List Int} {w : World} {e : Ending} {w' : World} (hm : l.length = m) (hmx : m ≤ 9223372036854775807) (h : ZoneE n l 0 w e w') : EndsN n m l w e w' := by
  obtain ⟨a, c, h1, h2, h3, h4, h5⟩ := h
  subst hm
  exact ⟨a, c, h1, ⟨rfl, h2, hmx, h3⟩, h4, h5⟩
theorem sl_size {w : World} {a : Option Addr} {m c : Nat} {l : List Int} (h : SL w a m c l) : l = [] ∨ ∀ p, a = some p → w.heap.size ≠ p.block := by
  rcases h.sees with e | ⟨b, off, e, hb, -⟩
  · exact .inl e
  · right
    intro p hp
    rw [e] at hp
    injection hp with hp
    subst hp
    show w.heap.size ≠ b
    omega
theorem new_far {w : World} {a : Option Addr} {l : List Int} {g : Nat} (h : New w a) (hg : g < w.heap.size) : l = [] ∨ ∀ p, a = some p → g ≠ p.block := by
  right
  intro p hp
  have := h p hp
  omega
theorem zitvL_any (n i : Nat) (hi : i ≤ n) (l : List Int) (hz : IsZ n l) (a : Option Addr) (m ca : Nat) (w : World) (h : SL w a m ca l) : Calls Try.prog 24 #[.agg #[.int .i64 n, .slice a m ca], .int .i64 i] w (Gives (.tuple #[.agg #[.int .i64 (itvL n l i).1, .int .i64 (itvL n l i).2], .int .i64 0]) w) := by
  unfold itvL
  rcases hz.2 with e | hF
  · subst e
    have hm : m = 0 := by rw [h.len]; rfl
    subst hm
    rw [if_pos rfl]
    exact zitv_nil n i hz.1 hi a ca w h
  · rw [if_neg hF.ne]
    exact zitv_full n i hi l hF a m ca w h
theorem below_of_eq {w w' : World} (h : w = w') : Below w.heap.size w w' := by subst h; exact Below.refl _ _
end Go.Proofs.Ytacbkddkjlnklaa
