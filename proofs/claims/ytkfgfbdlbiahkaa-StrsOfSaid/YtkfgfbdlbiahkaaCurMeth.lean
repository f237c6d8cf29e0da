/- cur: the reader's calls. -/
import Derived.Test.YtkfgfbdlbiahkaaCurAskA
import Derived.Test.YtkfgfbdlbiahkaaCurAskB
namespace Go.Proofs.Ytkfgfbdlbiahkaa
open Go.RowKit
set_option linter.unusedVariables false


theorem count_any (r : Nat) (a : Option Addr) (cap : Nat) (bs : List Int) (p : Nat) (e m : Int) (hm : m ≤ 9223372036854775807) (w : World) (h : Rd w r a cap bs p e) :
    Calls Try.prog 28 #[.pointer (some ⟨r, 0, none⟩), .int .i64 m] w (Rests (.int .i64 (countO m bs p e).1) r a cap bs (countO m bs p e).2.1 (countO m bs p e).2.2 w) := by
  have hask : ∀ (c : Nat) (w : World), w.cell? ⟨c, 0, none⟩ = some (.int .i64 m) → c ≠ r → Rd w r a cap bs p e → Calls Try.prog 47 #[.pointer (some ⟨r, 0, none⟩), .func (.func 48) #[] #[.pointer (some ⟨c, 0, none⟩)]] w (Rests (.int .i64 (countO m bs p e).1) r a cap bs (countO m bs p e).2.1 (countO m bs p e).2.2 w) := by
    intro c w hc hcr h
    have hlc : c < w.heap.size := World.block_lt_of_cell? w _ hc
    have hk : ∀ w1, Below w.heap.size w w1 → w1.cell? ⟨c, 0, none⟩ = some (.int .i64 m) := fun w1 hb => (hb.cell (p := ⟨c, 0, none⟩) hlc).trans hc
    by_cases he : e = 0
    · subst he
      rcases uO_cases h.byt h.at_ with ⟨hs, hg⟩ | ⟨hs, hg⟩ | ⟨n, j, hs, hg, h0, h1, h2⟩
      · rw [show countO m bs p 0 = (0, p, 10) by simp [countO, hs]]
        exact ask_count_no r c a cap bs p 10 w h fun w1 hb => count1_no r c m w1 (hk w1 hb) 10 a cap bs (count_no r a cap bs p m 10 w1 (h.ahead hb) hg (by decide))
      · rw [show countO m bs p 0 = (0, p, 11) by simp [countO, hs]]
        exact ask_count_no r c a cap bs p 11 w h fun w1 hb => count1_no r c m w1 (hk w1 hb) 11 a cap bs (count_no r a cap bs p m 11 w1 (h.ahead hb) hg (by decide))
      · by_cases hlong : m < 0 ∨ m < n
        · rw [show countO m bs p 0 = (0, p, 3) by simp [countO, hs, hlong]]
          exact ask_count_no r c a cap bs p 3 w h fun w1 hb => count1_no r c m w1 (hk w1 hb) 3 a cap bs (count_long r a cap bs p n j m w1 (h.ahead hb) hg h2 hm hlong)
        · rw [show countO m bs p 0 = (n, p + j, 0) by simp [countO, hs, hlong]]
          exact ask_count_ok r c a cap bs p (p + j) n w h fun w1 hb => count1 r c m w1 (hk w1 hb) n a cap bs (p + j) (count_ok r a cap bs p n j m w1 (h.ahead hb) hg h2 hm h0 (by omega))
    · have hs : countO m bs p e = (0, p, e) := by simp [countO, uO, he]
      rw [hs]
      exact ask_count_bad r c a cap bs p e he w h
  generalize countO m bs p e = o at *
  obtain ⟨v, q, y⟩ := o
  have hB : Below w.heap.size w (w.alloc (.cells #[.int .i64 m] 3)) := (Below.refl _ _).alloc (Nat.le_refl _) _
  have hc : (w.alloc (.cells #[.int .i64 m] 3)).cell? ⟨w.heap.size, 0, none⟩ = some (.int .i64 m) := by simp [go_sem]
  have lr := h.blk.lt
  have hask' := Lib.hid (hask w.heap.size _ hc (by omega) (h.ahead hB))
  have hB' := Lib.hid hB
  clear hask h hB
  go_enter Try.func28, Try.ntmps28
  have hmf : ∀ (fn : Fn) (first cap : Array Value) (w : World), (Instr.makeFunc fn first cap).run Try.prog w = .ok (.func fn first cap) w := fun _ _ _ _ => rfl
  go_wp2_with fail
  refine hask'.out.mono ?_
  rintro e' w' ⟨rfl, h1, h2⟩
  go_wp2
  go_ret
  exact ⟨rfl, h1, (BelowE.of hB'.out).trans (h2.mono hB'.out.size)⟩
theorem count_nil (m : Int) (w : World) :
    Calls Try.prog 28 #[.pointer none, .int .i64 m] w fun e w' => e = .returned (.int .i64 0) ∧ Below w.heap.size w w' := by
  have hB : Below w.heap.size w (w.alloc (.cells #[.int .i64 m] 3)) := (Below.refl _ _).alloc (Nat.le_refl _) _
  have hask' := Lib.hid (ask_count_nil w.heap.size (w.alloc (.cells #[.int .i64 m] 3)))
  have hB' := Lib.hid hB
  clear hB
  go_enter Try.func28, Try.ntmps28
  have hmf : ∀ (fn : Fn) (first cap : Array Value) (w : World), (Instr.makeFunc fn first cap).run Try.prog w = .ok (.func fn first cap) w := fun _ _ _ _ => rfl
  go_wp2_with fail
  refine hask'.out.mono ?_
  rintro e' w' ⟨rfl, h1⟩
  go_wp2
  go_ret
  exact ⟨rfl, hB'.out.trans (h1.mono hB'.out.size)⟩

theorem text_any (r : Nat) (a : Option Addr) (cap : Nat) (bs : List Int) (p : Nat) (e m : Int) (hm : m ≤ 9223372036854775807) (w : World) (h : Rd w r a cap bs p e) :
    Calls Try.prog 51 #[.pointer (some ⟨r, 0, none⟩), .int .i64 m] w (Rests (.string (textO m bs p e).1) r a cap bs (textO m bs p e).2.1 (textO m bs p e).2.2 w) := by
  have hask : ∀ (c : Nat) (w : World), w.cell? ⟨c, 0, none⟩ = some (.int .i64 m) → c ≠ r → Rd w r a cap bs p e → Calls Try.prog 60 #[.pointer (some ⟨r, 0, none⟩), .func (.func 61) #[] #[.pointer (some ⟨c, 0, none⟩)]] w (Rests (.string (textO m bs p e).1) r a cap bs (textO m bs p e).2.1 (textO m bs p e).2.2 w) := by
    intro c w hc hcr h
    have hlc : c < w.heap.size := World.block_lt_of_cell? w _ hc
    have hk : ∀ w1, Below w.heap.size w w1 → w1.cell? ⟨c, 0, none⟩ = some (.int .i64 m) := fun w1 hb => (hb.cell (p := ⟨c, 0, none⟩) hlc).trans hc
    by_cases he : e = 0
    · subst he
      rcases uO_cases h.byt h.at_ with ⟨hs, hg⟩ | ⟨hs, hg⟩ | ⟨n, j, hs, hg, h0, h1, h2⟩
      · rw [show textO m bs p 0 = (⟨#[]⟩, p, 10) by simp [textO, countO, hs]]
        exact ask_text_no r c a cap bs p 10 w h fun w1 hb => text1_no r c m w1 (hk w1 hb) 10 a cap bs (count_no r a cap bs p m 10 w1 (h.ahead hb) hg (by decide))
      · rw [show textO m bs p 0 = (⟨#[]⟩, p, 11) by simp [textO, countO, hs]]
        exact ask_text_no r c a cap bs p 11 w h fun w1 hb => text1_no r c m w1 (hk w1 hb) 11 a cap bs (count_no r a cap bs p m 11 w1 (h.ahead hb) hg (by decide))
      · by_cases hlong : m < 0 ∨ m < n
        · rw [show textO m bs p 0 = (⟨#[]⟩, p, 3) by simp [textO, countO, hs, hlong]]
          exact ask_text_no r c a cap bs p 3 w h fun w1 hb => text1_no r c m w1 (hk w1 hb) 3 a cap bs (count_long r a cap bs p n j m w1 (h.ahead hb) hg h2 hm hlong)
        · obtain ⟨n, rfl⟩ := Int.eq_ofNat_of_zero_le h0
          by_cases hfit : p + j + n ≤ bs.length
          · rw [show textO m bs p 0 = (strOfNums ((bs.drop (p + j)).take n), p + j + n, 0) by simp [textO, countO, hs, hlong, hfit]]
            exact ask_text_ok r c a cap bs p (p + j + n) _ w h fun w1 hb => text1_ok r c hcr m w1 (hk w1 hb) a cap bs p n j (h.ahead hb) hg hfit hm (by omega)
          · rw [show textO m bs p 0 = (⟨#[]⟩, p, 10) by simp [textO, countO, hs, hlong, hfit]]
            exact ask_text_no r c a cap bs p 10 w h fun w1 hb => text1_short r c hcr m w1 (hk w1 hb) a cap bs p n j (h.ahead hb) hg h2 (by omega) hm (by omega)
    · have hs : textO m bs p e = (⟨#[]⟩, p, e) := by simp [textO, countO, uO, he]
      rw [hs]
      exact ask_text_bad r c a cap bs p e he w h
  generalize textO m bs p e = o at *
  obtain ⟨v, q, y⟩ := o
  have hB : Below w.heap.size w (w.alloc (.cells #[.int .i64 m] 3)) := (Below.refl _ _).alloc (Nat.le_refl _) _
  have hc : (w.alloc (.cells #[.int .i64 m] 3)).cell? ⟨w.heap.size, 0, none⟩ = some (.int .i64 m) := by simp [go_sem]
  have lr := h.blk.lt
  have hask' := Lib.hid (hask w.heap.size _ hc (by omega) (h.ahead hB))
  have hB' := Lib.hid hB
  clear hask h hB
  go_enter Try.func51, Try.ntmps51
  have hmf : ∀ (fn : Fn) (first cap : Array Value) (w : World), (Instr.makeFunc fn first cap).run Try.prog w = .ok (.func fn first cap) w := fun _ _ _ _ => rfl
  go_wp2_with fail
  refine hask'.out.mono ?_
  rintro e' w' ⟨rfl, h1, h2⟩
  go_wp2
  go_ret
  exact ⟨rfl, h1, (BelowE.of hB'.out).trans (h2.mono hB'.out.size)⟩
theorem text_nil (m : Int) (w : World) :
    Calls Try.prog 51 #[.pointer none, .int .i64 m] w fun e w' => e = .returned (.string ⟨#[]⟩) ∧ Below w.heap.size w w' := by
  have hB : Below w.heap.size w (w.alloc (.cells #[.int .i64 m] 3)) := (Below.refl _ _).alloc (Nat.le_refl _) _
  have hask' := Lib.hid (ask_text_nil w.heap.size (w.alloc (.cells #[.int .i64 m] 3)))
  have hB' := Lib.hid hB
  clear hB
  go_enter Try.func51, Try.ntmps51
  have hmf : ∀ (fn : Fn) (first cap : Array Value) (w : World), (Instr.makeFunc fn first cap).run Try.prog w = .ok (.func fn first cap) w := fun _ _ _ _ => rfl
  go_wp2_with fail
  refine hask'.out.mono ?_
  rintro e' w' ⟨rfl, h1⟩
  go_wp2
  go_ret
  exact ⟨rfl, hB'.out.trans (h1.mono hB'.out.size)⟩
end Go.Proofs.Ytkfgfbdlbiahkaa
