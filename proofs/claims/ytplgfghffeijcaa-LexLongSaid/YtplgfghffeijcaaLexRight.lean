/- Which are tokens, and how each is written. -/
import Derived.Test.YtplgfghffeijcaaLexQuote
namespace Go.Proofs.Ytplgfghffeijcaa
open Go.RowKit
set_option linter.unusedVariables false
set_option linter.unusedSimpArgs false

/-- A slice of tokens. -/
structure TL (w : World) (a : Option Addr) (n c : Nat) (l : List Tk) : Prop where
  len : n = l.length
  cap : n ≤ c
  max : c ≤ maxLen
  sees : SeesC w.heap.size w a (tcells l)
theorem TL.below {w w' : World} {a : Option Addr} {n c : Nat} {l : List Tk} (h : TL w a n c l) (hb : Below w.heap.size w w') : TL w' a n c l := ⟨h.len, h.cap, h.max, (h.sees.below hb).mono hb.size⟩
theorem TL.at_ {w : World} {a : Option Addr} {n c : Nat} {l : List Tk} (h : TL w a n c l) {k : Nat} (hk : k < l.length) : ∃ b off, a = some ⟨b, off, none⟩ ∧ b < w.heap.size ∧
    w.cell? ⟨b, off + k * 4, none⟩ = some (.int .i64 (l.getD k tk0).k) ∧ w.cell? ⟨b, off + k * 4 + 1, none⟩ = some (.int .i64 (l.getD k tk0).ln) ∧ w.cell? ⟨b, off + k * 4 + 2, none⟩ = some (.int .i64 (l.getD k tk0).cl) ∧ w.cell? ⟨b, off + k * 4 + 3, none⟩ = some (.string (l.getD k tk0).tx) := by
  rcases h.sees with e | ⟨b, off, rfl, hb, hc⟩
  · have := tcells_len l; rw [e] at this; simp at this; omega
  · refine ⟨b, off, rfl, hb, ?_, ?_, ?_, ?_⟩
    · have := hc _ _ (tcells_at hk 0 (by omega)); simpa using this
    · have := hc _ _ (tcells_at hk 1 (by omega)); rwa [← Nat.add_assoc] at this
    · have := hc _ _ (tcells_at hk 2 (by omega)); rwa [← Nat.add_assoc] at this
    · have := hc _ _ (tcells_at hk 3 (by omega)); rwa [← Nat.add_assoc] at this
def rightB (t : Tk) : Bool := if t.k = 1 then wordL (codes t.tx) else if t.k = 2 then (codes t.tx).all prB else if t.k = 3 then decide (t.tx.size = 0) else false
def writtenL (t : Tk) : List Int := if t.k = 2 then quoteL (codes t.tx) else if t.k = 3 then [10] else codes t.tx
theorem str_empty (s : ByteArray) : s.toList.isEmpty = decide (s.size = 0) := by
  rw [ByteArray.toList_eq]
  have : s.size = s.data.toList.length := by rw [Array.length_toList]; rfl
  rw [this]
  cases s.data.toList <;> simp
set_option maxRecDepth 100000 in
set_option maxHeartbeats 1000000 in
theorem right_any (k ln cl : Int) (tx : ByteArray) (hs : tx.size ≤ 9223372036854775807) (w : World) : Calls Try.prog 33 #[.agg #[.int .i64 k, .int .i64 ln, .int .i64 cl, .string tx]] w (GivesB (.bool (rightB ⟨k, ln, cl, tx⟩)) w) := by
  have B1 := lit_below w (.cells #[.int .i64 k, .int .i64 ln, .int .i64 cl, .string tx] 36)
  have hw := Lib.hid (isWord_any tx (w.alloc (.cells #[.int .i64 k, .int .i64 ln, .int .i64 cl, .string tx] 36)))
  have hc := Lib.hid (containsF_any tx hs (w.alloc (.cells #[.int .i64 k, .int .i64 ln, .int .i64 cl, .string tx] 36)))
  have hB := Lib.hid B1
  clear B1
  unfold rightB
  by_cases h1 : k = 1
  · rw [if_pos h1]
    have e1 : (k == 1) = true := by simpa using h1
    clear h1 hc
    generalize wordL (codes tx) = y at *
    go_enter Try.func33, Try.ntmps33
    go_wp2_with fail
    refine hw.out.mono ?_
    rintro e w2 ⟨rfl, b2⟩
    have b3 := Lib.hid (hB.out.trans (b2.mono hB.out.size))
    clear b2 hw
    go_wp2
    go_ret
    exact ⟨rfl, b3.out⟩
  · rw [if_neg h1]
    have e1 : (k == 1) = false := by simpa using h1
    by_cases h2 : k = 2
    · rw [if_pos h2]
      have e2 : (k == 2) = true := by simpa using h2
      clear h1 h2 hw
      generalize (codes tx).all prB = y at *
      go_enter Try.func33, Try.ntmps33
      go_wp2_with fail
      refine hc.out.mono ?_
      rintro e w2 ⟨rfl, b2⟩
      have b3 := Lib.hid (hB.out.trans (b2.mono hB.out.size))
      clear b2 hc
      go_wp2
      go_ret
      exact ⟨by simp, b3.out⟩
    · rw [if_neg h2]
      have e2 : (k == 2) = false := by simpa using h2
      by_cases h3 : k = 3
      · rw [if_pos h3]
        have e3 : (k == 3) = true := by simpa using h3
        have he := Lib.hid (str_empty tx)
        clear h1 h2 h3 hw hc
        go_enter Try.func33, Try.ntmps33
        go_wp2
        go_ret
        exact ⟨by simp only; rw [← he.out]; first | rfl | simp, hB.out⟩
      · rw [if_neg h3]
        have e3 : (k == 3) = false := by simpa using h3
        clear h1 h2 h3 hw hc
        go_enter Try.func33, Try.ntmps33
        go_wp2
        go_ret
        exact ⟨rfl, hB.out⟩
set_option maxRecDepth 100000 in
set_option maxHeartbeats 1000000 in
theorem written_any (k ln cl : Int) (tx : ByteArray) (hs : k = 2 → tx.size ≤ 4000000) (w : World) : Calls Try.prog 22 #[.agg #[.int .i64 k, .int .i64 ln, .int .i64 cl, .string tx]] w (GivesB (.string (strOfNums (writtenL ⟨k, ln, cl, tx⟩))) w) := by
  have hB := Lib.hid (lit_below w (.cells #[.int .i64 k, .int .i64 ln, .int .i64 cl, .string tx] 36))
  unfold writtenL
  by_cases h2 : k = 2
  · rw [if_pos h2]
    have e2 : (k == 2) = true := by simpa using h2
    have hw := Lib.hid (quote_any tx (hs h2) (w.alloc (.cells #[.int .i64 k, .int .i64 ln, .int .i64 cl, .string tx] 36)))
    clear h2 hs
    generalize strOfNums (quoteL (codes tx)) = y at *
    go_enter Try.func22, Try.ntmps22
    go_wp2_with fail
    refine hw.out.mono ?_
    rintro e w2 ⟨rfl, b2⟩
    have b3 := Lib.hid (hB.out.trans (b2.mono hB.out.size))
    clear b2 hw
    go_wp2
    go_ret
    exact ⟨rfl, b3.out⟩
  · rw [if_neg h2]
    have e2 : (k == 2) = false := by simpa using h2
    by_cases h3 : k = 3
    · rw [if_pos h3]
      have e3 : (k == 3) = true := by simpa using h3
      clear h2 h3 hs
      go_enter Try.func22, Try.ntmps22
      go_wp2
      go_ret
      exact ⟨rfl, hB.out⟩
    · rw [if_neg h3]
      have e3 : (k == 3) = false := by simpa using h3
      have hcd := Lib.hid (str_codes tx)
      clear h2 h3 hs
      go_enter Try.func22, Try.ntmps22
      go_wp2
      go_ret
      exact ⟨by rw [hcd.out]; rfl, hB.out⟩
end Go.Proofs.Ytplgfghffeijcaa
