/- The place of a text in a table: of both. -/
import Derived.Test.YtkfgfbdlbiahkaaStrsSame
namespace Go.Proofs.Ytkfgfbdlbiahkaa
open Go.RowKit
set_option linter.unusedVariables false
set_option linter.unusedSimpArgs false

def findT (l : List ByteArray) (s : ByteArray) : Nat × Bool := if checkT l = 0 then (match l.findIdx? (fun x => decide (x = s)) with | some i => (i, true) | none => (0, false)) else (0, false)
theorem cmp_cases : ∀ a b : B8, (Lib.compareBytes a b = -1 ∧ lt8 a b = true) ∨ (Lib.compareBytes a b = 0 ∧ a = b) ∨ (Lib.compareBytes a b = 1 ∧ lt8 b a = true)
  | [], [] => .inr (.inl ⟨rfl, rfl⟩)
  | [], _ :: _ => .inl ⟨rfl, rfl⟩
  | _ :: _, [] => .inr (.inr ⟨rfl, rfl⟩)
  | x :: a, y :: b => by
    unfold Lib.compareBytes lt8 Op.bytesLess
    by_cases h : x < y
    · left; rw [if_pos h]; simp [h]
    · rw [if_neg h]
      by_cases k : y < x
      · right; right; rw [if_pos k]; simp [k]
      · rw [if_neg k]
        have e : x = y := by
          have h1 := UInt8.not_lt.1 h
          have h2 := UInt8.not_lt.1 k
          exact UInt8.le_antisymm h2 h1
        subst e
        rcases cmp_cases a b with ⟨h1, h2⟩ | ⟨h1, h2⟩ | ⟨h1, h2⟩
        · exact .inl ⟨h1, by unfold lt8 at h2; simp [h2]⟩
        · exact .inr (.inl ⟨h1, by rw [h2]⟩)
        · exact .inr (.inr ⟨h1, by unfold lt8 at h2; simp [h2]⟩)
theorem find_some {l : List ByteArray} {s : ByteArray} {k : Nat} (hc : checkT l = 0) (hk : k < l.length) (h : l.getD k e0 = s) (hal : ∀ t, t < k → l.getD t e0 ≠ s) : findT l s = (k, true) := by
  have : l.findIdx? (fun x => decide (x = s)) = some k := by
    rw [List.findIdx?_eq_some_iff_getElem]
    refine ⟨hk, ?_, fun j hj => ?_⟩
    · have : l[k] = s := by simpa [List.getD, hk] using h
      simpa using this
    · have := hal j hj
      simpa [List.getD, show j < l.length by omega] using this
  unfold findT
  rw [if_pos hc, this]
theorem find_none {l : List ByteArray} {s : ByteArray} (hal : ∀ t, t < l.length → l.getD t e0 ≠ s) : findT l s = (0, false) := by
  unfold findT
  split
  · have : l.findIdx? (fun x => decide (x = s)) = none := by
      rw [List.findIdx?_eq_none_iff]
      intro x hx
      obtain ⟨t, ht, rfl⟩ := List.getElem_of_mem hx
      have := hal t ht
      simpa [List.getD, ht] using this
    rw [this]
  · rfl
theorem find_bad {l : List ByteArray} {s : ByteArray} (hc : checkT l ≠ 0) : findT l s = (0, false) := by unfold findT; rw [if_neg hc]
theorem check_len {l : List ByteArray} (hc : checkT l = 0) : l.length ≤ 4096 ∧ ascB l = true := by
  unfold checkT at hc
  split at hc
  · cases hc
  · rename_i h
    rw [not_or] at h
    cases ha : ascB l
    · rw [ha] at hc; cases hc
    · exact ⟨by omega, rfl⟩
theorem asc_lt {l : List ByteArray} (h : ascB l = true) : ∀ {j t : Nat}, t < j → j < l.length → lt8 (byt (l.getD t e0)) (byt (l.getD j e0)) = true
  | 0, t, htj, hj => by omega
  | j + 1, t, htj, hj => by
    have h1 : lt8 (byt (l.getD j e0)) (byt (l.getD (j + 1) e0)) = true := by
      unfold ascB at h
      exact List.all_eq_true.1 h j (by simp; omega)
    by_cases e : t = j
    · rw [e]; exact h1
    · exact lt8_trans (asc_lt h (j := j) (by omega) (by omega)) h1
set_option maxRecDepth 100000 in
theorem scmp_any (a b : ByteArray) (w : World) : Calls Try.prog 41 #[.string a, .string b] w fun e w' => e = .returned (.int .i64 (Lib.compareBytes (byt a) (byt b))) ∧ w' = w := Try.strings_Compare a b w
set_option maxRecDepth 100000 in
set_option maxHeartbeats 2000000 in
theorem search_any (a : Option Addr) (n c : Nat) (l : List ByteArray) (s : ByteArray) (hn : n ≤ 4096) (hasc : ascB l = true) (w : World) (h : TT w a n c l) :
    Calls Try.prog 40 #[.slice a n c, .string s, .func (.func 41) #[] #[]] w fun e w' => (∃ i : Nat, i ≤ n ∧ (∀ t, t < i → lt8 (byt (l.getD t e0)) (byt s) = true) ∧ (∀ t, i ≤ t → t < n → lt8 (byt (l.getD t e0)) (byt s) = false) ∧ e = .returned (.tuple #[.int .i64 i, .bool (decide (i < n) && decide (l.getD i e0 = s))])) ∧ w = w' := by
  have hlen := Lib.hid h.len
  have hT := Lib.hid h
  have hq := Lib.hid (fun x W => scmp_any x s W)
  have hlt := Lib.hid (fun t j h1 h2 => asc_lt hasc (t := t) (j := j) h1 h2)
  clear h hasc
  go_enter Try.func40, Try.ntmps40
  go_wp2
  go_loop [9, 10] (fun x y => ∃ i j : Nat, i ≤ j ∧ j ≤ n ∧ x = .int .i64 i ∧ y = .int .i64 j ∧ Hid (∀ t, t < i → lt8 (byt (l.getD t e0)) (byt s) = true) ∧ Hid (∀ t, j ≤ t → t < n → lt8 (byt (l.getD t e0)) (byt s) = false)) (fun x y => (intOf y).toNat - (intOf x).toNat)
  case atStart => exact ⟨0, n, by omega, by omega, rfl, rfl, Lib.hid (by intro t ht; omega), Lib.hid (by intro t h1 h2; omega)⟩
  case round =>
    obtain ⟨i, j, hij, hj, rfl, rfl, hlo, hhi⟩ := hrel
    by_cases hne : i < j
    · have hii : (i : Int) < (j : Int) := by omega
      obtain ⟨h, hh⟩ : ∃ h : Nat, h = (i + j) / 2 := ⟨_, rfl⟩
      have h1 : i ≤ h := by omega
      have h2 : h < j := by omega
      have hhi2 : ((i : Int) + (j : Int)) / 2 = (h : Int) := by omega
      have hkl : h < l.length := by rw [← hlen.out]; omega
      obtain ⟨b, off, rfl, -, hc⟩ := hT.out.at_ hkl
      have x0 := hc h hkl
      have hjn : (j : Int) ≤ 4096 := by omega
      have hin : (i : Int) ≤ 4096 := by omega
      have hhn : (h : Int) < (n : Int) := by omega
      have hhn2 : h < n := by omega
      clear hc hh
      have hc3 := cmp_cases (byt (l.getD h e0)) (byt s)
      have hq' := Lib.hid (hq.out (l.getD h e0))
      have hup : Hid (lt8 (byt (l.getD h e0)) (byt s) = true → ∀ t, t < h + 1 → lt8 (byt (l.getD t e0)) (byt s) = true) := Lib.hid (fun hh t ht => by
        by_cases e : t = h
        · rw [e]; exact hh
        · exact lt8_trans (hlt.out t h (by omega) hkl) hh)
      have hdn : Hid (lt8 (byt (l.getD h e0)) (byt s) = false → ∀ t, h ≤ t → t < n → lt8 (byt (l.getD t e0)) (byt s) = false) := Lib.hid (fun hh t h0 ht => by
        by_cases e : t = h
        · rw [e]; exact hh
        · cases k : lt8 (byt (l.getD t e0)) (byt s)
          · rfl
          · have := lt8_trans (hlt.out h t (by omega) (by rw [← hlen.out]; exact ht)) k
            rw [hh] at this
            cases this)
      clear hkl hq hlt
      generalize l.getD h e0 = x at *
      generalize Lib.compareBytes (byt x) (byt s) = cv at *
      by_cases hneg : cv < 0
      · have hS := Lib.hid (hup.out (by rcases hc3 with ⟨h1, h2⟩ | ⟨h1, h2⟩ | ⟨h1, h2⟩ <;> first | exact h2 | omega))
        clear hup hdn hc3
        go_wp2_with fail
        refine (hq'.out _).mono ?_
        rintro e w1 ⟨rfl, rfl⟩
        go_wp2
        go_round
        case rel => exact ⟨h + 1, j, by omega, by omega, by go_num, rfl, hS, hhi⟩
        case measure => simp [intOf]; omega
      · have hS := Lib.hid (hdn.out (by
          rcases hc3 with ⟨h1, h2⟩ | ⟨h1, h2⟩ | ⟨h1, h2⟩
          · omega
          · rw [h2]; exact lt8_irrefl _
          · exact lt8_asymm h2))
        clear hup hdn hc3
        go_wp2_with fail
        refine (hq'.out _).mono ?_
        rintro e w1 ⟨rfl, rfl⟩
        go_wp2
        go_round
        case rel => exact ⟨i, h, by omega, by omega, by first | trivial | rfl, rfl, hlo, hS⟩
        case measure => simp [intOf]; omega
    · have hji : i = j := by omega
      subst hji
      have hii : ¬ (i : Int) < (i : Int) := by omega
      by_cases hin : i < n
      · have hkl : i < l.length := by rw [← hlen.out]; exact hin
        obtain ⟨b, off, rfl, -, hc⟩ := hT.out.at_ hkl
        have x0 := hc i hkl
        have hini : (i : Int) < (n : Int) := by omega
        have hq' := Lib.hid (hq.out (l.getD i e0))
        have hc3 := cmp_cases (byt (l.getD i e0)) (byt s)
        have heq : Hid ((Lib.compareBytes (byt (l.getD i e0)) (byt s) == 0) = decide (l.getD i e0 = s)) := Lib.hid (by
          rcases hc3 with ⟨h1, h2⟩ | ⟨h1, h2⟩ | ⟨h1, h2⟩
          · rw [h1, decide_eq_false (fun e => by rw [e, lt8_irrefl] at h2; cases h2)]; rfl
          · rw [h1, decide_eq_true (byt_inj h2)]; rfl
          · rw [h1, decide_eq_false (fun e => by rw [e, lt8_irrefl] at h2; cases h2)]; rfl)
        have hfin : Hid (∀ y, y = decide (l.getD i e0 = s) → (∃ i' : Nat, i' ≤ n ∧ (∀ t, t < i' → lt8 (byt (l.getD t e0)) (byt s) = true) ∧ (∀ t, i' ≤ t → t < n → lt8 (byt (l.getD t e0)) (byt s) = false) ∧ Ending.returned (.tuple #[.int .i64 (i : Int), .bool y]) = .returned (.tuple #[.int .i64 i', .bool (decide (i' < n) && decide (l.getD i' e0 = s))]))) := Lib.hid (fun y hy => ⟨i, hj, hlo.out, hhi.out, by rw [hy, decide_eq_true hin, Bool.true_and]⟩)
        clear hc hc3 hkl hq hlt hlo hhi
        generalize l.getD i e0 = x at *
        generalize Lib.compareBytes (byt x) (byt s) = cv at *
        have hF := Lib.hid (hfin.out _ heq.out)
        clear hfin heq
        cases hy : (cv == 0)
        all_goals
          rw [hy] at hF
          go_wp2_with fail
          refine (hq'.out _).mono ?_
          rintro e w1 ⟨rfl, rfl⟩
          go_wp2
          go_ret2
          exact ⟨hF.out, rfl⟩
      · have hini : ¬ (i : Int) < (n : Int) := by omega
        have hfin : Hid ((∃ i' : Nat, i' ≤ n ∧ (∀ t, t < i' → lt8 (byt (l.getD t e0)) (byt s) = true) ∧ (∀ t, i' ≤ t → t < n → lt8 (byt (l.getD t e0)) (byt s) = false) ∧ Ending.returned (.tuple #[.int .i64 (i : Int), .bool false]) = .returned (.tuple #[.int .i64 i', .bool (decide (i' < n) && decide (l.getD i' e0 = s))]))) := Lib.hid ⟨i, hj, hlo.out, hhi.out, by rw [decide_eq_false hin, Bool.false_and]⟩
        clear hin hlo hhi hq hlt
        go_wp2
        go_ret2
        exact ⟨hfin.out, rfl⟩
set_option maxRecDepth 100000 in
set_option maxHeartbeats 2000000 in
theorem find_any (a : Option Addr) (n c : Nat) (l : List ByteArray) (s : ByteArray) (hn : n ≤ 9223372036854775806) (w : World) (h : TT w a n c l) : Calls Try.prog 15 #[.slice a n c, .string s] w (DrawnB (.tuple #[.int .i64 (findT l s).1, .bool (findT l s).2]) w) := by
  have hq := Lib.hid (check_any a n c l hn w h)
  by_cases hc : checkT l = 0
  · obtain ⟨h1, h2⟩ := check_len hc
    have hlen := h.len
    have hs := Lib.hid (fun W hW => search_any a n c l s (by omega) h2 W hW)
    rw [hc] at hq
    have hT := Lib.hid h
    have hfin : Hid (∀ i : Nat, i ≤ n → (∀ t, t < i → lt8 (byt (l.getD t e0)) (byt s) = true) → (∀ t, i ≤ t → t < n → lt8 (byt (l.getD t e0)) (byt s) = false) → findT l s = if (decide (i < n) && decide (l.getD i e0 = s)) = true then (i, true) else (0, false)) := Lib.hid (fun i hi hlo hhi => by
      by_cases hx : (decide (i < n) && decide (l.getD i e0 = s)) = true
      · rw [if_pos hx]
        rw [Bool.and_eq_true, decide_eq_true_eq, decide_eq_true_eq] at hx
        exact find_some hc (by omega) hx.2 (fun t ht e => by have := hlo t ht; rw [e, lt8_irrefl] at this; cases this)
      · rw [if_neg hx]
        refine find_none fun t ht e => ?_
        by_cases h0 : t < i
        · have := hlo t h0; rw [e, lt8_irrefl] at this; cases this
        · by_cases h3 : t = i
          · subst h3
            apply hx
            rw [decide_eq_true (show t < n by omega), decide_eq_true e]
            rfl
          · have h4 := asc_lt h2 (t := i) (j := t) (by omega) ht
            rw [e, hhi i (Nat.le_refl _) (by omega)] at h4
            cases h4)
    clear h h2 hc hlen
    go_enter Try.func15, Try.ntmps15
    go_wp2_with fail
    refine hq.out.mono ?_
    rintro e w1 ⟨rfl, m, rfl⟩
    have hs2 := Lib.hid (hs.out _ (hT.out.drewN m))
    clear hq hs
    go_wp2_with fail
    refine hs2.out.mono ?_
    rintro e w1 ⟨⟨i, hi, hlo, hhi, rfl⟩, rfl⟩
    have hF := Lib.hid (hfin.out i hi hlo hhi)
    clear hlo hhi hfin hs2
    generalize (decide (i < n) && decide (l.getD i e0 = s)) = y at *
    cases y
    · go_wp2
      go_ret2
      exact ⟨by rw [hF.out]; rfl, m, rfl⟩
    · go_wp2
      go_ret2
      exact ⟨by rw [hF.out]; rfl, m, rfl⟩
  · have hF := Lib.hid (find_bad (s := s) hc)
    have hcb : (checkT l != 0) = true := by simpa using hc
    clear h hc
    generalize checkT l = x at *
    go_enter Try.func15, Try.ntmps15
    go_wp2_with fail
    refine hq.out.mono ?_
    rintro e w1 ⟨rfl, m, rfl⟩
    go_wp2
    go_ret2
    exact ⟨by rw [hF.out]; rfl, m, rfl⟩
set_option maxRecDepth 100000 in
set_option maxHeartbeats 2000000 in
theorem rfind_any (a : Option Addr) (n c : Nat) (l : List ByteArray) (s : ByteArray) (hn : n ≤ 9223372036854775806) (w : World) (h : TT w a n c l) : Calls Try.prog 16 #[.slice a n c, .string s] w (DrawnB (.tuple #[.int .i64 (findT l s).1, .bool (findT l s).2]) w) := by
  have hq := Lib.hid (rcheck_any a n c l w h)
  by_cases hc : checkT l = 0
  · have hlen := Lib.hid h.len
    rw [hc] at hq
    have hT := Lib.hid h
    have hsome := Lib.hid (fun k h1 h2 h3 => find_some (l := l) (s := s) (k := k) hc h1 h2 h3)
    have hnone := Lib.hid (fun h => find_none (l := l) (s := s) h)
    have hl4 := (check_len hc).1
    rw [← hlen.out] at hl4
    clear h hc
    go_enter Try.func16, Try.ntmps16
    go_wp2_with fail
    refine hq.out.mono ?_
    rintro e w1 ⟨rfl, m, rfl⟩
    clear hq
    go_wp2
    go_loop [6] (fun x => ∃ k : Nat, k ≤ n ∧ x = .int .i64 k ∧ Hid (∀ t, t < k → l.getD t e0 ≠ s)) (fun x => n - (intOf x).toNat)
    case atStart => exact ⟨0, by omega, rfl, Lib.hid (by intro t ht; omega)⟩
    case round =>
      obtain ⟨k, hk, rfl, hal⟩ := hrel
      by_cases hlt : k < n
      · have hki : (k : Int) < (n : Int) := by omega
        have hki2 : (k : Int) ≤ 4096 := by omega
        have hkl : k < l.length := by rw [← hlen.out]; exact hlt
        obtain ⟨b, off, rfl, -, hc⟩ := (hT.out.drewN m).at_ hkl
        have i0 := hc k hkl
        have hY := Lib.hid (fun h => hsome.out k hkl h hal.out)
        have hN : Hid (l.getD k e0 ≠ s → ∀ t, t < k + 1 → l.getD t e0 ≠ s) := Lib.hid (fun h t ht => by
          by_cases e : t = k
          · rw [e]; exact h
          · exact hal.out t (by omega))
        clear hc hal hT hkl hsome hnone
        generalize l.getD k e0 = x at *
        by_cases hxs : x = s
        · have hF := Lib.hid (hY.out hxs)
          have e1 : (x.toList == s.toList) = true := by rw [txt_eq]; exact decide_eq_true hxs
          clear hxs hY hN
          go_wp2
          go_ret2
          exact ⟨by rw [hF.out]; rfl, m, rfl⟩
        · have hS := Lib.hid (hN.out hxs)
          have e1 : (x.toList == s.toList) = false := by rw [txt_eq]; exact decide_eq_false hxs
          clear hxs hY hN
          go_wp2
          go_round
          case rel => exact ⟨k + 1, by omega, by go_num, hS⟩
          case measure => simp [intOf]; omega
      · have hki : ¬ (k : Int) < (n : Int) := by omega
        have hF := Lib.hid (hnone.out (fun t ht => hal.out t (by have := hlen.out; omega)))
        clear hal hlt hnone hsome
        go_wp2
        go_ret2
        exact ⟨by rw [hF.out]; rfl, m, rfl⟩
  · have hF := Lib.hid (find_bad (s := s) hc)
    have hcb : (checkT l != 0) = true := by simpa using hc
    clear h hc
    generalize checkT l = x at *
    go_enter Try.func16, Try.ntmps16
    go_wp2_with fail
    refine hq.out.mono ?_
    rintro e w1 ⟨rfl, m, rfl⟩
    go_wp2
    go_ret2
    exact ⟨by rw [hF.out]; rfl, m, rfl⟩
end Go.Proofs.Ytkfgfbdlbiahkaa
