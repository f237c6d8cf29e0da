/- The document's Large, Check, Same of sections. -/
import Derived.Test.YtnjdgnlgdokddaaSectSame
namespace Go.Proofs.Ytnjdgnlgdokddaa
open Go.RowKit
set_option linter.unusedVariables false
set_option linter.unusedSimpArgs false

def total (l : List Sc) : Nat := (l.map (·.m)).sum
theorem total_step {l : List Sc} {k : Nat} (hk : k < l.length) : total (l.take (k + 1)) = total (l.take k) + (l.getD k sc0).m := by
  unfold total
  rw [List.take_succ_eq_append_getElem hk, List.map_append, List.sum_append]
  simp [List.getD, hk]
def Larges (l : List Sc) (most : Nat) (w : World) (e : Ending) (w' : World) : Prop := w = w' ∧ (e = .returned (.bool true) ∨ (e = .returned (.bool false) ∧ l.length ≤ 20 ∧ total l ≤ most))
theorem large_any (r : Option Addr) (l : List Sc) (n c most : Nat) (hn : n = l.length) (hl : n ≤ 9223372036854775807) (hmost : most ≤ 2000000) (w : World) (h : SecS w.heap.size w r l) :
    Calls Try.prog 8 #[.slice r n c, .int .i64 most] w (Larges l most w) := by
  by_cases hbig : 20 < n
  · have hni : (20 : Int) < n := by omega
    have hni2 : (n : Int) ≤ 9223372036854775807 := by omega
    clear h hn hl hbig
    go_enter Try.func8, Try.ntmps8
    go_wp2
    go_ret
    exact ⟨rfl, .inl rfl⟩
  · have hni : (n : Int) ≤ 20 := by omega
    have hn' := Lib.hid hn
    have h' := Lib.hid h
    have hmi : (most : Int) ≤ 2000000 := by omega
    clear h hn hl hbig
    go_enter Try.func8, Try.ntmps8
    go_wp2
    go_loop [5, 6] (fun t i => ∃ k s : Nat, k ≤ n ∧ i = .int .i64 k ∧ t = .int .i64 s ∧ Hid (s = total (l.take k)) ∧ s ≤ k * 2000000) (fun _ i => n - (intOf i).toNat)
    case atStart => exact ⟨0, 0, Nat.zero_le _, rfl, rfl, Lib.hid (by simp [total]), by omega⟩
    case round =>
      obtain ⟨k, s, hk, rfl, rfl, hs, hsb⟩ := hrel
      by_cases hlt : k < n
      · obtain ⟨b, off, rfl, -, e1, e2, ok⟩ := h'.out.at_ (i := k) (by have := hn'.out; omega)
        have hst := Lib.hid (total_step (l := l) (k := k) (by have := hn'.out; omega))
        have hmx : (l.getD k sc0).m ≤ maxLen := ok.2.2.2.1
        unfold maxLen at hmx
        clear ok
        generalize (l.getD k sc0).tag = tg at *
        generalize (l.getD k sc0).a = ad at *
        generalize (l.getD k sc0).m = mm at *
        generalize (l.getD k sc0).c = cc at *
        by_cases hlong : most < mm
        · have hd : (most : Int) < (mm : Int) := by omega
          clear hst hs hlong
          go_wp2
          go_ret
          exact ⟨rfl, .inl rfl⟩
        · have hd : ¬ (most : Int) < (mm : Int) := by omega
          have hs2 : Hid (s + mm = total (l.take (k + 1))) := Lib.hid (by rw [hst.out, ← hs.out])
          have hsb2 : s + mm ≤ (k + 1) * 2000000 := by omega
          clear hst hs hlong
          have hsi : (s : Int) ≤ 40000000 := by omega
          have hmi2 : (mm : Int) ≤ 2000000 := by omega
          go_wp2
          go_round
          case rel => exact ⟨k + 1, s + mm, by omega, by go_num, by go_num, hs2, hsb2⟩
          case measure => simp [intOf]; omega
      · have hkn : k = n := by omega
        have htot : Hid (s = total l) := Lib.hid (by
          have := hs.out
          rwa [List.take_of_length_le (by have := hn'.out; omega)] at this)
        have hsi : (s : Int) ≤ 40000000 := by omega
        by_cases hm : most < s
        · have hd : decide ((most : Int) < (s : Int)) = true := by simp; omega
          clear hs
          go_wp2
          go_ret
          exact ⟨rfl, .inl rfl⟩
        · have hd : decide ((most : Int) < (s : Int)) = false := by simp; omega
          clear hs
          go_wp2
          go_ret
          exact ⟨rfl, .inr ⟨rfl, by have := hn'.out; omega, by have := htot.out; omega⟩⟩

set_option maxRecDepth 100000 in
theorem rcheck_any (r : Option Addr) (l : List Sc) (n c : Nat) (hn : n = l.length) (hl : n ≤ 9223372036854775807) (w : World) (h : SecS w.heap.size w r l) :
    Calls Try.prog 11 #[.slice r n c] w fun e w' => e = .returned (.int .i64 (checkL (l.map absS))) ∧ w = w' := by
  have hlen : (l.map absS).length = n := by simp [hn]
  by_cases hbig : 16 < n
  · have hr : checkL (l.map absS) = 3 := by unfold checkL; rw [if_pos (by omega)]
    rw [hr]
    have hni : (16 : Int) < n := by omega
    have hni2 : (n : Int) ≤ 9223372036854775807 := by omega
    clear h hbig hl hlen
    go_enter Try.func11, Try.ntmps11
    go_wp2
    go_ret
    exact ⟨rfl, rfl⟩
  have hal := any_long h.ok
  have hni : (n : Int) ≤ 16 := by omega
  have hn' := Lib.hid hn
  have h' := Lib.hid h
  have hr : Hid (checkL (l.map absS) = if longAny l then 3 else if risesL 0 (l.map (·.tag)) then 0 else 41) := Lib.hid (by
    unfold checkL
    rw [if_neg (by omega), ← hal]
    have : (l.map absS).map (·.1) = l.map (·.tag) := by simp [absS]
    rw [this])
  clear hal h hbig hl hlen hn
  go_enter Try.func11, Try.ntmps11
  go_wp2
  go_loop [3] (fun i => ∃ k : Nat, k ≤ n ∧ i = .int .i64 k ∧ Hid (longAny (l.take k) = false)) (fun i => n - (intOf i).toNat)
  case atStart => exact ⟨0, Nat.zero_le _, rfl, Lib.hid (by simp [longAny])⟩
  case round =>
    obtain ⟨k, hk, rfl, hs⟩ := hrel
    by_cases hlt : k < n
    · have hkl : k < l.length := by have := hn'.out; omega
      obtain ⟨b, off, rfl, -, e1, e2, ok⟩ := h'.out.at_ (i := k) hkl
      have hmx : (l.getD k sc0).m ≤ maxLen := ok.2.2.2.1
      unfold maxLen at hmx
      have hst : Hid (longAny (l.take (k + 1)) = (longAny (l.take k) || decide ((1048576 : Int) < (l.getD k sc0).m))) := Lib.hid (by
        unfold longAny
        rw [List.take_succ_eq_append_getElem hkl, List.any_append]
        simp [List.getD, hkl])
      have hall : Hid (decide ((1048576 : Int) < (l.getD k sc0).m) = true → longAny l = true) := Lib.hid (fun hp => by
        rw [longAny, List.any_eq_true]
        exact ⟨l.getD k sc0, by simp [List.getD, hkl], hp⟩)
      clear ok hkl
      generalize (l.getD k sc0).tag = tg at *
      generalize (l.getD k sc0).a = ad at *
      generalize (l.getD k sc0).m = mm at *
      generalize (l.getD k sc0).c = cc at *
      by_cases hlong : (1048576 : Int) < (mm : Int)
      · have hr2 : Hid (checkL (l.map absS) = 3) := Lib.hid (by rw [hr.out, hall.out (decide_eq_true hlong)]; rfl)
        clear hst hs hall hr
        go_wp2
        go_ret
        exact ⟨by rw [hr2.out]; rfl, rfl⟩
      · have hs2 : Hid (longAny (l.take (k + 1)) = false) := Lib.hid (by rw [hst.out, hs.out, decide_eq_false hlong]; rfl)
        clear hst hs hall
        go_wp2
        go_round
        case rel => exact ⟨k + 1, by omega, by go_num, hs2⟩
        case measure => simp [intOf]; omega
    · have hr2 : Hid (checkL (l.map absS) = if risesL 0 (l.map (·.tag)) then 0 else 41) := Lib.hid (by
        have := hs.out
        rw [List.take_of_length_le (by have := hn'.out; omega)] at this
        rw [hr.out, this]; rfl)
      clear hs hr
      go_wp2
      clear hk hlt
      go_loop [4, 5] (fun t i => ∃ (k : Nat) (last : Int), k ≤ n ∧ i = .int .i64 k ∧ t = .int .i64 last ∧ Hid (risesL 0 (l.map (·.tag)) = risesL last ((l.map (·.tag)).drop k))) (fun _ i => n - (intOf i).toNat)
      case atStart => exact ⟨0, 0, Nat.zero_le _, rfl, rfl, Lib.hid (by simp)⟩
      case round =>
        obtain ⟨k, last, hk, rfl, rfl, hs⟩ := hrel
        by_cases hlt : k < n
        · obtain ⟨b, off, rfl, -, e1, e2, -⟩ := h'.out.at_ (i := k) (by have := hn'.out; omega)
          have hst := Lib.hid (rises_step (l := l) (k := k) (by have := hn'.out; omega) last)
          generalize (l.getD k sc0).tag = tg at *
          generalize (l.getD k sc0).a = ad at *
          generalize (l.getD k sc0).m = mm at *
          generalize (l.getD k sc0).c = cc at *
          by_cases hfv : last < tg ∧ tg ≤ 255
          · have hs2 : Hid (risesL 0 (l.map (·.tag)) = risesL tg ((l.map (·.tag)).drop (k + 1))) := Lib.hid (by rw [hs.out, hst.out, decide_eq_true hfv.1, decide_eq_true hfv.2]; rfl)
            obtain ⟨f1, f2⟩ := hfv
            clear hs hst
            go_wp2
            go_round
            case rel => exact ⟨k + 1, tg, by omega, by go_num, rfl, hs2⟩
            case measure => simp [intOf]; omega
          · have hr3 : Hid (checkL (l.map absS) = 41) := Lib.hid (by
              rw [hr2.out, hs.out, hst.out]
              have : (decide (last < tg) && decide (tg ≤ 255)) = false := by
                rw [Bool.and_eq_false_iff, decide_eq_false_iff_not, decide_eq_false_iff_not]
                by_cases h1 : last < tg
                · right; exact fun h2 => hfv ⟨h1, h2⟩
                · left; exact h1
              rw [this]; rfl)
            clear hs hst hr2
            by_cases f1 : last < tg
            · have f2 : ¬ tg ≤ 255 := fun h2 => hfv ⟨f1, h2⟩
              clear hfv
              go_wp2
              go_ret
              exact ⟨by rw [hr3.out]; rfl, rfl⟩
            · clear hfv
              go_wp2
              go_ret
              exact ⟨by rw [hr3.out]; rfl, rfl⟩
        · have hr3 : Hid (checkL (l.map absS) = 0) := Lib.hid (by
            rw [hr2.out, hs.out, List.drop_of_length_le (by have := hn'.out; simp; omega)]; rfl)
          clear hs hr2
          go_wp2
          go_ret
          exact ⟨by rw [hr3.out]; rfl, rfl⟩

set_option maxRecDepth 100000 in
theorem rsame_any (r1 r2 : Option Addr) (l1 l2 : List Sc) (n1 n2 c1 c2 : Nat) (h1 : n1 = l1.length) (h2 : n2 = l2.length) (hl : n1 ≤ 9223372036854775807) (hl2 : n2 ≤ 9223372036854775807) (w : World) (s1 : SecS w.heap.size w r1 l1) (s2 : SecS w.heap.size w r2 l2) :
    Calls Try.prog 14 #[.slice r1 n1 c1, .slice r2 n2 c2] w (Gives (.bool (decide (l1.map absS = l2.map absS))) w) := by
  by_cases hn : n1 = n2
  · subst hn
    have hli : (n1 : Int) ≤ 9223372036854775807 := by omega
    have h1' := Lib.hid h1
    have h2' := Lib.hid h2
    have s1' := Lib.hid s1
    have s2' := Lib.hid s2
    clear h1 h2 s1 s2 hl hl2
    go_enter Try.func14, Try.ntmps14
    go_wp2
    go_loopw [5] (fun i wr => ∃ k : Nat, k ≤ n1 ∧ i = .int .i64 k ∧ Hid ((l1.take k).map absS = (l2.take k).map absS) ∧ Hid (Below w.heap.size w wr)) (fun i _ => n1 - (intOf i).toNat)
    case atStart => exact ⟨0, Nat.zero_le _, rfl, Lib.hid (by simp), Lib.hid (Below.refl _ _)⟩
    case round =>
      obtain ⟨k, hk, rfl, he, hB⟩ := hrel
      by_cases hlt : k < n1
      · have hk1 : k < l1.length := by have := h1'.out; omega
        have hk2 : k < l2.length := by have := h2'.out; omega
        obtain ⟨b1, o1, rfl, hb1, e1, e2, ok1⟩ := (s1'.out.below hB.out).at_ hk1
        obtain ⟨b2, o2, rfl, hb2, g1, g2, ok2⟩ := (s2'.out.below hB.out).at_ hk2
        have hcv1 := fun q => conv_sees (P := Try.prog) 25 9 5 Try.underlying25 Try.underlying5 Try.underlying9 (ok1.2.2.2.2.2.drewN q) (l1.getD k sc0).m (l1.getD k sc0).c ok1.2.1
        have hcv2 := fun q => conv_sees (P := Try.prog) 25 9 5 Try.underlying25 Try.underlying5 Try.underlying9 (ok2.2.2.2.2.2.drewN q) (l2.getD k sc0).m (l2.getD k sc0).c ok2.2.1
        have hyes : Hid (absS (l1.getD k sc0) = absS (l2.getD k sc0) → (l1.take (k + 1)).map absS = (l2.take (k + 1)).map absS) := Lib.hid (same_step hk1 hk2 he.out)
        have hno : Hid (absS (l1.getD k sc0) ≠ absS (l2.getD k sc0) → decide (l1.map absS = l2.map absS) = false) := Lib.hid (same_no hk1 hk2)
        have hab : absS (l1.getD k sc0) = absS (l2.getD k sc0) ↔ (l1.getD k sc0).tag = (l2.getD k sc0).tag ∧ (l1.getD k sc0).b = (l2.getD k sc0).b := by simp [absS, Prod.ext_iff]
        have hne : ¬ (l1.getD k sc0).b = (l2.getD k sc0).b → ((strOfNums (l1.getD k sc0).b).toList == (strOfNums (l2.getD k sc0).b).toList) = false := str_ne ok1.2.2.2.2.1 ok2.2.2.2.2.1
        rw [hab] at hyes
        have hno' : Hid (¬ ((l1.getD k sc0).tag = (l2.getD k sc0).tag ∧ (l1.getD k sc0).b = (l2.getD k sc0).b) → decide (l1.map absS = l2.map absS) = false) := Lib.hid (fun q => hno.out (fun z => q (hab.1 z)))
        have hne' := Lib.hid hne
        clear ok1 ok2 hk1 hk2 he hb1 hb2 hab hno hne
        generalize (l1.getD k sc0).tag = tg at *
        generalize (l1.getD k sc0).a = ad at *
        generalize (l1.getD k sc0).m = mm at *
        generalize (l1.getD k sc0).c = cc at *
        generalize (l1.getD k sc0).b = bb at *
        generalize (l2.getD k sc0).tag = tg2 at *
        generalize (l2.getD k sc0).a = ad2 at *
        generalize (l2.getD k sc0).m = mm2 at *
        generalize (l2.getD k sc0).c = cc2 at *
        generalize (l2.getD k sc0).b = bb2 at *
        by_cases ht : tg = tg2
        · by_cases hbb : bb = bb2
          · have hy := Lib.hid (hyes.out ⟨ht, hbb⟩)
            subst ht
            subst hbb
            clear hyes hno' hne'
            generalize strOfNums bb = x1 at *
            go_wp2
            go_quiet (fail)
            go_wp2
            go_roundw
            case rel => exact ⟨k + 1, by omega, by go_num, hy, Lib.hid (Below.drewN hB.out nq)⟩
            case measure => simp [intOf]; omega
          · have hn2 := Lib.hid (hno'.out (fun q => hbb q.2))
            have hnq := hne'.out hbb
            subst ht
            clear hyes hno' hne' hbb
            generalize strOfNums bb = x1 at *
            generalize strOfNums bb2 = x2 at *
            go_wp2
            go_quiet (fail)
            go_wp2
            go_ret
            exact ⟨by rw [hn2.out]; rfl, Below.drewN hB.out nq⟩
        · have hn2 := Lib.hid (hno'.out (fun q => ht q.1))
          have ht2 : (tg == tg2) = false := by simpa using ht
          have ht3 : (tg != tg2) = true := by simpa using ht
          clear hyes hno' hne'
          generalize strOfNums bb = x1 at *
          generalize strOfNums bb2 = x2 at *
          go_wp2
          go_quiet (fail)
          go_wp2
          go_ret
          exact ⟨by rw [hn2.out]; rfl, Below.drewN hB.out nq⟩
      · have hl : decide (l1.map absS = l2.map absS) = true := by
          have hkn : k = n1 := by omega
          have := he.out
          rw [hkn, List.take_of_length_le (by have := h1'.out; omega), List.take_of_length_le (by have := h2'.out; omega)] at this
          simpa using this
        have hl' := Lib.hid hl
        clear hl he
        go_wp2
        go_ret
        exact ⟨by rw [hl'.out]; rfl, hB.out⟩
  · have hl3 : decide (l1.map absS = l2.map absS) = false := by
      rw [decide_eq_false_iff_not]
      intro e
      have := congrArg List.length e
      simp at this
      omega
    rw [hl3]
    have hi1 : (n1 : Int) ≠ (n2 : Int) := by omega
    have hi2 : ((n1 : Int) != (n2 : Int)) = true := by simpa using hi1
    clear h1 h2 s1 s2 hl hl2 hn hl3
    go_enter Try.func14, Try.ntmps14
    go_wp2
    go_ret
    exact ⟨rfl, Below.refl _ _⟩
end Go.Proofs.Ytnjdgnlgdokddaa
