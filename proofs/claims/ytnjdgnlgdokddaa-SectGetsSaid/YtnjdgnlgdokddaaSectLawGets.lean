/- SectGets: the walk of the statement's function. -/
import Derived.Test.YtnjdgnlgdokddaaSectRefGet
import Derived.Test.YtnjdgnlgdokddaaSectBack
import Derived.Test.YtnjdgnlgdokddaaSectLives
import Derived.Test.YtnjdgnlgdokddaaSectPuts
import Derived.Test.YtnjdgnlgdokddaaSectRefA
namespace Go.Proofs.Ytnjdgnlgdokddaa
open Go.RowKit
set_option linter.unusedVariables false
set_option linter.unusedSimpArgs false

set_option maxRecDepth 100000 in
set_option maxHeartbeats 4000000 in
theorem sectGets_walk (w : World) (A0 : Option Addr) (n0 c0 : Nat) (B : List Int) (hl0 : B.length = n0) (hm0 : n0 ≤ maxLen) (hc0 : n0 ≤ c0) (hw0 : ∀ n ∈ B, (Lit.int .u8 n).wf = true) (hs0 : Sees .u8 w.heap.size w A0 B) :
    Calls Try.prog 4 #[.slice A0 n0 c0] w (Gives (.bool true) w) := by
  have hB := bs_of_wf hw0
  clear hw0
  unfold maxLen at hm0
  by_cases hbig : 5000 < n0
  · have hbi : (5000 : Int) < (n0 : Int) := by omega
    have hni : (n0 : Int) ≤ 9223372036854775807 := by omega
    clear hl0 hs0
    go_enter Try.func4, Try.ntmps4
    go_wp2_with fail
    refine (slives_any _).mono ?_
    rintro e w1 ⟨rfl, b1⟩
    have b1' := Lib.hid b1
    clear b1
    go_wp2
    go_ret
    exact ⟨rfl, b1'.out⟩
  have hget := Lib.hid (sget_any A0 B n0 c0 hl0.symm (by omega) hc0 hB w hs0)
  have href : Hid (∀ W, Below w.heap.size w W → Calls Try.prog 15 #[.slice A0 n0 c0] W (GetS (getAll B) W)) := Lib.hid (fun W hb => by
    have := rget_any A0 B c0 (by omega) (by omega) hB W ((hs0.below hb).mono hb.size)
    rwa [hl0] at this)
  have hback := Lib.hid (fun h => get_back hB (by omega) h)
  have hcvB : Hid (∀ W, Below w.heap.size w W → (convert 25 9 (.slice A0 n0 c0)).run Try.prog W = .ok (.string (strOfNums B)) W) := Lib.hid (fun W hW => conv_sees _ 9 5 Try.underlying25 Try.underlying5 Try.underlying9 (hs0.below hW) n0 c0 hl0.symm)
  have hni : (n0 : Int) ≤ 5000 := by omega
  clear hl0 hs0 hB hm0
  generalize getAll B = R at *
  obtain ⟨l0, n, e0⟩ := R
  simp only at hback
  go_enter Try.func4, Try.ntmps4
  go_wp2_with fail
  refine hget.out.mono ?_
  rintro e w1 ⟨b1, a1, c1, l1, hl1, rfl, hc1, h16, s1⟩
  simp only at hl1
  have hrf := Lib.hid (href.out w1 b1)
  have b1' := Lib.hid b1
  have s1' := Lib.hid s1
  have hl1' := Lib.hid hl1
  have h16' := Lib.hid h16
  have h16i : (l1.length : Int) ≤ 16 := by omega
  clear hget href b1 s1 hl1 h16
  go_wp2_with fail
  refine hrf.out.mono ?_
  rintro e w2 ⟨b2, a2, c2, l2, hl2, rfl, hc2, g16, s2⟩
  simp only at hl2
  have b2' := Lib.hid (b1'.out.trans (b2.mono b1'.out.size))
  have s12 := Lib.hid ((s1'.out.below b2).mono b2.size)
  have s2' := Lib.hid s2
  have hl2' := Lib.hid hl2
  have g16' := Lib.hid g16
  have g16i : (l2.length : Int) ≤ 16 := by omega
  clear hrf b2 s2 hl2 g16 s1' b1'
  go_wp2_with fail
  refine (slives_any _).mono ?_
  rintro e w3 ⟨rfl, b3⟩
  have b3' := Lib.hid (b2'.out.trans (b3.mono b2'.out.size))
  have s13 := Lib.hid ((s12.out.below b3).mono b3.size)
  have hsm := Lib.hid (rsame_any a1 a2 l1 l2 l1.length l2.length c1 c2 rfl rfl (by have := h16'.out; omega) (by have := g16'.out; omega) w3 s13.out ((s2'.out.below b3).mono b3.size))
  rw [hl1'.out, hl2'.out, show decide (l0 = l0) = true by simp] at hsm
  clear b3 s12 s2' b2'
  go_wp2_with fail
  refine hsm.out.mono ?_
  rintro e w4 ⟨rfl, b4⟩
  have b4' := Lib.hid (b3'.out.trans (b4.mono b3'.out.size))
  have hput := Lib.hid (sput_any a1 l1 l1.length c1 rfl (by have := h16'.out; omega) w4 ((s13.out.below b4).mono b4.size))
  clear b4 hsm s13 b3'
  rw [show PutsS l1 = PutsS l1 from rfl] at hput
  go_wp2_with fail
  refine hput.out.mono ?_
  by_cases he : e0 = 0
  · obtain ⟨hk1, hk2⟩ := hback.out he
    subst he
    rintro e w5 ⟨b5, ⟨hq, a5, c5, rfl, hc5, s5⟩ | ⟨hq, rfl⟩⟩
    · rw [hl1'.out, hk2] at s5 hc5 ⊢
      have b5' := Lib.hid (b4'.out.trans (b5.mono b4'.out.size))
      have hcv5 := conv_sees (P := Try.prog) 25 9 5 Try.underlying25 Try.underlying5 Try.underlying9 s5 B.length c5 rfl
      have hcv6 := hcvB.out w5 b5'.out
      clear s5 hk1 hk2 hq hput hback hcvB b5
      generalize strOfNums B = X at *
      generalize B.length = nB at *
      go_wp2
      go_ret
      exact ⟨rfl, b5'.out⟩
    · rw [hl1'.out] at hq; exact absurd hk1 hq
  · have he1 : (e0 != 0) = true := by simpa using he
    have he2 : (e0 == 0) = false := by simpa using he
    rintro e w5 ⟨b5, ⟨hq, a5, c5, rfl, hc5, s5⟩ | ⟨hq, rfl⟩⟩
    · have b5' := Lib.hid (b4'.out.trans (b5.mono b4'.out.size))
      clear s5 hput hback hcvB b5 hq hc5
      generalize (putL (l1.map absS)).length = nB at *
      go_wp2
      go_ret
      exact ⟨rfl, b5'.out⟩
    · have b5' := Lib.hid (b4'.out.trans (b5.mono b4'.out.size))
      clear hput hback hcvB b5 hq
      generalize checkL (l1.map absS) = y at *
      go_wp2
      go_ret
      exact ⟨rfl, b5'.out⟩
end Go.Proofs.Ytnjdgnlgdokddaa
