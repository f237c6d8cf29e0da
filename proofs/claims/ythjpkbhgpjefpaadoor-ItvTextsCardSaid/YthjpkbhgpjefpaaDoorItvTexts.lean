/- ItvTexts: the walk of the statement's function, with what it calls. -/
import Derived.Test.YthjpkbhgpjefpaaDoorItvTextsCore
import Derived.Test.YthjpkbhgpjefpaaDoorItvRefText
namespace Go.Proofs.YthjpkbhgpjefpaaDoor
open Go.RowKit
set_option linter.unusedVariables false

theorem pI_cases (s : List UInt8) : pIE s = 0 ∨ pIE s = 70 := by
  unfold pIE; split
  · exact .inl rfl
  · exact prE_cases s
theorem itvTexts_walk (w : World) (hE : Env w) (a : Int) (wa : (Lit.int .i64 a).wf = true) (b : Int) (wb : (Lit.int .i64 b).wf = true) (s : ByteArray) (ws : s.size ≤ maxLen) :
    Calls Tryd.prog 7 #[.agg #[.int .i64 a, .int .i64 b], .string s] w (Gives (.bool true) w) := by
  by_cases hm : s.size ≤ 1000
  · have cP := fun w (hE : Env w) => parse_itv (strB (showI (ofL a b) (ofH a b))) (by rw [strB_size]; have := showI_len a b; omega) w hE.1 hE.2
    rw [show (strB (showI (ofL a b) (ofH a b))).data.toList = showI (ofL a b) (ofH a b) from rfl, (pI_show a b).1, (pI_show a b).2.1, (pI_show a b).2.2] at cP
    have cQ := fun w (hE : Env w) => parse_itv s hm w hE.1 hE.2
    have crQ := fun w => rparse_itv s hm w
    rcases pI_cases s.data.toList with h | h
    · rw [h] at cQ crQ
      exact texts_yes w hE a b _ _ _ _ s _ hm (fun w hE => show_itv a b w hE.1) (fun w => rshow_itv a b w) (fun w => rplain_any a b w) cP cQ crQ
    · rw [h] at cQ crQ
      exact texts_no w hE a b _ _ _ _ s _ hm (fun w hE => show_itv a b w hE.1) (fun w => rshow_itv a b w) (fun w => rplain_any a b w) cP cQ crQ
  · have cL := Lib.hid (fun w hE => lives_any w hE)
    have dm : decide ((1000 : Int) < (s.size : Int)) = true := by simp; omega
    obtain ⟨kx, hB, hS⟩ := box1 w a b
    have hE0 := hE.on hB
    clear kx hS
    go_enter Tryd.func7, Tryd.ntmps7
    go_wp2_with fail
    refine (cL.out _ hE0).mono ?_
    rintro e u1 ⟨rfl, h1⟩
    have hB := hB.trans (h1.mono (by simp))
    clear h1 hE0
    go_wp2
    go_ret
    exact ⟨rfl, hB⟩
end Go.Proofs.YthjpkbhgpjefpaaDoor
