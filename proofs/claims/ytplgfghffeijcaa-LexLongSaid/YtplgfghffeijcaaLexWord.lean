/- Words, and texts that may be printed. -/
import Derived.Test.YtplgfghffeijcaaLexWalk
namespace Go.Proofs.Ytplgfghffeijcaa
open Go.RowKit
set_option linter.unusedVariables false
set_option linter.unusedSimpArgs false

def wordL (l : List Int) : Bool := !l.isEmpty && l.all wdB
def GivesB (v : Value) (w : World) (e : Ending) (w' : World) : Prop := e = .returned v ∧ Below w.heap.size w w'
theorem iter_below (w : World) (s : ByteArray) (p : Nat) : Below w.heap.size w (w.iter s p) := lit_below w _
theorem all_no {f : Int → Bool} {l : List Int} {p : Nat} (hp : p < l.length) (h : f (l.getD p 0) = false) : l.all f = false := by
  rw [List.all_eq_false]
  refine ⟨l.getD p 0, ?_, by rw [h]; simp⟩
  simp [List.getD, hp]
theorem all_yes {f : Int → Bool} {l : List Int} (h : ∀ t, t < l.length → f (l.getD t 0) = true) : l.all f = true := by
  rw [List.all_eq_true]
  intro x hx
  obtain ⟨k, hk, rfl⟩ := List.getElem_of_mem hx
  have := h k hk
  simpa [List.getD, hk] using this
/-- What is read at a place: f of the rune is f of the byte, and one byte where f holds. -/
theorem rune_f (f : Int → Bool) (hf : ∀ c, 127 ≤ c → f c = false) (s : ByteArray) (pos : Nat) (hp : pos < s.size) :
    f ((Utf8.decode s pos).1 : Int) = f ((codes s).getD pos 0) ∧ (f ((Utf8.decode s pos).1 : Int) = true → (Utf8.decode s pos).2 = 1) := by
  rcases rune_at s pos hp with ⟨c, hc, hd, hb⟩ | ⟨h1, h2⟩
  · rw [hd, hb]; exact ⟨rfl, fun _ => rfl⟩
  · rw [hf _ (by omega), hf _ (by omega)]; exact ⟨rfl, fun h => by cases h⟩
theorem pr_high (c : Int) (h : 127 ≤ c) : prB c = false := by unfold prB; simp; omega
theorem wd_high (c : Int) (h : 127 ≤ c) : wdB c = false := by unfold wdB; rw [pr_high c h, Bool.false_and]
set_option maxRecDepth 100000 in
set_option maxHeartbeats 1000000 in
theorem isWord_any (s : ByteArray) (w : World) : Calls Try.prog 17 #[.string s] w (GivesB (.bool (wordL (codes s))) w) := by
  have hcl : Hid ((codes s).length = s.size) := Lib.hid (codes_length s)
  have hno : Hid (∀ p, p < s.size → wdB ((codes s).getD p 0) = false → wordL (codes s) = false) := Lib.hid (fun p hp h => by unfold wordL; rw [all_no (by rw [hcl.out]; exact hp) h, Bool.and_false])
  have hyes : Hid ((∀ t, t < s.size → wdB ((codes s).getD t 0) = true) → wordL (codes s) = !s.toList.isEmpty) := Lib.hid (fun h => by
    unfold wordL
    rw [all_yes (by rw [hcl.out]; exact h), Bool.and_true]
    congr 1
    have h1 := hcl.out
    cases hs : codes s with
    | nil => rw [hs] at h1; simp at h1; rw [ByteArray.toList_eq]; have : s.data = #[] := by apply Array.eq_empty_of_size_eq_zero; exact h1.symm
             rw [this]; rfl
    | cons x r => rw [hs] at h1; simp at h1; rw [ByteArray.toList_eq]; cases hd : s.data.toList with
      | nil => have : s.size = 0 := by show s.data.size = 0; rw [← Array.length_toList, hd]; rfl
               omega
      | cons y q => rfl)
  go_enter Try.func17, Try.ntmps17
  go_wp2
  go_loopw [4] (fun _ wr => ∃ pos : Nat, wr = w.iter s pos ∧ pos ≤ s.size ∧ Hid (∀ t, t < pos → wdB ((codes s).getD t 0) = true)) (fun _ wr => s.size - wr.iterPos w.heap.size)
  case atStart => exact ⟨0, rfl, by omega, Lib.hid (fun t ht => by omega)⟩
  case round =>
    obtain ⟨pos, rfl, hle, hall⟩ := hrel
    by_cases hp : pos < s.size
    · have hnx : ∀ ty, (Instr.next (.pointer (some ⟨w.heap.size, 0, none⟩)) true ty).run Try.prog (w.iter s pos) = _ := fun ty => run_next_any w s pos ty hp
      obtain ⟨hf1, hf2⟩ := rune_f wdB wd_high s pos hp
      have hw := Lib.hid (fun W => wordRune_any ((Utf8.decode s pos).1 : Int) W)
      have hcb := Lib.hid (hno.out pos hp)
      have hst : Hid (wdB ((codes s).getD pos 0) = true → ∀ t, t < pos + 1 → wdB ((codes s).getD t 0) = true) := Lib.hid (fun h t ht => by
        by_cases e : t = pos
        · rw [e]; exact h
        · exact hall.out t (by omega))
      rw [hf1] at hw hf2
      clear hf1 hno hyes hall
      generalize wordL (codes s) = R at *
      generalize ((Utf8.decode s pos).1 : Int) = x at *
      cases hv : wdB ((codes s).getD pos 0)
      · have hR := hcb.out hv
        rw [hv] at hw
        clear hcb hst hf2 hv
        generalize (Utf8.decode s pos).2 = wd at *
        subst hR
        go_wp2_with fail
        refine (hw.out _).mono ?_
        rintro e w1 ⟨rfl, rfl⟩
        go_wp2
        go_ret
        exact ⟨rfl, iter_below _ _ _⟩
      · have hwd := hf2 hv
        have hs1 := Lib.hid (hst.out hv)
        rw [hv] at hw
        rw [hwd] at hnx
        clear hcb hst hf2 hv hwd
        go_wp2_with fail
        refine (hw.out _).mono ?_
        rintro e w1 ⟨rfl, rfl⟩
        go_wp2
        go_roundw
        case rel => exact ⟨pos + 1, rfl, by omega, hs1⟩
        case measure => rw [World.iterPos_iter, World.iterPos_iter]; omega
    · have hpe : pos = s.size := by omega
      have hnx : ∀ ty, (Instr.next (.pointer (some ⟨w.heap.size, 0, none⟩)) true ty).run Try.prog (w.iter s pos) = _ := fun ty => run_next_end w s pos ty hp
      have hR := hyes.out (by rw [hpe] at hall; exact hall.out)
      have hR' := Lib.hid hR
      clear hR hpe hno hyes hall
      go_wp2
      go_ret
      exact ⟨ret_bool hR'.out.symm, iter_below _ _ _⟩
/-- A text of which some rune may not be printed. -/
theorem notPr_any (c : Int) (w : World) : Calls Try.prog 39 #[.int .i32 c] w fun e w' => e = .returned (.bool (!prB c)) ∧ w = w' := by
  have h := Lib.hid (fun w => printed_any c w)
  generalize prB c = p at *
  go_enter Try.func39, Try.ntmps39
  go_wp2_with fail
  refine (h.out _).mono ?_
  rintro e w' ⟨rfl, rfl⟩
  go_wp2
  go_ret
  exact ⟨rfl, rfl⟩
def IdxE (y : Bool) (w : World) (e : Ending) (w' : World) : Prop := ∃ n : Int, e = .returned (.int .i64 n) ∧ (y = true ↔ 0 ≤ n) ∧ Below w.heap.size w w'
set_option maxRecDepth 100000 in
set_option maxHeartbeats 1000000 in
theorem indexF_any (s : ByteArray) (hs : s.size ≤ 9223372036854775807) (w : World) : Calls Try.prog 42 #[.string s, .func (.func 39) #[] #[], .bool true] w (IdxE (!(codes s).all prB) w) := by
  have hcl : Hid ((codes s).length = s.size) := Lib.hid (codes_length s)
  have hno : Hid (∀ p, p < s.size → prB ((codes s).getD p 0) = false → (codes s).all prB = false) := Lib.hid (fun p hp h => all_no (by rw [hcl.out]; exact hp) h)
  have hyes : Hid ((∀ t, t < s.size → prB ((codes s).getD t 0) = true) → (codes s).all prB = true) := Lib.hid (fun h => all_yes (by rw [hcl.out]; exact h))
  go_enter Try.func42, Try.ntmps42
  go_wp2
  go_loopw [7, 8] (fun _ _ wr => ∃ pos : Nat, wr = w.iter s pos ∧ pos ≤ s.size ∧ Hid (∀ t, t < pos → prB ((codes s).getD t 0) = true)) (fun _ _ wr => s.size - wr.iterPos w.heap.size)
  case atStart => exact ⟨0, rfl, by omega, Lib.hid (fun t ht => by omega)⟩
  case round =>
    obtain ⟨pos, rfl, hle, hall⟩ := hrel
    by_cases hp : pos < s.size
    · have hnx : ∀ ty, (Instr.next (.pointer (some ⟨w.heap.size, 0, none⟩)) true ty).run Try.prog (w.iter s pos) = _ := fun ty => run_next_any w s pos ty hp
      obtain ⟨hf1, hf2⟩ := rune_f prB pr_high s pos hp
      have hw := Lib.hid (fun W => notPr_any ((Utf8.decode s pos).1 : Int) W)
      have hcb := Lib.hid (hno.out pos hp)
      have hst : Hid (prB ((codes s).getD pos 0) = true → ∀ t, t < pos + 1 → prB ((codes s).getD t 0) = true) := Lib.hid (fun h t ht => by
        by_cases e : t = pos
        · rw [e]; exact h
        · exact hall.out t (by omega))
      rw [hf1] at hw hf2
      clear hf1 hno hyes hall
      generalize ((Utf8.decode s pos).1 : Int) = x at *
      cases hv : prB ((codes s).getD pos 0)
      · have hR := Lib.hid (hcb.out hv)
        rw [hv, Bool.not_false] at hw
        clear hcb hst hf2 hv
        generalize (Utf8.decode s pos).2 = wd at *
        go_wp2_with fail
        refine (hw.out _).mono ?_
        rintro e w1 ⟨rfl, rfl⟩
        go_wp2
        go_ret
        exact ⟨(pos : Int), rfl, by rw [hR.out]; simp, iter_below _ _ _⟩
      · have hwd := hf2 hv
        have hs1 := Lib.hid (hst.out hv)
        rw [hv, Bool.not_true] at hw
        rw [hwd] at hnx
        clear hcb hst hf2 hv hwd
        go_wp2_with fail
        refine (hw.out _).mono ?_
        rintro e w1 ⟨rfl, rfl⟩
        go_wp2
        go_roundw
        case rel => exact ⟨pos + 1, rfl, by omega, hs1⟩
        case measure => rw [World.iterPos_iter, World.iterPos_iter]; omega
    · have hpe : pos = s.size := by omega
      have hnx : ∀ ty, (Instr.next (.pointer (some ⟨w.heap.size, 0, none⟩)) true ty).run Try.prog (w.iter s pos) = _ := fun ty => run_next_end w s pos ty hp
      have hR := Lib.hid (hyes.out (by rw [hpe] at hall; exact hall.out))
      clear hpe hno hyes hall
      go_wp2
      go_ret
      exact ⟨-1, rfl, by rw [hR.out]; simp, iter_below _ _ _⟩
theorem indexFunc_any (s : ByteArray) (hs : s.size ≤ 9223372036854775807) (w : World) : Calls Try.prog 41 #[.string s, .func (.func 39) #[] #[]] w (IdxE (!(codes s).all prB) w) := by
  have h := Lib.hid (indexF_any s hs w)
  go_enter Try.func41, Try.ntmps41
  go_wp2_with fail
  refine h.out.mono ?_
  rintro e w' ⟨n, rfl, h1, h2⟩
  have q := Lib.hid h1
  have q2 := Lib.hid h2
  clear h1 h2 h
  go_wp2
  go_ret
  exact ⟨n, rfl, q.out, q2.out⟩
theorem containsF_any (s : ByteArray) (hs : s.size ≤ 9223372036854775807) (w : World) : Calls Try.prog 38 #[.string s, .func (.func 39) #[] #[]] w (GivesB (.bool (!(codes s).all prB)) w) := by
  have h := Lib.hid (indexFunc_any s hs w)
  generalize (!(codes s).all prB) = y at *
  go_enter Try.func38, Try.ntmps38
  go_wp2_with fail
  refine h.out.mono ?_
  rintro e w' ⟨n, rfl, h1, h2⟩
  have q : Hid (y = decide (0 ≤ n)) := Lib.hid (by rw [Bool.eq_iff_iff, decide_eq_true_iff]; exact h1)
  have q2 := Lib.hid h2
  clear h1 h2 h
  go_wp2
  go_ret
  exact ⟨by rw [q.out]; first | rfl | simp, q2.out⟩
end Go.Proofs.Ytplgfghffeijcaa
