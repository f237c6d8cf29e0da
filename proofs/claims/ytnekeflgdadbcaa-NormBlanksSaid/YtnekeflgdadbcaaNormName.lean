/- The document's test of a word's byte: a name of two bytes. -/
import Derived.Test.YtnekeflgdadbcaaNormWord
import Derived.Test.YtnekeflgdadbcaaFoot
namespace Go.Proofs.Ytnekeflgdadbcaa
open Go.RowKit
set_option linter.unusedVariables false
set_option linter.unusedSimpArgs false

/-- A byte of a text. -/
theorem ix (s : ByteArray) (k : Nat) (hk : k < s.size) (W : World) : (Instr.index 9 (.string s) (.int .i64 (k : Int))).run Try.prog W = .ok (.int .u8 ((codes s).getD k 0)) W := by
  rw [run_index_string W 9 s .i64 (k : Int) Try.underlying9, dif_pos ⟨by omega, by omega⟩, codes_at s k hk]
  simp
theorem name2 (X : ByteArray) (c : Int) (h0 : 0 ≤ c) (h1 : c ≤ 255) (hX : codes X = [120, c]) (w : World) :
    Calls Try.prog 29 #[.string X] w fun e w' => e = .returned (.bool (wdB c)) ∧ w = w' := by
  have hs : X.size = 2 := by rw [← codes_length, hX]; rfl
  have i0 : ∀ W, (Instr.index 9 (.string X) (.int .i64 0)).run Try.prog W = .ok (.int .u8 120) W := fun W => by
    have := ix X 0 (by omega) W; rw [hX] at this; simpa using this
  have i1 : ∀ W, (Instr.index 9 (.string X) (.int .i64 1)).run Try.prog W = .ok (.int .u8 c) W := fun W => by
    have := ix X 1 (by omega) W; rw [hX] at this; simpa using this
  have m0 := Lib.hid (more_any 120 (by omega) (by omega))
  rw [show wdB 120 = true by decide] at m0
  have m1 := Lib.hid (more_any c h0 h1)
  have l0 := Lib.hid (letter_any 120 (by omega) (by omega))
  rw [show letB 120 = true by decide] at l0
  clear hX h0 h1
  generalize wdB c = wb at *
  go_enter Try.func29, Try.ntmps29
  go_wp2
  go_loop [3] (fun i => ∃ k : Nat, k ≤ 2 ∧ Hid (k = 2 → wb = true) ∧ i = .int .i64 k) (fun i => 2 - (intOf i).toNat)
  case atStart => exact ⟨0, by omega, Lib.hid (fun h => by omega), rfl⟩
  case round =>
    obtain ⟨k, hk, hw, rfl⟩ := hrel
    have h3 : k = 0 ∨ k = 1 ∨ k = 2 := by omega
    rcases h3 with rfl | rfl | rfl
    · clear hw
      go_wp2_with fail
      refine (m0.out _).mono ?_
      rintro e w' ⟨rfl, rfl⟩
      go_wp2
      go_round
      case rel => exact ⟨1, by omega, Lib.hid (fun h => by omega), by go_num⟩
      case measure => simp [intOf]
    · clear hw
      go_wp2_with fail
      refine (m1.out _).mono ?_
      rintro e w' ⟨rfl, rfl⟩
      cases hwb : wb
      · have hwb' := Lib.hid hwb
        clear hwb
        go_wp2
        go_ret
        exact ⟨by rw [hwb'.out]; rfl, rfl⟩
      · have hwb' := Lib.hid hwb
        clear hwb
        go_wp2
        go_round
        case rel => exact ⟨2, by omega, Lib.hid (fun _ => hwb'.out), by go_num⟩
        case measure => simp [intOf]
    · have hb := hw.out rfl
      subst hb
      clear hw
      go_wp2_with fail
      refine (l0.out _).mono ?_
      rintro e w' ⟨rfl, rfl⟩
      go_wp2
      go_ret
      exact ⟨rfl, rfl⟩
theorem dword_any (c : Int) (h0 : 0 ≤ c) (h1 : c ≤ 255) (w : World) :
    Calls Try.prog 20 #[.int .u8 c] w fun e w' => e = .returned (.bool (wdB c)) ∧ Below w.heap.size w w' := by
  have hb : Bs [c] := fun x hx => by simp at hx; omega
  have hX : codes (⟨#[120]⟩ ++ strOfNums [c]) = [120, c] := by
    have : strOfNums [120, c] = (⟨#[120]⟩ : ByteArray) ++ strOfNums [c] := by
      apply ByteArray.ext
      apply Array.toList_inj.1
      simp [ByteArray.data_append, strOfNums_data]
    rw [← this]
    exact codes_str (fun x hx => by simp at hx; omega)
  have hn := Lib.hid (name2 (⟨#[120]⟩ ++ strOfNums [c]) c h0 h1 hX)
  have hsz : (strOfNums [c]).size = 1 := by rw [strOfNums_size]; rfl
  have hsee := sees_new .u8 w 5 [c] #[.int .u8 c] rfl (0, 0)
  have hcv : (convert 30 9 (.slice (some ⟨w.heap.size, 0, none⟩) 1 1)).run Try.prog (w.alloc (.cells #[.int .u8 c] 5)) = .ok (.string (strOfNums [c])) (w.alloc (.cells #[.int .u8 c] 5)) := conv_sees _ 9 5 Try.underlying30 Try.underlying5 Try.underlying9 hsee 1 1 rfl
  have hB := Lib.hid ((Below.refl w.heap.size w).alloc (Nat.le_refl _) (.cells #[.int .u8 c] 5))
  clear hX hb hsee h0 h1
  generalize strOfNums [c] = X at *
  generalize wdB c = wb at *
  go_enter Try.func20, Try.ntmps20
  go_wp2_with fail
  refine (hn.out _).mono ?_
  rintro e w' ⟨rfl, rfl⟩
  go_wp2
  go_ret
  exact ⟨rfl, hB.out⟩
end Go.Proofs.Ytnekeflgdadbcaa
