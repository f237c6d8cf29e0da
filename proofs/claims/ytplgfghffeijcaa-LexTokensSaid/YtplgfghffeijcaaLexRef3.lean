/- The document's token, where it is a word; any one. -/
import Derived.Test.YtplgfghffeijcaaLexRef2
import Derived.Test.YtplgfghffeijcaaLexRef1
namespace Go.Proofs.Ytplgfghffeijcaa
open Go.RowKit
set_option linter.unusedVariables false
set_option linter.unusedSimpArgs false

theorem tok_new (w : World) (T : List Int) (j : Nat) (ok : Bool) (r : Int × List Int × Nat × Bool) (hr : r = (1, T, j, ok)) :
    Holds (w.alloc (.cells #[.int .i64 1, .int .i64 0, .int .i64 0, .string (strOfNums T)] 36)) w.heap.size 36 #[.int .i64 1, .int .i64 0, .int .i64 0, .string (strOfNums T)] ∧
    TokRE r w (.returned (.tuple #[.agg #[.int .i64 1, .int .i64 0, .int .i64 0, .string (strOfNums T)], .int .i64 (j : Int), .bool ok])) (w.alloc (.cells #[.int .i64 1, .int .i64 0, .int .i64 0, .string (strOfNums T)] 36)) := by
  subst hr
  exact ⟨Holds.new _ _ _, rfl, lit_below w _⟩
theorem ext_codes (s : ByteArray) (p e : Nat) : s.extract p e = strOfNums (((codes s).drop p).take (e - p)) := by
  rw [← str_codes (s.extract p e)]
  congr 1
  unfold codes
  simp [ByteArray.data_extract, Array.toList_extract, List.extract, List.map_drop, List.map_take]
theorem word_cut (s : ByteArray) (p e : Nat) (hp : p ≤ e) (he : e ≤ s.size) (W : World) : (Instr.slice 9 (.string s) (some (.int .i64 (p : Int))) (some (.int .i64 (e : Int))) none).run Try.prog W = .ok (.string (strOfNums (((codes s).drop p).take (e - p)))) W := by
  rw [run_slice_string W 9 s .i64 .i64 (p : Int) (e : Int) Try.underlying9 (by omega) (by omega) (by omega), ← ext_codes]
  rfl
set_option maxRecDepth 100000 in
set_option maxHeartbeats 4000000 in
theorem token_word (s : ByteArray) (hs : s.size ≤ 1048576) (p : Nat) (hp : p < s.size) (hq : (codes s).getD p 0 ≠ 34) (w : World) : Calls Try.prog 20 #[.string s, .int .i64 (p : Int)] w (TokRE (tokenO (codes s) p) w) := by
  have hcl : Hid ((codes s).length = s.size) := Lib.hid (codes_length s)
  have hpi : (p : Int) < (s.size : Int) := by omega
  have hc0 : (((s[p]'hp).toNat : Int) == 34) = false := by rw [codes_at s p hp] at hq; simpa using hq
  have hpl : (p : Int) ≤ 1048576 := by omega
  have hR : Hid (∀ e, p ≤ e → e ≤ s.size → (∀ t, p ≤ t → t < e → wdB ((codes s).getD t 0) = true) → (e = s.size ∨ wdB ((codes s).getD e 0) = false) → tokenO (codes s) p = (1, ((codes s).drop p).take (e - p), e, decide (p < e))) := Lib.hid (fun e hn0 hn h1 h2 => by
    have hl : ((codes s).drop p).length = s.size - p := by rw [List.length_drop, hcl.out]
    have hg : ∀ t, ((codes s).drop p).getD t 0 = (codes s).getD (p + t) 0 := fun t => by simp [List.getD]
    have e' := takeWhile_len (f := wdB) (l := (codes s).drop p) (n := e - p) (by rw [hl]; omega) (fun t ht => by rw [hg]; exact h1 _ (by omega) (by omega)) (by rw [hl, hg, show p + (e - p) = e by omega]; rcases h2 with h2 | h2; left; omega; right; exact h2)
    unfold tokenO
    rw [if_neg hq, e']
    have hn2 : (((codes s).drop p).take (e - p)).length = e - p := by rw [List.length_take, hl]; omega
    rw [hn2, show p + (e - p) = e by omega]
    have : decide (0 < e - p) = decide (p < e) := by rw [decide_eq_decide]; omega
    rw [this])
  clear hq
  generalize tokenO (codes s) p = R at *
  go_enter Try.func20, Try.ntmps20
  go_wp2
  go_loopw [9] (fun x wr => ∃ e : Nat, p ≤ e ∧ e ≤ s.size ∧ x = .int .i64 (e : Int) ∧ wr = w.alloc (.cells #[.int .i64 0, .int .i64 0, .int .i64 0, .string ⟨#[]⟩] 36) ∧ Hid (∀ t, p ≤ t → t < e → wdB ((codes s).getD t 0) = true)) (fun x _ => s.size - (intOf x).toNat)
  case atStart => exact ⟨p, by omega, by omega, rfl, rfl, Lib.hid (by intro t ht; omega)⟩
  case round =>
    obtain ⟨e, hpe, hn, rfl, rfl, hall⟩ := hrel
    have hlitb := lit_below w (.cells #[.int .i64 0, .int .i64 0, .int .i64 0, .string ⟨#[]⟩] 36)
    have hnewb := Holds.new w 36 #[.int .i64 0, .int .i64 0, .int .i64 0, .string ⟨#[]⟩]
    have hfin := Lib.hid (fun T j ok h => tok_new w T j ok R h)
    have a0 := hnewb.cell 0
    have a1 := hnewb.cell 1
    have a2 := hnewb.cell 2
    have a3 := hnewb.cell 3
    have f0 := hnewb.free 0
    have f1 := hnewb.free 1
    have f2 := hnewb.free 2
    have f3 := hnewb.free 3
    simp at a0 a1 a2 a3
    have hone := fun W => word_cut s p e hpe hn W
    have hRe := hR.out e hpe hn hall.out
    generalize ((codes s).drop p).take (e - p) = T at *
    have hRe := Lib.hid hRe
    have hel : (e : Int) ≤ 1048576 := by omega
    have hpe' : (p : Int) ≤ (e : Int) := by omega
    by_cases hlt : e < s.size
    · have hki : (e : Int) < (s.size : Int) := by omega
      have hcb : (s[e]'hlt).toNat < 256 := (s[e]'hlt).toNat_lt
      have hwd := Lib.hid (fun W => rword_any ((s[e]'hlt).toNat : Int) (by omega) (by omega) W)
      have hce := codes_at s e hlt
      cases hv : wdB ((s[e]'hlt).toNat : Int)
      · have hst := hRe.out (.inr (by rw [hce]; exact hv))
        obtain ⟨z1, z2⟩ := hfin.out T e _ hst
        have Z1 := Lib.hid z1
        have Z2 := Lib.hid z2
        rw [hv] at hwd
        clear hst hce hfin hR hRe hall z1 z2 hlitb hnewb hv
        go_wp2_with fail
        refine (hwd.out _).mono ?_
        rintro e1 w1 ⟨rfl, rfl⟩
        go_wp2
        exact tok_ret3 Z1.out Z2.out _ _ 4 5 6 rfl rfl rfl rfl rfl
      · rw [hv] at hwd
        have hs1 : Hid (∀ t, p ≤ t → t < e + 1 → wdB ((codes s).getD t 0) = true) := Lib.hid (fun t h0 ht => by
          by_cases e' : t = e
          · rw [e', hce]; exact hv
          · exact hall.out t h0 (by omega))
        clear hv hall hR hRe hce hfin hone
        go_wp2_with fail
        refine (hwd.out _).mono ?_
        rintro e1 w1 ⟨rfl, rfl⟩
        go_wp2
        go_roundw
        case rel => exact ⟨e + 1, by omega, by omega, by go_num, by first | trivial | rfl, hs1⟩
        case measure => simp [intOf]; omega
    · have hke : e = s.size := by omega
      have hst := hRe.out (.inl hke)
      obtain ⟨z1, z2⟩ := hfin.out T e _ hst
      have Z1 := Lib.hid z1
      have Z2 := Lib.hid z2
      have hki : ¬ (e : Int) < (s.size : Int) := by omega
      clear hst hfin hR hRe hall z1 z2 hlitb hnewb hlt hke
      go_wp2
      exact tok_ret3 Z1.out Z2.out _ _ 4 5 6 rfl rfl rfl rfl rfl
theorem token_any (s : ByteArray) (hs : s.size ≤ 1048576) (p : Nat) (hp : p < s.size) (w : World) : Calls Try.prog 20 #[.string s, .int .i64 (p : Int)] w (TokRE (tokenO (codes s) p) w) := by
  by_cases hq : (codes s).getD p 0 = 34
  · exact token_quo s hs p hp hq w
  · exact token_word s hs p hp hq w
end Go.Proofs.Ytplgfghffeijcaa
