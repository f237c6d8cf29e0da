/- Which lists are tokens of a text. -/
import Derived.Test.YtplgfghffeijcaaLexRight
namespace Go.Proofs.Ytplgfghffeijcaa
open Go.RowKit
set_option linter.unusedVariables false
set_option linter.unusedSimpArgs false

def areF : Bool → List Tk → Bool
  | first, [] => first
  | first, t :: r => !(decide (t.k = 3) && first) && rightB t && areF (decide (t.k = 3)) r
def pieceL (first : Bool) (t : Tk) : List Int := (if first = false ∧ t.k ≠ 3 then [32] else []) ++ writtenL t
def showF : Bool → List Tk → List Int
  | _, [] => []
  | first, t :: r => pieceL first t ++ showF (decide (t.k = 3)) r
def showO (l : List Tk) : List Int × Int := if areF true l = false then ([], 1) else if 1048576 < (showF true l).length then ([], 3) else (showF true l, 0)
theorem drop_cons {l : List Tk} {k : Nat} (hk : k < l.length) : l.drop k = l.getD k tk0 :: l.drop (k + 1) := by
  rw [List.drop_eq_getElem_cons hk]; simp [List.getD, hk]
/-- Texts of some length. -/
def TxB (l : List Tk) (n : Nat) : Prop := ∀ t ∈ l, t.tx.size ≤ n
theorem TxB.at_ {l : List Tk} {n k : Nat} (h : TxB l n) (hk : k < l.length) : (l.getD k tk0).tx.size ≤ n := h _ (by simp [List.getD, hk])
set_option maxRecDepth 100000 in
set_option maxHeartbeats 2000000 in
theorem areTokens_any (a : Option Addr) (n c : Nat) (l : List Tk) (hx : TxB l 9223372036854775807) (hn : n ≤ 9223372036854775806) (w : World) (h : TL w a n c l) : Calls Try.prog 21 #[.slice a n c] w (GivesB (.bool (areF true l)) w) := by
  have hlen := Lib.hid h.len
  have hT := Lib.hid h
  have hxx := Lib.hid hx
  clear h hx
  go_enter Try.func21, Try.ntmps21
  go_wp2
  go_loopw [3, 9] (fun f x wr => ∃ (k : Nat) (fi : Bool), k ≤ n ∧ x = .int .i64 k ∧ f = .bool fi ∧ Hid (areF true l = areF fi (l.drop k)) ∧ Hid (Below w.heap.size w wr)) (fun _ x _ => n - (intOf x).toNat)
  case atStart => exact ⟨0, true, by omega, rfl, rfl, Lib.hid rfl, Lib.hid (Below.refl _ _)⟩
  case round =>
    obtain ⟨k, fi, hk, rfl, rfl, hF, hB⟩ := hrel
    by_cases hlt : k < n
    · have hki : (k : Int) < (n : Int) := by omega
      have hkn : k < l.length := by rw [← hlen.out]; exact hlt
      obtain ⟨b, off, rfl, hb, i0, i1, i2, i3⟩ := (hT.out.below hB.out).at_ hkn
      have hsz := hxx.out.at_ hkn
      have hst : areF true l = (!(decide ((l.getD k tk0).k = 3) && fi) && rightB (l.getD k tk0) && areF (decide ((l.getD k tk0).k = 3)) (l.drop (k + 1))) := by rw [hF.out, drop_cons hkn]; rfl
      have hrt := Lib.hid (fun W => right_any (l.getD k tk0).k (l.getD k tk0).ln (l.getD k tk0).cl (l.getD k tk0).tx hsz W)
      have hrr : rightB (l.getD k tk0) = rightB ⟨(l.getD k tk0).k, (l.getD k tk0).ln, (l.getD k tk0).cl, (l.getD k tk0).tx⟩ := rfl
      rw [← hrr] at hrt
      clear hF hxx hsz hrr hkn
      have hbx := Lib.hid (lit_below wr (.cells #[.int .i64 (l.getD k tk0).k, .int .i64 (l.getD k tk0).ln, .int .i64 (l.getD k tk0).cl, .string (l.getD k tk0).tx] 36))
      have hblt := Lib.hid hb
      clear hb
      generalize (l.getD k tk0).ln = ln at *
      generalize (l.getD k tk0).cl = cl at *
      generalize (l.getD k tk0).tx = tx at *
      generalize rightB (l.getD k tk0) = rb at *
      generalize (l.getD k tk0).k = kk at *
      by_cases h3 : kk = 3
      · have e3 : (kk == 3) = true := by simpa using h3
        rw [decide_eq_true h3, Bool.true_and] at hst
        clear h3
        cases fi
        · cases rb
          · have hR : Hid (areF true l = false) := Lib.hid (by rw [hst]; rfl)
            clear hst
            go_wp2_with fail
            refine (hrt.out _).mono ?_
            rintro e w2 ⟨rfl, b2⟩
            have b3 := Lib.hid (hB.out.trans ((hbx.out.trans (b2.mono hbx.out.size)).mono hB.out.size))
            clear b2 hrt
            go_wp2
            go_ret
            exact ⟨ret_bool hR.out.symm, b3.out⟩
          · have hR : Hid (areF true l = areF true (l.drop (k + 1))) := Lib.hid (by rw [hst]; rfl)
            clear hst
            go_wp2_with fail
            refine (hrt.out _).mono ?_
            rintro e w2 ⟨rfl, b2⟩
            have b3 := Lib.hid (hB.out.trans ((hbx.out.trans (b2.mono hbx.out.size)).mono hB.out.size))
            have k0 := (Holds.new wr 36 #[.int .i64 kk, .int .i64 ln, .int .i64 cl, .string tx]).below b2 (by simp) |>.cell 0
            clear b2 hrt
            go_wp2
            go_roundw
            case rel => exact ⟨k + 1, true, by omega, by go_num, rfl, hR, b3⟩
            case measure => simp [intOf]; omega
        · have hR : Hid (areF true l = false) := Lib.hid (by rw [hst]; rfl)
          clear hst hrt
          go_wp2
          go_ret
          exact ⟨ret_bool hR.out.symm, hB.out.trans (hbx.out.mono hB.out.size)⟩
      · have e3 : (kk == 3) = false := by simpa using h3
        rw [decide_eq_false h3, Bool.false_and, Bool.not_false, Bool.true_and] at hst
        clear h3
        cases rb
        · have hR : Hid (areF true l = false) := Lib.hid (by rw [hst]; rfl)
          clear hst
          go_wp2_with fail
          refine (hrt.out _).mono ?_
          rintro e w2 ⟨rfl, b2⟩
          have b3 := Lib.hid (hB.out.trans ((hbx.out.trans (b2.mono hbx.out.size)).mono hB.out.size))
          clear b2 hrt
          go_wp2
          go_ret
          exact ⟨ret_bool hR.out.symm, b3.out⟩
        · have hR : Hid (areF true l = areF false (l.drop (k + 1))) := Lib.hid (by rw [hst]; rfl)
          clear hst
          go_wp2_with fail
          refine (hrt.out _).mono ?_
          rintro e w2 ⟨rfl, b2⟩
          have b3 := Lib.hid (hB.out.trans ((hbx.out.trans (b2.mono hbx.out.size)).mono hB.out.size))
          clear b2 hrt
          go_wp2
          go_roundw
          case rel => exact ⟨k + 1, false, by omega, by go_num, rfl, hR, b3⟩
          case measure => simp [intOf]; omega
    · have hke : k = n := by omega
      have hR : Hid (areF true l = fi) := Lib.hid (by rw [hF.out, hke, List.drop_of_length_le (by rw [hlen.out]; omega)]; rfl)
      have hki : ¬ (k : Int) < (n : Int) := by omega
      clear hke hlt hF
      go_wp2
      go_ret
      exact ⟨ret_bool hR.out.symm, hB.out⟩
end Go.Proofs.Ytplgfghffeijcaa
