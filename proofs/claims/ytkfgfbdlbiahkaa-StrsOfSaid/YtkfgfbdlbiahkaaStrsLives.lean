/- 'lives' of the statements on tables. -/
import Derived.Test.YtkfgfbdlbiahkaaStrsGet
import Derived.Test.YtkfgfbdlbiahkaaStrsPut
import Derived.Test.YtkfgfbdlbiahkaaStrsFind
namespace Go.Proofs.Ytkfgfbdlbiahkaa
open Go.RowKit
set_option linter.unusedVariables false
set_option linter.unusedSimpArgs false

def tL : List ByteArray := [⟨#[97, 98]⟩, ⟨#[97, 98, 99]⟩, ⟨#[98]⟩]
theorem t_of : ofT [⟨#[98]⟩, ⟨#[97, 98]⟩, ⟨#[97, 98, 99]⟩, ⟨#[98]⟩] = tL := by rfl
theorem t_check : checkT tL = 0 := by rfl
theorem t_bad : checkT [⟨#[98]⟩, ⟨#[97]⟩] = 50 := by rfl
theorem t_put : putT tL = [3, 0, 2, 97, 98, 2, 1, 99, 0, 1, 98] := by
  have h1 : alikeL (byt e0) (byt ⟨#[97, 98]⟩) = 0 := rfl
  have h2 : alikeL (byt ⟨#[97, 98]⟩) (byt ⟨#[97, 98, 99]⟩) = 2 := rfl
  have h3 : alikeL (byt ⟨#[97, 98, 99]⟩) (byt ⟨#[98]⟩) = 0 := rfl
  have h4 : tailT ⟨#[97, 98]⟩ 0 = ⟨#[97, 98]⟩ := rfl
  have h5 : tailT ⟨#[97, 98, 99]⟩ 2 = ⟨#[99]⟩ := rfl
  have h6 : tailT ⟨#[98]⟩ 0 = ⟨#[98]⟩ := rfl
  have z1 : (ByteArray.mk #[97, 98]).size = 2 := rfl
  have z2 : (ByteArray.mk #[99]).size = 1 := rfl
  have z3 : (ByteArray.mk #[98]).size = 1 := rfl
  have c1 : codes ⟨#[97, 98]⟩ = [97, 98] := rfl
  have c2 : codes ⟨#[99]⟩ = [99] := rfl
  have c3 : codes ⟨#[98]⟩ = [98] := rfl
  have zl : tL.length = 3 := rfl
  unfold putT
  rw [zl]
  simp only [tL, bodyT, oneT, txtL, h1, h2, h3, h4, h5, h6, z1, z2, z3, c1, c2, c3]
  rw [leb_small (n := 3) (by omega), leb_small (n := 0) (by omega), leb_small (n := 2) (by omega), leb_small (n := 1) (by omega)]
  rfl
theorem t_get : (getT [2, 0, 1, 97, 0, 2, 97, 98]).2.2 = 50 := by kernel_rfl
theorem t_get0 : (getT [2, 0, 1, 97, 0, 2, 97, 98]).1 = [] := by kernel_rfl
theorem t_find : findT tL ⟨#[98]⟩ = (2, true) := by rfl
theorem tt_lit (w : World) (l : List ByteArray) (cs : Array Value) (h : cs = (txts l).toArray) (n : Nat) (hn : n = l.length) (hm : n ≤ maxLen) (g : Nat) (hg : g = w.heap.size) : TT (w.alloc (.cells cs 9)) (some ⟨g, 0, none⟩) n n l := by
  subst h hg
  refine ⟨hn, Nat.le_refl _, hm, .inr ⟨w.heap.size, 0, rfl, by simp, fun i hi => ?_⟩⟩
  rw [cell_of_row _ _ _ _ _ _ (heap_alloc_new w _)]
  simp [txts, List.getD, hi]
theorem same_self (l : List ByteArray) : decide (l = l) = true := decide_eq_true rfl
def tB : List Int := [3, 0, 2, 97, 98, 2, 1, 99, 0, 1, 98]
theorem t_get1 : getT tB = (tL, 11, 0) := by rw [tB, ← t_put, get_putT t_check, t_put]; rfl
def tC : List Int := [2, 0, 1, 97, 0, 2, 97, 98]
set_option maxRecDepth 100000 in
set_option maxHeartbeats 4000000 in
theorem tlives_any (w : World) : Calls Try.prog 7 #[] w (Gives (.bool true) w) := by
  have q1 := Lib.hid (fun W a h => of_any a 4 4 [⟨#[98]⟩, ⟨#[97, 98]⟩, ⟨#[97, 98, 99]⟩, ⟨#[98]⟩] (by omega) W h)
  rw [t_of] at q1
  have q2 := Lib.hid (fun W a c h => tput_any a 3 c tL (by omega) W h)
  have q3 := Lib.hid (fun W a c (h : Sees .u8 W.heap.size W a tB) => tget_any a tB 11 c rfl (by omega) (bs_lit (by decide)) W h)
  rw [t_get1] at q3
  have q4 := Lib.hid (fun W a c h => find_any a 3 c tL ⟨#[98]⟩ (by omega) W h)
  rw [t_find] at q4
  have q5 := Lib.hid (fun W a (h : Sees .u8 W.heap.size W a tC) => tget_any a tC 8 8 rfl (by omega) (bs_lit (by decide)) W h)
  have q6 := Lib.hid (fun W a h => tput_any a 2 2 [⟨#[98]⟩, ⟨#[97]⟩] (by omega) W h)
  have q7 := Lib.hid (fun W a b c d h1 h2 => rsame_any a b 3 3 c d tL tL (by omega) W h1 h2)
  rw [same_self] at q7
  have q8 := Lib.hid (fun W a c h => check_any a 3 c tL (by omega) W h)
  rw [t_check] at q8
  have q9 := Lib.hid (fun W a b c d h1 h2 => same_any a b 3 3 c d tL tL (by omega) (by omega) W h1 h2)
  rw [same_self] at q9
  have l1 := Lib.hid (tt_lit w [⟨#[98]⟩, ⟨#[97, 98]⟩, ⟨#[97, 98, 99]⟩, ⟨#[98]⟩] _ rfl 4 rfl (by decide) _ rfl)
  have b1 : Hid (Below w.heap.size w (w.alloc (.cells #[.string ⟨#[98]⟩, .string ⟨#[97, 98]⟩, .string ⟨#[97, 98, 99]⟩, .string ⟨#[98]⟩] 9))) := Lib.hid (below_box _ _ _)
  go_enter Try.func7, Try.ntmps7
  go_wp2_with fail
  refine (q1.out _ _ l1.out).mono ?_
  rintro e w1 ⟨a1, n1, c1, rfl, T1, B1⟩
  obtain rfl : n1 = 3 := T1.len
  have T1' := Lib.hid T1
  have B1' := Lib.hid (b1.out.trans (B1.mono b1.out.size))
  clear T1 B1 b1 l1 q1
  go_wp2_with fail
  refine (q2.out _ _ _ T1'.out).mono ?_
  rintro e w2 ⟨B2, ⟨-, a2, c2, rfl, hc2, s2⟩ | ⟨hh, -⟩⟩
  rotate_left
  · exact absurd t_check hh
  rw [t_put, ← tB] at s2
  rw [t_put]
  have T2 := Lib.hid (T1'.out.below B2)
  have B2' := Lib.hid (B1'.out.trans (B2.mono B1'.out.size))
  have s2' := Lib.hid s2
  clear B2 s2 B1' T1' hc2
  simp only [List.length_cons, List.length_nil, Nat.reduceAdd]
  go_wp2_with fail
  refine (q3.out _ _ c2 s2'.out).mono ?_
  rintro e w3 ⟨B3, a3, c3, rfl, T3⟩
  have T3' : Hid (TT w3 a3 3 c3 tL) := Lib.hid T3
  have e3 : (tL, 11, (0 : Int)).1.length = 3 := rfl
  simp only [show (tL, 11, (0 : Int)).1.length = 3 from rfl] at *
  have T2' := Lib.hid (T2.out.below B3)
  have B3' := Lib.hid (B2'.out.trans (B3.mono B2'.out.size))
  have s3' := Lib.hid ((s2'.out.below B3).mono B3.size)
  clear B3 T3 e3 B2' T2 s2' q3
  go_wp2_with fail
  refine (q4.out _ _ _ T2'.out).mono ?_
  rintro e w4 ⟨rfl, m4, rfl⟩
  have sl5 := Lib.hid (sees_new .u8 (w3.drewN m4) 5 tC #[.int .u8 2, .int .u8 0, .int .u8 1, .int .u8 97, .int .u8 0, .int .u8 2, .int .u8 97, .int .u8 98] rfl)
  obtain ⟨W5, hW5⟩ : ∃ W5, W5 = (w3.drewN m4).alloc (.cells #[.int .u8 2, .int .u8 0, .int .u8 1, .int .u8 97, .int .u8 0, .int .u8 2, .int .u8 97, .int .u8 98] 5) := ⟨_, rfl⟩
  have b5 : Below w3.heap.size w3 W5 := by rw [hW5]; exact (Below.drewN (Below.refl _ _) m4).alloc (Nat.le_refl _) _
  have h5z : (w3.drewN m4).heap.size + 1 = W5.heap.size := by rw [hW5]; simp
  rw [← hW5, h5z] at sl5
  have hW5' := Lib.hid hW5
  have B5' := Lib.hid (B3'.out.trans (b5.mono B3'.out.size))
  have T5a := Lib.hid (T2'.out.below b5)
  have T5b := Lib.hid (T3'.out.below b5)
  have s5' := Lib.hid ((s3'.out.below b5).mono b5.size)
  clear hW5 b5 h5z q4 T2' T3' B3' s3'
  go_wp2_with fail
  rw [← hW5'.out]
  refine (q5.out _ _ sl5.out).mono ?_
  rintro e w6 ⟨B6, a6, c6, rfl, T6⟩
  rw [show (getT tC).2.2 = 50 from t_get]
  generalize (getT tC).2.1 = pl at *
  generalize (getT tC).1.length = pn at *
  have l7 := Lib.hid (tt_lit w6 [⟨#[98]⟩, ⟨#[97]⟩] _ rfl 2 rfl (by decide) _ rfl)
  have b7 := below_box w6 #[.string ⟨#[98]⟩, .string ⟨#[97]⟩] 9
  have b67 := B6.trans (b7.mono B6.size)
  have B7' := Lib.hid (B5'.out.trans (b67.mono B5'.out.size))
  have T7a := Lib.hid (T5a.out.below b67)
  have T7b := Lib.hid (T5b.out.below b67)
  have s7' := Lib.hid ((s5'.out.below b67).mono b67.size)
  clear B6 T6 b7 b67 hW5' q5 sl5 T5a T5b B5' s5'
  go_wp2_with fail
  refine (q6.out _ _ l7.out).mono ?_
  rintro e w8 ⟨B8, ⟨hh, -⟩ | ⟨-, rfl⟩⟩
  · exact absurd hh (by rw [t_bad]; decide)
  rw [t_bad]
  have l9 := Lib.hid (tt_lit w8 tL #[.string ⟨#[97, 98]⟩, .string ⟨#[97, 98, 99]⟩, .string ⟨#[98]⟩] rfl 3 rfl (by decide) _ rfl)
  have b9 := below_box w8 #[.string ⟨#[97, 98]⟩, .string ⟨#[97, 98, 99]⟩, .string ⟨#[98]⟩] 9
  have b89 := B8.trans (b9.mono B8.size)
  have B9' := Lib.hid (B7'.out.trans (b89.mono B7'.out.size))
  have T9a := Lib.hid (T7a.out.below b89)
  have T9b := Lib.hid (T7b.out.below b89)
  have s9' := Lib.hid ((s7'.out.below b89).mono b89.size)
  clear B8 b9 b89 q6 l7 T7a T7b B7' s7'
  go_wp2_with fail
  refine (q7.out _ _ _ _ _ T9a.out l9.out).mono ?_
  rintro e w10 ⟨rfl, m10, hw10⟩
  have T10a := Lib.hid (T9a.out.drewN m10)
  have T10b := Lib.hid (T9b.out.drewN m10)
  have B10 := Lib.hid (Below.drewN B9'.out m10)
  have s10 := Lib.hid (s9'.out.drewN m10)
  rw [← hw10] at T10a T10b B10 s10
  have hcv : (convert 25 9 (.slice a2 11 c2)).run Try.prog w10 = .ok (.string (strOfNums tB)) w10 := conv_sees _ 9 5 Try.underlying25 Try.underlying5 Try.underlying9 s10.out _ _ rfl
  rw [show strOfNums tB = ⟨#[3, 0, 2, 97, 98, 2, 1, 99, 0, 1, 98]⟩ by rfl] at hcv
  clear hw10 T9a T9b B9' s9' l9 s10
  go_wp2_with fail
  refine (q7.out _ _ _ _ _ T10a.out T10b.out).mono ?_
  rintro e w11 ⟨rfl, m11, rfl⟩
  clear hcv
  go_wp2_with fail
  refine (q8.out _ _ _ (T10a.out.drewN m11)).mono ?_
  rintro e w12 ⟨rfl, m12, rfl⟩
  go_wp2_with fail
  refine (q9.out _ _ _ _ _ (T10a.out.drewN _) (T10b.out.drewN _)).mono ?_
  rintro e w13 ⟨rfl, m13, rfl⟩
  go_wp2
  go_ret
  exact ⟨rfl, Below.drewN B10.out _⟩
end Go.Proofs.Ytkfgfbdlbiahkaa
