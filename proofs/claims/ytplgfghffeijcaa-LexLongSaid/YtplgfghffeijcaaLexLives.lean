/- What must come of every program: lex. -/
import Derived.Test.YtplgfghffeijcaaLexRef1
namespace Go.Proofs.Ytplgfghffeijcaa
open Go.RowKit
set_option linter.unusedVariables false
set_option linter.unusedSimpArgs false

def lvA : ByteArray := ⟨#[97, 32, 34, 98, 32, 99, 34, 10, 100, 10]⟩
def lvB : ByteArray := ⟨#[97, 98, 10, 99, 32, 32, 100, 10]⟩
def lvL : List Tk := [⟨1, 1, 1, ⟨#[97]⟩⟩, ⟨2, 1, 3, ⟨#[98, 32, 99]⟩⟩, ⟨3, 1, 8, ⟨#[]⟩⟩, ⟨1, 2, 1, ⟨#[100]⟩⟩, ⟨3, 2, 2, ⟨#[]⟩⟩]
def lvE : List Tk := [⟨3, 0, 0, ⟨#[]⟩⟩]
set_option maxRecDepth 100000
theorem lv_t1 : tokO (codes lvA) = (lvL, 2, 0, 0) := by kernel_rfl
theorem lv_t2 : tokO (codes lvB) = ([], 2, 3, 230) := by kernel_rfl
theorem lv_s1 : (strOfNums (showO lvL).1, (showO lvL).2) = (lvA, 0) := by kernel_rfl
theorem lv_s2 : (strOfNums (showO lvE).1, (showO lvE).2) = (⟨#[]⟩, 1) := by kernel_rfl
theorem lv_q : strOfNums (quoteL (codes ⟨#[34]⟩)) = ⟨#[34, 92, 34, 34]⟩ := by kernel_rfl
theorem lv_w1 : wordL (codes ⟨#[120]⟩) = true := by kernel_rfl
theorem lv_w2 : wordL (codes ⟨#[120, 32, 121]⟩) = false := by kernel_rfl
theorem tkB_self (p : Bool) (t : Tk) : tkB p t t = true := by unfold tkB; simp
theorem sameB_self (p : Bool) (l : List Tk) : sameB p l l = true := by
  unfold sameB sameK
  rw [decide_eq_true rfl, Bool.true_and, List.all_eq_true]
  intro i _
  exact tkB_self p _
theorem txb_of {l : List Tk} {n : Nat} (h : l.all (fun t => decide (t.tx.size ≤ n)) = true) : TxB l n := by
  intro t ht
  have := List.all_eq_true.1 h t ht
  simpa using this
/-- A literal of tokens. -/
theorem tl_lit (w : World) (l : List Tk) (cs : Array Value) (h : cs = (tcells l).toArray) (n : Nat) (hn : n = l.length) (hm : n ≤ maxLen) : TL (w.alloc (.cells cs 36)) (some ⟨w.heap.size, 0, none⟩) n n l := by
  subst h
  exact ⟨hn, Nat.le_refl _, hm, by simpa using seesC_lit w 36 (tcells l).toArray⟩
set_option maxHeartbeats 4000000 in
theorem xlives_any (w : World) : Calls Try.prog 8 #[] w (GivesB (.bool true) w) := by
  have q1 := Lib.hid (tokens_any lvA (by decide) w)
  rw [lv_t1] at q1
  have q2 := Lib.hid (fun W => tokens_any lvB (by decide) W)
  rw [lv_t2] at q2
  have q3 := Lib.hid (fun W a c (h : TL W a 5 c lvL) => show_any a 5 c lvL (txb_of (by decide)) (by decide) W h)
  have q4 := Lib.hid (fun W a c (h : TL W a 1 c lvE) => show_any a 1 c lvE (txb_of (by decide)) (by decide) W h)
  have q5 := Lib.hid (fun W a1 a2 c1 c2 (h1 : TL W a1 5 c1 lvL) (h2 : TL W a2 5 c2 lvL) => rsame_any true a1 a2 5 5 c1 c2 lvL lvL (by decide) W h1 h2)
  rw [sameB_self] at q5
  have q6 := Lib.hid (fun W => quote_any ⟨#[34]⟩ (by decide) W)
  rw [lv_q] at q6
  have q7 := Lib.hid (fun W => isWord_any ⟨#[120]⟩ W)
  rw [lv_w1] at q7
  have q8 := Lib.hid (fun W => isWord_any ⟨#[120, 32, 121]⟩ W)
  rw [lv_w2] at q8
  have s1 := Lib.hid (Prod.mk.inj lv_s1)
  have s2 := Lib.hid (Prod.mk.inj lv_s2)
  unfold lvA at q1
  unfold lvB at q2
  go_enter Try.func8, Try.ntmps8
  go_wp2_with fail
  refine q1.out.mono ?_
  rintro e w1 ⟨a1, n1, c1, rfl, hn1, hc1, hm1, hs1, b1⟩
  obtain rfl : n1 = 5 := hn1
  have T1 := Lib.hid (show TL w1 a1 5 c1 lvL from ⟨rfl, hc1, hm1, hs1⟩)
  have B1 := Lib.hid b1
  clear hc1 hm1 hs1 b1 q1
  go_wp2_with fail
  refine (q2.out _).mono ?_
  rintro e w2 ⟨a2, n2, c2, rfl, -, -, -, -, b2⟩
  have T2 := Lib.hid (T1.out.below b2)
  have B2 := Lib.hid (B1.out.trans (b2.mono B1.out.size))
  have h3 := Lib.hid (q3.out w2 a1 c1 T2.out)
  clear b2 T1 B1 q2 q3
  go_wp2_with fail
  refine h3.out.mono ?_
  rintro e w3 ⟨rfl, b3⟩
  rw [s1.out.1, s1.out.2]
  have T3 := Lib.hid (T2.out.below b3)
  have B3 := Lib.hid (B2.out.trans (b3.mono B2.out.size))
  have L3 := Lib.hid (tl_lit w3 lvE #[.int .i64 3, .int .i64 0, .int .i64 0, .string ⟨#[]⟩] rfl 1 rfl (by simp [maxLen]))
  have b4' := lit_below w3 (.cells #[.int .i64 3, .int .i64 0, .int .i64 0, .string ⟨#[]⟩] 36)
  have T4 := Lib.hid (T3.out.below b4')
  have B4 := Lib.hid (B3.out.trans (b4'.mono B3.out.size))
  have h4 := Lib.hid (q4.out _ _ _ L3.out)
  clear b3 b4' T2 B2 T3 B3 h3 q4 L3
  unfold lvA
  go_wp2_with fail
  refine h4.out.mono ?_
  rintro e w5 ⟨rfl, b5⟩
  rw [s2.out.1, s2.out.2]
  have T5 := T4.out.below b5
  have B5 := B4.out.trans (b5.mono B4.out.size)
  have L5 := tl_lit w5 lvL #[.int .i64 1, .int .i64 1, .int .i64 1, .string ⟨#[97]⟩, .int .i64 2, .int .i64 1, .int .i64 3, .string ⟨#[98, 32, 99]⟩, .int .i64 3, .int .i64 1, .int .i64 8, .string ⟨#[]⟩, .int .i64 1, .int .i64 2, .int .i64 1, .string ⟨#[100]⟩, .int .i64 3, .int .i64 2, .int .i64 2, .string ⟨#[]⟩] rfl 5 rfl (by simp [maxLen])
  have b6' := lit_below w5 (.cells #[.int .i64 1, .int .i64 1, .int .i64 1, .string ⟨#[97]⟩, .int .i64 2, .int .i64 1, .int .i64 3, .string ⟨#[98, 32, 99]⟩, .int .i64 3, .int .i64 1, .int .i64 8, .string ⟨#[]⟩, .int .i64 1, .int .i64 2, .int .i64 1, .string ⟨#[100]⟩, .int .i64 3, .int .i64 2, .int .i64 2, .string ⟨#[]⟩] 36)
  have h6 := Lib.hid (q5.out _ _ _ _ _ (T5.below b6') L5)
  have B6 := Lib.hid (B5.trans (b6'.mono B5.size))
  clear b5 b6' T4 B4 T5 B5 h4 q5 L5
  go_wp2_with fail
  refine h6.out.mono ?_
  rintro e w7 ⟨rfl, b7⟩
  have B7 := Lib.hid (B6.out.trans (b7.mono B6.out.size))
  clear b7 h6 B6
  go_wp2_with fail
  refine (q6.out _).mono ?_
  rintro e w8 ⟨rfl, b8⟩
  have B8 := Lib.hid (B7.out.trans (b8.mono B7.out.size))
  clear b8 q6 B7
  go_wp2_with fail
  refine (q7.out _).mono ?_
  rintro e w9 ⟨rfl, b9⟩
  have B9 := Lib.hid (B8.out.trans (b9.mono B8.out.size))
  clear b9 q7 B8
  go_wp2_with fail
  refine (q8.out _).mono ?_
  rintro e w10 ⟨rfl, b10⟩
  have B10 := Lib.hid (B9.out.trans (b10.mono B9.out.size))
  clear b10 q8 B9
  go_wp2
  go_ret
  exact ⟨rfl, B10.out⟩
end Go.Proofs.Ytplgfghffeijcaa
