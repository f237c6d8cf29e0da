/- 'lives' of the statements on cur. -/
import Derived.Test.YtnojapdcdjpebaaCurMeth
import Derived.Test.YtnojapdcdjpebaaCurPens
import Derived.Test.YtnojapdcdjpebaaCurMore
namespace Go.Proofs.Ytnojapdcdjpebaa
open Go.RowKit
set_option linter.unusedVariables false

theorem leb_300 : leb (300 : Int).toNat = [172, 2] := by
  rw [leb_int (by omega), leb_int_small (by omega) (by omega)]; rfl
theorem leb_m1 : leb (zig (-1)).toNat = [1] := by
  rw [show zig (-1) = 1 by rfl, leb_int_small (by omega) (by omega)]
theorem leb_two : leb (ByteArray.size ⟨#[97, 98]⟩) = [2] := by
  rw [show (ByteArray.size ⟨#[97, 98]⟩) = (2 : Int).toNat by rfl, leb_int_small (by omega) (by omega)]
/-- The bytes of the short run. -/
theorem run_bytes : ((((([] ++ leb (300 : Int).toNat) ++ leb (zig (-1)).toNat) ++ (leb (ByteArray.size ⟨#[97, 98]⟩) ++ codes ⟨#[97, 98]⟩)) ++ wordB 258) ++ [(7 : Int) % 256]) = [172, 2, 1, 2, 97, 98, 2, 1, 0, 0, 7] := by
  rw [leb_300, leb_m1, leb_two]; rfl
def B11 : List Int := [172, 2, 1, 2, 97, 98, 2, 1, 0, 0, 7]
/-- What a call of a reader leaves, for one who looks at the beginning of all. -/
theorem Moved.all {W w w' : World} {r : Nat} {a : Option Addr} {cap : Nat} {bs : List Int} {q : Nat} {x : Int} (h : Moved r a cap bs q x w w') (hb : Below W.heap.size W w) (hr : W.heap.size ≤ r) : Below W.heap.size W w' :=
  hb.trans ((h.2.mono hb.size).toBelow (by simpa using hr))
theorem Turns.all {W w w' : World} {F F' : List Nat} (h : Turns F F' w w') (hb : Below W.heap.size W w) (hF : ∀ x ∈ F, W.heap.size ≤ x) : Below W.heap.size W w' ∧ ∀ x ∈ F', W.heap.size ≤ x :=
  ⟨hb.trans ((h.1.mono hb.size).toBelow hF), fun x hx => (h.2 x hx).elim (hF x) (fun h => Nat.le_trans hb.size h)⟩

set_option maxRecDepth 100000 in
set_option maxHeartbeats 2000000 in
theorem lives_any (w : World) : Calls Try.prog 6 #[] w (Gives (.bool true) w) := by
  go_enter Try.func6, Try.ntmps6
  go_wp2_with fail
  refine (new_any w).mono ?_
  rintro e w1 ⟨g, F, rfl, p0, b0, f0⟩
  go_wp2_with fail
  refine (pu_any g F [] 300 w1 p0 (by omega) (by unfold U64; omega) (by simp)).mono ?_
  rintro e w2 ⟨rfl, F1, p1, t1⟩
  obtain ⟨b1, f1⟩ := t1.all b0 f0
  go_wp2_with fail
  refine (pi_any g F1 _ (-1) w2 p1 (by decide) (by rw [leb_300]; simp)).mono ?_
  rintro e w3 ⟨rfl, F2, p2, t2⟩
  obtain ⟨b2, f2⟩ := t2.all b1 f1
  go_wp2_with fail
  refine (ptext_any g F2 _ ⟨#[97, 98]⟩ w3 p2 (by decide) (by rw [leb_300, leb_m1]; simp) (by rw [leb_300, leb_m1]; decide)).mono ?_
  rintro e w4 ⟨rfl, F3, p3, t3⟩
  obtain ⟨b3, f3⟩ := t3.all b2 f2
  go_wp2_with fail
  refine (pword_any g F3 _ 258 w4 p3 (by omega) (by omega) (by rw [leb_300, leb_m1, leb_two]; decide)).mono ?_
  rintro e w5 ⟨rfl, F4, p4, t4⟩
  obtain ⟨b4, f4⟩ := t4.all b3 f3
  go_wp2_with fail
  refine (pbyte_any g F4 _ 7 w5 p4 (by rw [leb_300, leb_m1, leb_two]; decide)).mono ?_
  rintro e w6 ⟨rfl, F5, p5, t5⟩
  obtain ⟨b5, f5⟩ := t5.all b4 f4
  rw [run_bytes] at p5
  clear p0 p1 p2 p3 p4 t1 t2 t3 t4 t5 f0 f1 f2 f3 f4 b0 b1 b2 b3 b4
  go_wp2_with fail
  refine (pbytes_any g F5 _ w6 p5 (by decide)).mono ?_
  intro e w7 h7
  obtain ⟨a7, c7, rfl, s7, b7⟩ := h7.open 11 rfl
  clear h7
  replace b5 := b5.trans (b7.mono b5.size)
  replace p5 := p5.below b7
  go_wp2_with fail
  refine (from_any a7 B11 11 c7 rfl _ w7 (by decide) (bs_lit (by decide)) s7).mono ?_
  rintro e w8 ⟨r, a8, c8, rfl, R, b8, hr⟩
  have hrw : w.heap.size ≤ r := Nat.le_trans b5.size hr
  have hF : ∀ x ∈ F5, x ∉ [r] := by
    intro x hx hm
    obtain ⟨v, _, _, _, _, h⟩ := p5
    have := h x hx
    simp at hm
    omega
  replace b5 := b5.trans (b8.mono b5.size)
  replace p5 := p5.below b8
  clear b7 b8 s7
  go_wp2_with fail
  refine (u_any r a8 c8 B11 0 0 w8 R).mono ?_
  rw [show uO B11 0 0 = (300, 2, 0) by decide]
  rintro e w9 ⟨rfl, m9⟩
  replace R := R.moved m9 (by decide)
  replace p5 := p5.belowE m9.2 hF
  replace b5 := m9.all b5 hrw
  clear m9
  go_wp2_with fail
  refine (i_any r a8 c8 B11 2 0 w9 R).mono ?_
  rw [show iO B11 2 0 = (-1, 3, 0) by decide]
  rintro e w10 ⟨rfl, m9⟩
  replace R := R.moved m9 (by decide)
  replace p5 := p5.belowE m9.2 hF
  replace b5 := m9.all b5 hrw
  clear m9
  go_wp2_with fail
  refine (text_any r a8 c8 B11 3 0 2 (by omega) w10 R).mono ?_
  rw [show textO 2 B11 3 0 = (⟨#[97, 98]⟩, 6, 0) by rfl]
  rintro e w11 ⟨rfl, m9⟩
  replace R := R.moved m9 (by decide)
  replace p5 := p5.belowE m9.2 hF
  replace b5 := m9.all b5 hrw
  clear m9
  go_wp2_with fail
  refine (word_any r a8 c8 B11 6 0 w11 R).mono ?_
  rw [show wordO B11 6 0 = (258, 10, 0) by decide]
  rintro e w12 ⟨rfl, m9⟩
  replace R := R.moved m9 (by decide)
  replace p5 := p5.belowE m9.2 hF
  replace b5 := m9.all b5 hrw
  clear m9
  go_wp2_with fail
  refine (byte_any r a8 c8 B11 10 0 w12 R).mono ?_
  rw [show byteO B11 10 0 = (7, 11, 0) by decide]
  rintro e w13 ⟨rfl, m9⟩
  replace R := R.moved m9 (by decide)
  replace p5 := p5.belowE m9.2 hF
  replace b5 := m9.all b5 hrw
  clear m9
  go_wp2_with fail
  have bn : Below w13.heap.size w13 (w13.alloc (.cells #[.int .u8 2, .int .u8 97] 5)) := (Below.refl _ _).alloc (Nat.le_refl _) _
  replace R := R.ahead bn
  replace p5 := p5.below bn
  replace b5 := b5.trans (bn.mono b5.size)
  have s14 := sees_four w13 5 [2, 97] #[.int .u8 2, .int .u8 97] rfl
  clear bn
  generalize w13.alloc (.cells #[.int .u8 2, .int .u8 97] 5) = w14 at *
  refine (from_any _ [2, 97] 2 _ rfl _ w14 (by decide) (bs_lit (by decide)) s14).mono ?_
  rintro e w15 ⟨q, a9, c9, rfl, Q, b9, hq⟩
  have hrq : r < w14.heap.size := R.blk.lt
  have hqw : w.heap.size ≤ q := Nat.le_trans b5.size hq
  have hG : ∀ x ∈ F5, x ∉ [q] := by
    intro x hx hm
    obtain ⟨v, _, _, _, _, h⟩ := p5
    have := h x hx
    simp at hm
    omega
  have hne : r ≠ q := by omega
  replace R := R.ahead b9
  replace p5 := p5.below b9
  replace b5 := b5.trans (b9.mono b5.size)
  clear b9 s14
  go_wp2_with fail
  refine (text_any q a9 c9 [2, 97] 0 0 5 (by omega) w15 Q).mono ?_
  rw [show textO 5 [2, 97] 0 0 = (⟨#[]⟩, 0, 10) by rfl]
  rintro e w16 ⟨rfl, m9⟩
  replace Q := Q.moved m9 (by decide)
  have R2 := R.blk.belowE m9.2 R.blk.lt (by simpa using hne)
  replace p5 := p5.belowE m9.2 hG
  replace b5 := m9.all b5 hqw
  clear m9 R
  go_wp2_with fail
  refine (pbytes_any g F5 _ w16 p5 (by decide)).mono ?_
  intro e w17 h17
  obtain ⟨a17, c17, rfl, s17, b17⟩ := h17.open 11 rfl
  have hcv : (convert 22 9 (.slice a17 11 c17)).run Try.prog w17 = .ok (.string ⟨#[172, 2, 1, 2, 97, 98, 2, 1, 0, 0, 7]⟩) w17 := conv_sees _ 9 5 Try.underlying22 Try.underlying5 Try.underlying9 s17 11 c17 rfl
  have R3 := R2.below b17 R2.lt
  have Q3 := Q.blk.below b17 Q.blk.lt
  replace b5 := b5.trans (b17.mono b5.size)
  clear h17 s17 p5 R2 Q b17
  go_wp2_with fail
  refine (left_holds r a8 c8 B11 11 0 w17 R3 (by decide) (by decide)).mono ?_
  rw [show leftO B11 11 0 = 0 by decide]
  rintro e w18 ⟨rfl, m18, rfl⟩
  go_wp2_with fail
  refine (at_any r 11 _ ((R3.drewN m18).cell 1)).mono ?_
  rintro e w19 ⟨rfl, rfl⟩
  go_wp2_with fail
  refine (err_any r 0 _ ((R3.drewN m18).cell 2)).mono ?_
  rintro e w19 ⟨rfl, rfl⟩
  go_wp2_with fail
  refine (err_any q 10 _ ((Q3.drewN m18).cell 2)).mono ?_
  rintro e w19 ⟨rfl, rfl⟩
  go_wp2_with fail
  refine (at_any q 0 _ ((Q3.drewN m18).cell 1)).mono ?_
  rintro e w19 ⟨rfl, rfl⟩
  go_wp2
  go_ret
  exact ⟨rfl, Below.drewN b5 m18⟩
end Go.Proofs.Ytnojapdcdjpebaa
