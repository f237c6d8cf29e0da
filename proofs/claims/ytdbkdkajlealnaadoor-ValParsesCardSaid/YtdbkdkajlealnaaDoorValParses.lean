/- ValParses: the walk of the statement's function. -/
import Derived.Test.YtdbkdkajlealnaaDoorValLives
namespace Go.Proofs.YtdbkdkajlealnaaDoor
open Go.RowKit
set_option linter.unusedVariables false
set_option linter.unusedSimpArgs false

set_option maxRecDepth 100000 in
set_option maxHeartbeats 2000000 in
theorem valParses_walk (w : World) (ht : Tab w) (s : ByteArray) (hsw : s.size ≤ maxLen) :
    Calls Tryd.prog 5 #[.string s] w (Gives (.bool true) w) := by
  unfold maxLen at hsw
  have hL := Lib.hid (fun w ht => lives_any w ht)
  have hb0 : Below w.heap.size w w := Below.refl _ _
  by_cases hbig : 1000 < s.size
  · have hd : decide ((1000 : Int) < (s.size : Int)) = true := by simp; omega
    go_enter Tryd.func5, Tryd.ntmps5
    go_wp2_with fail
    refine (hL.out _ (ht.on hb0)).mono ?_
    rintro e v1 ⟨rfl, g1⟩
    have hb0_1 := on2 hb0 g1
    go_wp2
    go_ret
    exact ⟨rfl, hb0_1⟩
  have hd : decide ((1000 : Int) < (s.size : Int)) = false := by simp; omega
  have c1 := fun w => parse_any s (by omega) w
  have c2 := fun w => refparse_any s (by omega) w
  have hv := parseV_iff s.data.toList
  have hsb := str_beq
  cases hp : parseV s.data.toList with
  | none =>
    rw [show parseN s.data.toList = 0 by unfold parseN; rw [hp]; rfl] at c1 c2
    rw [show parseE s.data.toList = 60 by unfold parseE; rw [hp]; rfl] at c1
    rw [hp, show (none : Option Int).isSome = false from rfl] at c2
    have d1 := Lib.hid c1
    have d2 := Lib.hid c2
    clear c1 c2 hv hp hsb
    go_enter Tryd.func5, Tryd.ntmps5
    go_wp2_with fail
    refine (d1.out _).mono ?_
    rintro e v1 ⟨rfl, g1⟩
    have hb0_1 := on2 hb0 g1
    go_wp2_with fail
    refine (d2.out _).mono ?_
    rintro e w' ⟨rfl, rfl⟩
    go_wp2_with fail
    refine (hL.out _ (ht.on hb0_1)).mono ?_
    rintro e v2 ⟨rfl, g2⟩
    have hb0_2 := on2 hb0_1 g2
    go_wp2
    go_ret
    exact ⟨rfl, hb0_2⟩
  | some v =>
    rw [show parseN s.data.toList = v by unfold parseN; rw [hp]; rfl] at c1 c2
    rw [show parseE s.data.toList = 0 by unfold parseE; rw [hp]; rfl] at c1
    rw [hp, show (some v : Option Int).isSome = true from rfl] at c2
    obtain ⟨hr, hs⟩ := (hv v).1 hp
    have c3 := fun w ht => show_any v w ht
    rw [clip_id hr.1 hr.2, hs] at c3
    have heq : ((strB s.data.toList).toList == s.toList) = true := by rw [hsb, decide_eq_true_iff]; rfl
    rw [show strB s.data.toList = s from rfl] at c3 heq
    have d1 := Lib.hid c1
    have d2 := Lib.hid c2
    have d3 := Lib.hid c3
    clear c1 c2 c3 hv hp hsb hs
    go_enter Tryd.func5, Tryd.ntmps5
    go_wp2_with fail
    refine (d1.out _).mono ?_
    rintro e v1 ⟨rfl, g1⟩
    have hb0_1 := on2 hb0 g1
    go_wp2_with fail
    refine (d2.out _).mono ?_
    rintro e w' ⟨rfl, rfl⟩
    go_wp2_with fail
    refine (hL.out _ (ht.on hb0_1)).mono ?_
    rintro e v2 ⟨rfl, g2⟩
    have hb0_2 := on2 hb0_1 g2
    go_wp2_with fail
    refine (d3.out _ (ht.on hb0_2)).mono ?_
    rintro e v3 ⟨rfl, g3⟩
    have hb0_3 := on2 hb0_2 g3
    go_wp2
    go_ret
    exact ⟨rfl, hb0_3⟩
end Go.Proofs.YtdbkdkajlealnaaDoor
