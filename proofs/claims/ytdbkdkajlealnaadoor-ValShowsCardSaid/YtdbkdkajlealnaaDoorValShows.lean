/- ValShows: the walk of the statement's function. -/
import Derived.Test.YtdbkdkajlealnaaDoorValLives
namespace Go.Proofs.YtdbkdkajlealnaaDoor
open Go.RowKit
set_option linter.unusedVariables false
set_option linter.unusedSimpArgs false

set_option maxRecDepth 100000 in
set_option maxHeartbeats 2000000 in
theorem valShows_walk (w : World) (ht : Tab w) (a : Int) (haw : (Lit.int .i64 a).wf = true) :
    Calls Tryd.prog 4 #[.int .i64 a] w (Gives (.bool true) w) := by
  have hL := Lib.hid (fun w ht => lives_any w ht)
  have hx := clip_in a
  have hp := parseV_show hx.1 hx.2
  have c1 := fun w ht => show_any a w ht
  have hsz : (showV (clip a)).length ≤ 1000 := by
    have h1 := Lib.itoa_length_le (clip a) (by omega) (by omega)
    unfold showV; split
    · decide
    · split
      · decide
      · omega
  have c2 := fun w => parse_any (strB (showV (clip a))) (by rw [strB_size]; exact hsz) w
  rw [show (strB (showV (clip a))).data.toList = showV (clip a) from rfl, show parseN (showV (clip a)) = clip a by unfold parseN; rw [hp]; rfl, show parseE (showV (clip a)) = 0 by unfold parseE; rw [hp]; rfl] at c2
  have c3 := fun w => refclip_any a w
  have c4 := fun w => refshow_any (clip a) (by omega) (by omega) w
  generalize strB (showV (clip a)) = T at *
  generalize clip a = x at *
  have d1 := Lib.hid c1
  have d2 := Lib.hid c2
  have d3 := Lib.hid c3
  have d4 := Lib.hid c4
  clear c1 c2 c3 c4 hp hsz
  have hb0 : Below w.heap.size w w := Below.refl _ _
  go_enter Tryd.func4, Tryd.ntmps4
  go_wp2_with fail
  refine (d1.out _ (ht.on hb0)).mono ?_
  rintro e v1 ⟨rfl, g1⟩
  have hb0_1 := on2 hb0 g1
  go_wp2_with fail
  refine (d2.out _).mono ?_
  rintro e v2 ⟨rfl, g2⟩
  have hb0_2 := on2 hb0_1 g2
  go_wp2_with fail
  refine (hL.out _ (ht.on hb0_2)).mono ?_
  rintro e v3 ⟨rfl, g3⟩
  have hb0_3 := on2 hb0_2 g3
  go_wp2_with fail
  refine (d3.out _).mono ?_
  rintro e w' ⟨rfl, rfl⟩
  go_wp2_with fail
  refine (d4.out _).mono ?_
  rintro e w' ⟨rfl, rfl⟩
  go_wp2_with fail
  refine (d3.out _).mono ?_
  rintro e w' ⟨rfl, rfl⟩
  go_wp2
  go_ret
  exact ⟨rfl, hb0_3⟩
end Go.Proofs.YtdbkdkajlealnaaDoor
