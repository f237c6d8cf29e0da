/- StrsJoins: the walk of the statement's function. -/
import Derived.Test.YtkfgfbdlbiahkaaStrsLives
import Derived.Test.YtkfgfbdlbiahkaaStrsRefOf
import Derived.Test.YtkfgfbdlbiahkaaStrsLawPuts
namespace Go.Proofs.Ytkfgfbdlbiahkaa
open Go.RowKit
set_option linter.unusedVariables false
set_option linter.unusedSimpArgs false

theorem ofT_mem {l : List ByteArray} {x : ByteArray} : x ∈ ofT l ↔ x ∈ l := by
  unfold ofT
  rw [List.mem_map]
  constructor
  · rintro ⟨y, hy, rfl⟩
    obtain ⟨z, hz, rfl⟩ := List.mem_map.1 (of_mem.1 hy)
    rwa [mk_byt]
  · intro h
    exact ⟨byt x, of_mem.2 (List.mem_map.2 ⟨x, h, rfl⟩), mk_byt x⟩
theorem ofT_same {l m : List ByteArray} (h : ∀ x, x ∈ l ↔ x ∈ m) : ofT l = ofT m := by
  unfold ofT
  rw [of_same (l := l.map byt) (m := m.map byt) (fun x => by
    rw [List.mem_map, List.mem_map]
    constructor
    · rintro ⟨y, hy, rfl⟩; exact ⟨y, (h y).1 hy, rfl⟩
    · rintro ⟨y, hy, rfl⟩; exact ⟨y, (h y).2 hy, rfl⟩)]
theorem join1 (a b : List ByteArray) : ofT (ofT a ++ ofT b) = ofT (a ++ b) := ofT_same fun x => by simp [ofT_mem]
theorem join2 (a b : List ByteArray) : ofT (ofT b ++ ofT (a ++ b)) = ofT (a ++ b) := ofT_same fun x => by
  simp only [List.mem_append, ofT_mem]
  constructor
  · rintro (h | h | h)
    · exact .inr h
    · exact .inl h
    · exact .inr h
  · rintro (h | h)
    · exact .inr (.inl h)
    · exact .inl h
theorem join_len (a b : List ByteArray) : (ofT (a ++ b)).length ≤ (ofT a).length + (ofT b).length := by
  rw [← join1]
  have := ofT_len (ofT a ++ ofT b)
  simpa using this
theorem TT.cells {w : World} {a : Option Addr} {n c : Nat} {l : List ByteArray} (h : TT w a n c l) : SeesC w.heap.size w a (txts l) := by
  rcases h.sees with e | ⟨b, off, h1, h2, h3⟩
  · subst e; exact .inl rfl
  · refine .inr ⟨b, off, h1, h2, fun i u hu => ?_⟩
    have hi : i < l.length := by have := (List.getElem?_eq_some_iff.1 hu).1; rwa [txts_length] at this
    rw [txts_get hi] at hu
    injection hu with hu
    rw [← hu]
    exact h3 i hi
theorem tt_row {w : World} {base n : Nat} {v : Value} {l : List ByteArray} (h : w.ownsRow base 9 1 v n (txts l)) : ∃ a c, v = .slice a n c ∧ TT w a n c l := by
  obtain ⟨a, c, rfl, hn, -⟩ := sees_ownT h
  subst hn
  exact ⟨a, c, rfl, tt_own h⟩

set_option maxRecDepth 100000 in
set_option maxHeartbeats 8000000 in
theorem strsJoins_walk (w : World) (a : Option Addr) (n c : Nat) (hrow : TSl w a n c) (b : Option Addr) (k d : Nat) (hrow2 : TSl w b k d) :
    Calls Try.prog 5 #[.slice a n c, .slice b k d] w (Gives (.bool true) w) := by
  obtain ⟨i0, hi, hz0, hz1, hz2⟩ := info_parts infoStr
  obtain ⟨l, hT, -, hn⟩ := hrow
  obtain ⟨m, hU, -, hk⟩ := hrow2
  have hT' := Lib.hid hT
  have hU' := Lib.hid hU
  have hlen := Lib.hid hT.len
  have hlen2 := Lib.hid hU.len
  have hlg := Lib.hid (rlarge_any a n c l w hT)
  have hlg2 := Lib.hid (rlarge_any b k d m w hU)
  have hsm : Hid (largeT l = false → n ≤ 200) := Lib.hid (fun h => by have := (large_no h).1; have := hlen.out; omega)
  have hsm2 : Hid (largeT m = false → k ≤ 200) := Lib.hid (fun h => by have := (large_no h).1; have := hlen2.out; omega)
  clear hT hU
  cases hl : largeT l
  rotate_left
  · rw [hl] at hlg
    go_enter Try.func5, Try.ntmps5
    go_wp2_with fail
    refine hlg.out.mono ?_
    rintro e w1 ⟨rfl, rfl⟩
    clear hlg
    go_wp2_with fail
    refine (tlives_any _).mono ?_
    rintro e w1 ⟨rfl, b1⟩
    have b1' := Lib.hid b1
    clear b1
    go_wp2
    go_ret
    exact ⟨rfl, b1'.out⟩
  rw [hl] at hlg
  have hn2 := hsm.out hl
  cases hm : largeT m
  rotate_left
  · rw [hm] at hlg2
    go_enter Try.func5, Try.ntmps5
    go_wp2_with fail
    refine hlg.out.mono ?_
    rintro e w1 ⟨rfl, rfl⟩
    clear hlg
    go_wp2_with fail
    refine hlg2.out.mono ?_
    rintro e w1 ⟨rfl, rfl⟩
    go_wp2_with fail
    refine (tlives_any _).mono ?_
    rintro e w1 ⟨rfl, b1⟩
    have b1' := Lib.hid b1
    clear b1
    go_wp2
    go_ret
    exact ⟨rfl, b1'.out⟩
  rw [hm] at hlg2
  have hk2 := hsm2.out hm
  have q1 := Lib.hid (fun W (hb : Below w.heap.size w W) => of_any a n c l (by omega) W (hT'.out.below hb))
  have q2 := Lib.hid (fun W (hb : Below w.heap.size w W) => of_any b k d m (by omega) W (hU'.out.below hb))
  have q3 := Lib.hid (fun W a1 n1 c1 (h : n1 ≤ 8796093022208) (h1 : TT W a1 n1 c1 (l ++ m)) => of_any a1 n1 c1 (l ++ m) h W h1)
  have q4 := Lib.hid (fun W a1 n1 c1 (h : n1 ≤ 8796093022208) (h1 : TT W a1 n1 c1 (ofT l ++ ofT m)) => of_any a1 n1 c1 (ofT l ++ ofT m) h W h1)
  rw [join1] at q4
  have q5 := Lib.hid (fun W a1 n1 c1 (h : n1 ≤ 8796093022208) (h1 : TT W a1 n1 c1 (ofT m ++ ofT (l ++ m))) => of_any a1 n1 c1 (ofT m ++ ofT (l ++ m)) h W h1)
  rw [join2] at q5
  have q7 := Lib.hid (fun W a1 n1 c1 a2 n2 c2 (hn : n1 ≤ 9223372036854775806) (h1 : TT W a1 n1 c1 (ofT (l ++ m))) (h2 : TT W a2 n2 c2 (ofT (l ++ m))) => rsame_any a1 a2 n1 n2 c1 c2 (ofT (l ++ m)) (ofT (l ++ m)) hn W h1 h2)
  rw [same_self] at q7
  have hlx : Hid ((ofT l).length ≤ 200) := Lib.hid (by have := ofT_len l; have := hlen.out; omega)
  have hly : Hid ((ofT m).length ≤ 200) := Lib.hid (by have := ofT_len m; have := hlen2.out; omega)
  have hlz := Lib.hid (join_len l m)
  have hsT := Lib.hid (fun W (hb : Below w.heap.size w W) => (hT'.out.below hb).cells)
  have hsU := Lib.hid (fun W (hb : Below w.heap.size w W) => (hU'.out.below hb).cells)
  have hlt : (txts l).length = n * 1 := by rw [txts_length, hlen.out]; omega
  have hlu : (txts m).length = k * 1 := by rw [txts_length, hlen2.out]; omega
  have hap : Hid (∀ x y : List ByteArray, txts x ++ txts y = txts (x ++ y)) := Lib.hid (fun x y => (txts_add x y).symm)
  have hlt' := Lib.hid hlt
  have hlu' := Lib.hid hlu
  generalize hO : ofT (l ++ m) = O at *
  generalize hX : ofT l = X at *
  generalize hY : ofT m = Y at *
  clear hl hm hsm hsm2 hn hk hlt hlu hO hX hY hlen hlen2
  have hro : Hid ((w.alloc (.cells #[] 9)).ownsRow w.heap.size 9 1 (.slice (some ⟨w.heap.size, 0, none⟩) 0 0) 0 []) := Lib.hid (own_cells w 9 1 0 #[] (by simp) (by simp [maxLen]))
  go_enter Try.func5, Try.ntmps5
  go_wp2_with fail
  refine hlg.out.mono ?_
  rintro e w1 ⟨rfl, rfl⟩
  clear hlg
  go_wp2_with fail
  refine hlg2.out.mono ?_
  rintro e w1 ⟨rfl, rfl⟩
  clear hlg2
  go_wp2_with first
    | (at_builtin; refine wpList_append_cells_g _ (by rfl) (.tmp 15) (.tmp 16) 22 rfl w 9 i0 (.string ⟨#[]⟩) 1 16 Try.underlying22 hi hz0 hz1 hz2 rfl (by decide) _ 0 [] hro.out (below_box _ _ _) _ a n c (txts l) hlt'.out (hsT.out _ (below_box _ _ _)) (txts_one _) rfl rfl (by simp [maxLen]; omega) (by omega) ?_; intro v2 w2 o2 b2; simp only [List.nil_append, Nat.zero_add] at o2; have o2' := Lib.hid o2; have b2' := Lib.hid b2; clear o2 b2)
    | (at_builtin; refine wpList_append_cells_g _ (by rfl) (.tmp 17) (.tmp 18) 22 rfl w 9 i0 (.string ⟨#[]⟩) 1 16 Try.underlying22 hi hz0 hz1 hz2 rfl (by decide) _ n (txts l) o2'.out b2'.out _ b k d (txts m) hlu'.out (hsU.out _ b2'.out) (txts_one _) rfl rfl (by simp [maxLen]; omega) (by omega) ?_; intro v3 w3 o3 b3; rw [hap.out] at o3; obtain ⟨a3, c3, rfl, T3⟩ := tt_row o3; have T3' := Lib.hid T3; have b3' := Lib.hid b3; clear o3 b3 T3)
  clear o2' hro
  refine (q3.out _ _ _ _ (by omega) T3'.out).mono ?_
  rintro e w4 ⟨a4, n4, c4, rfl, T4, B4⟩
  have T4' := Lib.hid T4
  have B4' := Lib.hid (b3'.out.trans (B4.mono b3'.out.size))
  have hn4 : n4 ≤ 400 := by have := T4.len; have := hlz.out; have := hlx.out; have := hly.out; omega
  have hn4e := Lib.hid T4.len
  clear T4 B4 b3' b2' T3'
  go_wp2_with fail
  refine (q1.out _ B4'.out).mono ?_
  rintro e w5 ⟨a5, n5, c5, rfl, T5, B5⟩
  have T5' := Lib.hid T5
  have T45 := Lib.hid (T4'.out.below B5)
  have B5' := Lib.hid (B4'.out.trans (B5.mono B4'.out.size))
  have hn5 : n5 ≤ 200 := by have := T5.len; have := hlx.out; omega
  have hn5e := Lib.hid T5.len
  clear T5 B5 T4' B4'
  go_wp2_with fail
  refine (q2.out _ B5'.out).mono ?_
  rintro e w6 ⟨a6, n6, c6, rfl, T6, B6⟩
  have T66 := Lib.hid T6
  have T46 := Lib.hid (T45.out.below B6)
  have T56 := Lib.hid (T5'.out.below B6)
  have B6' := Lib.hid (B5'.out.trans (B6.mono B5'.out.size))
  have hn6 : n6 ≤ 200 := by have := T6.len; have := hly.out; omega
  have hn6e := Lib.hid T6.len
  have hsum : (n4 : Int) ≤ (n5 : Int) + (n6 : Int) := by have := hn4e.out; have := hn5e.out; have := hn6e.out; have := hlz.out; omega
  clear T6 B6 T45 T5' B5'
  go_wp2_with fail
  refine (tlives_any _).mono ?_
  rintro e w7 ⟨rfl, B7⟩
  have T47 := Lib.hid (T46.out.below B7)
  have T57 := Lib.hid (T56.out.below B7)
  have T67 := Lib.hid (T66.out.below B7)
  have B7' := Lib.hid (B6'.out.trans (B7.mono B6'.out.size))
  clear B7 T46 T56 T66 B6'
  have hro : Hid ((w7.alloc (.cells #[] 9)).ownsRow w7.heap.size 9 1 (.slice (some ⟨w7.heap.size, 0, none⟩) 0 0) 0 []) := Lib.hid (own_cells w7 9 1 0 #[] (by simp) (by simp [maxLen]))
  have hlA : Hid ((txts X).length = n5 * 1) := Lib.hid (by rw [txts_length, hn5e.out]; omega)
  have hlB : Hid ((txts Y).length = n6 * 1) := Lib.hid (by rw [txts_length, hn6e.out]; omega)
  have hsA := Lib.hid (fun W (hb : Below w7.heap.size w7 W) => (T57.out.below hb).cells)
  have hsB := Lib.hid (fun W (hb : Below w7.heap.size w7 W) => (T67.out.below hb).cells)
  go_wp2_with first
    | (at_builtin; refine wpList_append_cells_g _ (by rfl) (.tmp 28) (.tmp 29) 22 rfl w7 9 i0 (.string ⟨#[]⟩) 1 16 Try.underlying22 hi hz0 hz1 hz2 rfl (by decide) _ 0 [] hro.out (below_box _ _ _) _ a5 n5 c5 (txts X) hlA.out (hsA.out _ (below_box _ _ _)) (txts_one _) rfl rfl (by simp [maxLen]; omega) (by omega) ?_; intro v2 w2 o2 b2; simp only [List.nil_append, Nat.zero_add] at o2; have o2' := Lib.hid o2; have b2' := Lib.hid b2; clear o2 b2)
    | (at_builtin; refine wpList_append_cells_g _ (by rfl) (.tmp 30) (.tmp 31) 22 rfl w7 9 i0 (.string ⟨#[]⟩) 1 16 Try.underlying22 hi hz0 hz1 hz2 rfl (by decide) _ n5 (txts X) o2'.out b2'.out _ a6 n6 c6 (txts Y) hlB.out (hsB.out _ b2'.out) (txts_one _) rfl rfl (by simp [maxLen]; omega) (by omega) ?_; intro v3 w3 o3 b3; rw [hap.out] at o3; obtain ⟨a3, c3, rfl, T3⟩ := tt_row o3; have T3' := Lib.hid T3; have b3' := Lib.hid b3; clear o3 b3 T3)
  have C8 := Lib.hid (B7'.out.trans (b3'.out.mono B7'.out.size))
  have T4x := Lib.hid (T47.out.below b3'.out)
  have T5x := Lib.hid (T57.out.below b3'.out)
  have T6x := Lib.hid (T67.out.below b3'.out)
  clear o2' hro hlA hlB hsA hsB b2'
  refine (q4.out _ _ _ _ (by omega) T3'.out).mono ?_
  rintro e wy ⟨ay, ny, cy, rfl, Ty, By⟩
  have Ty' := Lib.hid Ty
  have T4y := Lib.hid (T4x.out.below By)
  have T5y := Lib.hid (T5x.out.below By)
  have T6y := Lib.hid (T6x.out.below By)
  have C8y := Lib.hid (C8.out.trans (By.mono C8.out.size))
  clear Ty By C8 T4x T5x T6x T3' b3'
  go_wp2_with fail
  refine (q7.out _ _ _ _ _ _ _ (by omega) T4y.out Ty'.out).mono ?_
  rintro e w8 ⟨rfl, mz, hwz⟩
  have T48 := Lib.hid (T4y.out.drewN mz)
  have T58 := Lib.hid (T5y.out.drewN mz)
  have T68 := Lib.hid (T6y.out.drewN mz)
  have B8' := Lib.hid (Below.drewN C8y.out mz)
  rw [← hwz] at T48 T58 T68 B8'
  clear hwz Ty' T4y T5y T6y C8y
  have hro : Hid ((w8.alloc (.cells #[] 9)).ownsRow w8.heap.size 9 1 (.slice (some ⟨w8.heap.size, 0, none⟩) 0 0) 0 []) := Lib.hid (own_cells w8 9 1 0 #[] (by simp) (by simp [maxLen]))
  have hlA : Hid ((txts Y).length = n6 * 1) := Lib.hid (by rw [txts_length, hn6e.out]; omega)
  have hlB : Hid ((txts O).length = n4 * 1) := Lib.hid (by rw [txts_length, hn4e.out]; omega)
  have hsA := Lib.hid (fun W (hb : Below w8.heap.size w8 W) => (T68.out.below hb).cells)
  have hsB := Lib.hid (fun W (hb : Below w8.heap.size w8 W) => (T48.out.below hb).cells)
  go_wp2_with first
    | (at_builtin; refine wpList_append_cells_g _ (by rfl) (.tmp 38) (.tmp 39) 22 rfl w8 9 i0 (.string ⟨#[]⟩) 1 16 Try.underlying22 hi hz0 hz1 hz2 rfl (by decide) _ 0 [] hro.out (below_box _ _ _) _ a6 n6 c6 (txts Y) hlA.out (hsA.out _ (below_box _ _ _)) (txts_one _) rfl rfl (by simp [maxLen]; omega) (by omega) ?_; intro v2 w2 o2 b2; simp only [List.nil_append, Nat.zero_add] at o2; have o2' := Lib.hid o2; have b2' := Lib.hid b2; clear o2 b2)
    | (at_builtin; refine wpList_append_cells_g _ (by rfl) (.tmp 40) (.tmp 41) 22 rfl w8 9 i0 (.string ⟨#[]⟩) 1 16 Try.underlying22 hi hz0 hz1 hz2 rfl (by decide) _ n6 (txts Y) o2'.out b2'.out _ a4 n4 c4 (txts O) hlB.out (hsB.out _ b2'.out) (txts_one _) rfl rfl (by simp [maxLen]; omega) (by omega) ?_; intro v3 w3 o3 b3; rw [hap.out] at o3; obtain ⟨a3, c3, rfl, T3⟩ := tt_row o3; have T3' := Lib.hid T3; have b3' := Lib.hid b3; clear o3 b3 T3)
  have C9 := Lib.hid (B8'.out.trans (b3'.out.mono B8'.out.size))
  have T4x := Lib.hid (T48.out.below b3'.out)
  have T5x := Lib.hid (T58.out.below b3'.out)
  have T6x := Lib.hid (T68.out.below b3'.out)
  clear o2' hro hlA hlB hsA hsB b2'
  refine (q5.out _ _ _ _ (by omega) T3'.out).mono ?_
  rintro e wy ⟨ay, ny, cy, rfl, Ty, By⟩
  have Ty' := Lib.hid Ty
  have T4y := Lib.hid (T4x.out.below By)
  have T5y := Lib.hid (T5x.out.below By)
  have T6y := Lib.hid (T6x.out.below By)
  have C9y := Lib.hid (C9.out.trans (By.mono C9.out.size))
  clear Ty By C9 T4x T5x T6x T3' b3'
  go_wp2_with fail
  refine (q7.out _ _ _ _ _ _ _ (by omega) T4y.out Ty'.out).mono ?_
  rintro e w9 ⟨rfl, mz, hwz⟩
  have T49 := Lib.hid (T4y.out.drewN mz)
  have T59 := Lib.hid (T5y.out.drewN mz)
  have T69 := Lib.hid (T6y.out.drewN mz)
  have B9' := Lib.hid (Below.drewN C9y.out mz)
  rw [← hwz] at T49 T59 T69 B9'
  clear hwz Ty' T4y T5y T6y C9y
  go_wp2
  go_ret
  exact ⟨rfl, B9'.out⟩
end Go.Proofs.Ytkfgfbdlbiahkaa
