/- Zones: the document's clip, twice. -/
import Derived.Test.YtacbkddkjlnklaaDbmClosed
import Derived.Laws.ResultCell
namespace Go.Proofs.Ytacbkddkjlnklaa
open Go.RowKit
set_option linter.unusedVariables false
set_option linter.unusedSimpArgs false

set_option maxRecDepth 100000 in
set_option maxHeartbeats 4000000 in
theorem rclip_any (n : Nat) (hn : n ≤ 8) (a : Option Addr) (M : List Int) (len c : Nat) (hM : len = M.length) (hl : len = sz n) (w : World) (h : Sees .i64 w.heap.size w a M) :
    Calls Try.prog 81 #[.int .i64 n, .slice a len c] w (Made 3 .i64 w (clipL n M)) := by
  obtain ⟨i0, hi, hz0, hz1, hz2⟩ := info_parts infoInt
  have h' := Lib.hid h
  have hM' := Lib.hid hM
  have hl' := Lib.hid hl
  have hn' := Lib.hid hn
  have hs81 := sz_le hn
  have hni : (n : Int) ≤ 8 := by omega
  have hlen' : Hid ((clipL n M).length = (n + 1) * (n + 1)) := Lib.hid (clip_len _ _)
  have hsn' : Hid (sz n = (n + 1) * (n + 1)) := Lib.hid rfl
  have hstep : Hid (∀ i j, i ≤ n → j ≤ n → (clipL n M).take (i * (n + 1) + j) ++ [clipF n M i j] = (clipL n M).take (i * (n + 1) + (j + 1))) := Lib.hid (fun i j h1 h2 => matL_step _ h1 h2)
  clear h hM hl hn
  generalize clipL n M = R at *
  go_enter Try.func81, Try.ntmps81
  go_wp2
  go_loopw [5, 6] (fun v x wr => ∃ (i : Nat) (pre : List Int), i ≤ n + 1 ∧ x = .int .i64 i ∧ Hid (pre = R.take (i * (n + 1))) ∧ Hid (wr.ownsRow w.heap.size 3 1 v pre.length (nums .i64 pre)) ∧ Hid (Below w.heap.size w wr)) (fun _ x _ => n + 1 - (intOf x).toNat)
  case atStart => exact ⟨0, [], by omega, rfl, Lib.hid (by simp), Lib.hid ⟨rfl, .inl ⟨rfl, rfl⟩⟩, Lib.hid (Below.refl _ _)⟩
  case round =>
    obtain ⟨i, pre, hin, rfl, hpre, hown, hb⟩ := hrel
    by_cases hlt : i < n + 1
    · have hii : (i : Int) ≤ (n : Int) := by omega
      go_wp2
      go_loopw [5, 7] (fun v x wr => ∃ (j : Nat) (pre : List Int), j ≤ n + 1 ∧ x = .int .i64 j ∧ Hid (pre = R.take (i * (n + 1) + j)) ∧ Hid (wr.ownsRow w.heap.size 3 1 v pre.length (nums .i64 pre)) ∧ Hid (Below w.heap.size w wr)) (fun _ x _ => n + 1 - (intOf x).toNat)
      case atStart => exact ⟨0, pre, by omega, rfl, hpre, hown, hb⟩
      case round =>
        clear hpre hown hb
        obtain ⟨j, pre, hjn, rfl, hpre, hown, hb⟩ := hrel
        by_cases hjt : j < n + 1
        · have hji : (j : Int) ≤ (n : Int) := by omega
          have hfar := Lib.hid (fun W => far_any i j (by omega) (by omega) W)
          have hpl : pre.length ≤ 81 := by
            rw [hpre.out, List.length_take, hlen'.out, ← hsn'.out]; omega
          have hnext : Hid (pre ++ [clipF n M i j] = R.take (i * (n + 1) + (j + 1))) := Lib.hid (by rw [hpre.out]; exact hstep.out i j (by omega) (by omega))
          obtain ⟨p, q, w1, w2, w3, hq, hqs, -, -, -⟩ := place_wraps hn'.out (show i ≤ n by omega) (show j ≤ n by omega)
          have hqn : q < len := by have := hl'.out; omega
          obtain ⟨b, off, rfl, -, hc0⟩ := sees_at' (h'.out.below hb.out) (i := q) (by have := hM'.out; omega)
          have hqi : (q : Int) < (len : Int) := by omega
          have hF : Hid (clipF n M i j = max (-2199023255553) (min (M.getD q 0) (widestF i j))) := Lib.hid (by unfold clipF mat; rw [hq])
          clear hpre hq hqs
          generalize clipF n M i j = z at *
          generalize M.getD q 0 = x at *
          generalize widestF i j = y at *
          by_cases hxy : y < x
          · by_cases hlow : y < -2199023255553
            · have hz : z = -2199023255553 := by have := hF.out; omega
              subst hz
              go_wp2_with fail
              refine (hfar.out _).mono ?_
              rintro e w6 ⟨rfl, rfl⟩
              go_wp2_with fail
              refine (hfar.out _).mono ?_
              rintro e w6 ⟨rfl, rfl⟩
              go_wp2_with (at_builtin; refine wpList_append1 _ rfl _ _ 22 rfl w 3 i0 (.int .i64 0) 8 Try.underlying22 hi hz0 hz1 hz2 rfl .i64 (-2199023255553) _ _ hown.out hb.out rfl rfl (by omega) (by omega) ?_; intro v' w' hown2 hb2; have hown2' := Lib.hid hown2; have hb2' := Lib.hid hb2; clear hown2 hb2)
              go_roundw
              case rel => exact ⟨j + 1, pre ++ [-2199023255553], by omega, by go_num, hnext, hown2', hb2'⟩
              case measure => simp [intOf]; omega
            · have hz : z = y := by have := hF.out; omega
              subst hz
              go_wp2_with fail
              refine (hfar.out _).mono ?_
              rintro e w6 ⟨rfl, rfl⟩
              go_wp2_with fail
              refine (hfar.out _).mono ?_
              rintro e w6 ⟨rfl, rfl⟩
              go_wp2_with (at_builtin; refine wpList_append1 _ rfl _ _ 22 rfl w 3 i0 (.int .i64 0) 8 Try.underlying22 hi hz0 hz1 hz2 rfl .i64 z _ _ hown.out hb.out rfl rfl (by omega) (by omega) ?_; intro v' w' hown2 hb2; have hown2' := Lib.hid hown2; have hb2' := Lib.hid hb2; clear hown2 hb2)
              go_roundw
              case rel => exact ⟨j + 1, pre ++ [z], by omega, by go_num, hnext, hown2', hb2'⟩
              case measure => simp [intOf]; omega
          · by_cases hlow : x < -2199023255553
            · have hz : z = -2199023255553 := by have := hF.out; omega
              subst hz
              go_wp2_with fail
              refine (hfar.out _).mono ?_
              rintro e w6 ⟨rfl, rfl⟩
              go_wp2_with (at_builtin; refine wpList_append1 _ rfl _ _ 22 rfl w 3 i0 (.int .i64 0) 8 Try.underlying22 hi hz0 hz1 hz2 rfl .i64 (-2199023255553) _ _ hown.out hb.out rfl rfl (by omega) (by omega) ?_; intro v' w' hown2 hb2; have hown2' := Lib.hid hown2; have hb2' := Lib.hid hb2; clear hown2 hb2)
              go_roundw
              case rel => exact ⟨j + 1, pre ++ [-2199023255553], by omega, by go_num, hnext, hown2', hb2'⟩
              case measure => simp [intOf]; omega
            · have hz : z = x := by have := hF.out; omega
              subst hz
              go_wp2_with fail
              refine (hfar.out _).mono ?_
              rintro e w6 ⟨rfl, rfl⟩
              go_wp2_with (at_builtin; refine wpList_append1 _ rfl _ _ 22 rfl w 3 i0 (.int .i64 0) 8 Try.underlying22 hi hz0 hz1 hz2 rfl .i64 z _ _ hown.out hb.out rfl rfl (by omega) (by omega) ?_; intro v' w' hown2 hb2; have hown2' := Lib.hid hown2; have hb2' := Lib.hid hb2; clear hown2 hb2)
              go_roundw
              case rel => exact ⟨j + 1, pre ++ [z], by omega, by go_num, hnext, hown2', hb2'⟩
              case measure => simp [intOf]; omega
        · have hje : j = n + 1 := by omega
          have hnext : Hid (pre = R.take ((i + 1) * (n + 1))) := Lib.hid (by rw [hpre.out, hje, Nat.add_mul, Nat.one_mul])
          clear hpre
          go_wp2
          go_roundw
          case rel => exact ⟨i + 1, pre, by omega, by go_num, hnext, hown, hb⟩
          case measure => simp [intOf]; omega
    · have hie : i = n + 1 := by omega
      have hfin : Hid (pre = R) := Lib.hid (by rw [hpre.out, hie, ← hlen'.out, List.take_length])
      clear hpre
      go_wp2
      go_ret
      rw [← hfin.out]
      exact ⟨_, rfl, hown.out, hb.out⟩

/-- The least of the steps through those ahead of k. -/
def sqP (n : Nat) (c : Nat → Nat → Int) (i j k : Nat) : Int := (List.range k).foldl (fun x k => if c i k + c k j < x then c i k + c k j else x) (c i j)
theorem sqP_next (n : Nat) (c : Nat → Nat → Int) (i j k : Nat) : sqP n c i j (k + 1) = if c i k + c k j < sqP n c i j k then c i k + c k j else sqP n c i j k := by
  unfold sqP
  rw [List.range_succ, List.foldl_append]
  rfl
set_option maxRecDepth 100000 in
set_option maxHeartbeats 4000000 in
theorem twice_any (n : Nat) (hn : n ≤ 8) (a : Option Addr) (M : List Int) (len c : Nat) (hM : len = M.length) (hl : len = sz n) (hbd : ∀ p, -100000000000000 ≤ M.getD p 0 ∧ M.getD p 0 ≤ 100000000000000) (w : World) (h : Sees .i64 w.heap.size w a M) :
    Calls Try.prog 82 #[.int .i64 n, .slice a len c] w (Made 3 .i64 w (twL n M)) := by
  obtain ⟨i0, hi, hz0, hz1, hz2⟩ := info_parts infoInt
  have h' := Lib.hid h
  have hM' := Lib.hid hM
  have hl' := Lib.hid hl
  have hn' := Lib.hid hn
  have hbd' := Lib.hid hbd
  have hs81 := sz_le hn
  have hni : (n : Int) ≤ 8 := by omega
  have hlen' : Hid ((twL n M).length = (n + 1) * (n + 1)) := Lib.hid (matL_len _ _)
  have hsn' : Hid (sz n = (n + 1) * (n + 1)) := Lib.hid rfl
  have hstep : Hid (∀ i j, i ≤ n → j ≤ n → (twL n M).take (i * (n + 1) + j) ++ [sqF n (mat n M) i j] = (twL n M).take (i * (n + 1) + (j + 1))) := Lib.hid (fun i j h1 h2 => matL_step _ h1 h2)
  have w0 : IntKind.i64.wrap ((n : Int) + 1) = (n : Int) + 1 := wrap_small (by omega) (by omega)
  clear h hM hl hn hbd
  generalize twL n M = R at *
  go_enter Try.func82, Try.ntmps82
  go_wp2
  go_loopw [5, 6] (fun v x wr => ∃ (i : Nat) (pre : List Int), i ≤ n + 1 ∧ x = .int .i64 i ∧ Hid (pre = R.take (i * (n + 1))) ∧ Hid (wr.ownsRow w.heap.size 3 1 v pre.length (nums .i64 pre)) ∧ Hid (Below w.heap.size w wr)) (fun _ x _ => n + 1 - (intOf x).toNat)
  case atStart => exact ⟨0, [], by omega, rfl, Lib.hid (by simp), Lib.hid ⟨rfl, .inl ⟨rfl, rfl⟩⟩, Lib.hid (Below.refl _ _)⟩
  case round =>
    obtain ⟨i, pre, hin, rfl, hpre, hown, hb⟩ := hrel
    by_cases hlt : i < n + 1
    · have hii : (i : Int) ≤ (n : Int) := by omega
      go_wp2
      go_loopw [5, 7] (fun v x wr => ∃ (j : Nat) (pre : List Int), j ≤ n + 1 ∧ x = .int .i64 j ∧ Hid (pre = R.take (i * (n + 1) + j)) ∧ Hid (wr.ownsRow w.heap.size 3 1 v pre.length (nums .i64 pre)) ∧ Hid (Below w.heap.size w wr)) (fun _ x _ => n + 1 - (intOf x).toNat)
      case atStart => exact ⟨0, pre, by omega, rfl, hpre, hown, hb⟩
      case round =>
        clear hpre hown hb
        obtain ⟨j, pre, hjn, rfl, hpre, hown, hb⟩ := hrel
        by_cases hjt : j < n + 1
        · have hji : (j : Int) ≤ (n : Int) := by omega
          have hpl : pre.length ≤ 81 := by
            rw [hpre.out, List.length_take, hlen'.out, ← hsn'.out]; omega
          have hnext : Hid (pre ++ [sqF n (mat n M) i j] = R.take (i * (n + 1) + (j + 1))) := Lib.hid (by rw [hpre.out]; exact hstep.out i j (by omega) (by omega))
          obtain ⟨p, q, w1, w2, w3, hq, hqs, -, hp, -⟩ := place_wraps hn'.out (show i ≤ n by omega) (show j ≤ n by omega)
          have hp2 : p = i * (n + 1) := by
            have : ((i * (n + 1) : Nat) : Int) = (p : Int) := by rw [← hp, Int.natCast_mul]; rfl
            omega
          have hpre' := Lib.hid hp2
          have hqn : q < len := by have := hl'.out; omega
          obtain ⟨b, off, rfl, -, hc0⟩ := sees_at' (h'.out.below hb.out) (i := q) (by have := hM'.out; omega)
          have hqi : (q : Int) < (len : Int) := by omega
          have hP0 : Hid (M.getD q 0 = sqP n (mat n M) i j 0) := Lib.hid (by unfold sqP mat; rw [hq]; rfl)
          have hPn : Hid (sqP n (mat n M) i j (n + 1) = sqF n (mat n M) i j) := Lib.hid rfl
          clear hpre hq hqs hp hp2
          generalize sqF n (mat n M) i j = z at *
          generalize M.getD q 0 = x at *
          go_wp2
          go_loopw [8, 9] (fun y u W => ∃ k m : Nat, k ≤ n + 1 ∧ u = .int .i64 k ∧ y = .int .i64 (sqP n (mat n M) i j k) ∧ W = wr.drewN m) (fun _ u _ => n + 1 - (intOf u).toNat)
          case atStart => exact ⟨0, 0, by omega, rfl, by rw [← hP0.out], rfl⟩
          case round =>
            obtain ⟨k, m, hkn, rfl, rfl, rfl⟩ := hrel
            by_cases hkt : k < n + 1
            · have hki : (k : Int) ≤ (n : Int) := by omega
              obtain ⟨p2, q2, -, v2, v3, hq2, hqs2, -, hp2, -⟩ := place_wraps hn'.out (show i ≤ n by omega) (show k ≤ n by omega)
              obtain ⟨p3, q3, -, u2, u3, hq3, hqs3, -, hp3, -⟩ := place_wraps hn'.out (show k ≤ n by omega) (show j ≤ n by omega)
              have hpp : p2 = p := by
                have : ((i * (n + 1) : Nat) : Int) = (p2 : Int) := by rw [← hp2, Int.natCast_mul]; rfl
                have := hpre'.out
                omega
              subst hpp
              have l1 : q2 < len := by have := hl'.out; omega
              have l2 : q3 < len := by have := hl'.out; omega
              obtain ⟨b2, off2, he2, -, hc2⟩ := sees_at' (h'.out.below hb.out) (i := q2) (by have := hM'.out; omega)
              obtain ⟨b3, off3, he3, -, hc3⟩ := sees_at' (h'.out.below hb.out) (i := q3) (by have := hM'.out; omega)
              injection he2 with he2
              injection he2 with e1 e2 _
              injection he3 with he3
              injection he3 with e3 e4 _
              subst e1 e2 e3 e4
              have hqi2 : (q2 : Int) < (len : Int) := by omega
              have hqi3 : (q3 : Int) < (len : Int) := by omega
              have hnx : Hid (sqP n (mat n M) i j (k + 1) = if M.getD q2 0 + M.getD q3 0 < sqP n (mat n M) i j k then M.getD q2 0 + M.getD q3 0 else sqP n (mat n M) i j k) := Lib.hid (by rw [sqP_next]; unfold mat; rw [hq2, hq3])
              have b1 := hbd'.out q2
              have b2 := hbd'.out q3
              clear hq2 hq3 hqs2 hqs3 hp2 hp3
              generalize M.getD q2 0 = x1 at *
              generalize M.getD q3 0 = x2 at *
              have ws : IntKind.i64.wrap (x1 + x2) = x1 + x2 := wrap_small (by omega) (by omega)
              generalize hS : sqP n (mat n M) i j k = s at *
              have hS' := Lib.hid hS
              clear hS
              by_cases hlt2 : x1 + x2 < s
              · have hnx2 : Hid (sqP n (mat n M) i j (k + 1) = x1 + x2) := Lib.hid (by rw [hnx.out, if_pos hlt2])
                clear hnx
                go_wp2
                go_quiet (fail)
                go_wp2
                go_roundw
                case rel => exact ⟨k + 1, m + nq, by omega, by go_num, by rw [hnx2.out], by simp [World.drewN, Nat.add_assoc]⟩
                case measure => simp [intOf]; omega
              · have hnx2 : Hid (sqP n (mat n M) i j (k + 1) = s) := Lib.hid (by rw [hnx.out, if_neg hlt2])
                clear hnx
                go_wp2
                go_quiet (fail)
                go_wp2
                go_roundw
                case rel => exact ⟨k + 1, m + nq, by omega, by go_num, by rw [hnx2.out], by simp [World.drewN, Nat.add_assoc]⟩
                case measure => simp [intOf]; omega
            · have hke : k = n + 1 := by omega
              have hz : sqP n (mat n M) i j k = z := by rw [hke, hPn.out]
              generalize sqP n (mat n M) i j k = s at *
              subst hz
              go_wp2_with (at_builtin; refine wpList_append1 _ rfl _ _ 22 rfl w 3 i0 (.int .i64 0) 8 Try.underlying22 hi hz0 hz1 hz2 rfl .i64 s _ _ (own_drewN hown.out m) (Below.drewN hb.out m) rfl rfl (by omega) (by omega) ?_; intro v' w' hown2 hb2; have hown2' := Lib.hid hown2; have hb2' := Lib.hid hb2; clear hown2 hb2)
              go_roundw
              case rel => exact ⟨j + 1, pre ++ [s], by omega, by go_num, hnext, hown2', hb2'⟩
              case measure => simp [intOf]; omega
        · have hje : j = n + 1 := by omega
          have hnext : Hid (pre = R.take ((i + 1) * (n + 1))) := Lib.hid (by rw [hpre.out, hje, Nat.add_mul, Nat.one_mul])
          clear hpre
          go_wp2
          go_roundw
          case rel => exact ⟨i + 1, pre, by omega, by go_num, hnext, hown, hb⟩
          case measure => simp [intOf]; omega
    · have hie : i = n + 1 := by omega
      have hfin : Hid (pre = R) := Lib.hid (by rw [hpre.out, hie, ← hlen'.out, List.take_length])
      clear hpre
      go_wp2
      go_ret
      rw [← hfin.out]
      exact ⟨_, rfl, hown.out, hb.out⟩
end Go.Proofs.Ytacbkddkjlnklaa
