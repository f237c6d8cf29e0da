/- Zones: each. (Written by gen-dbm-each.py.) -/
import Derived.Test.YtacbkddkjlnklaaDbmSmall
import Derived.Test.YtacbkddkjlnklaaFoot
namespace Go.Proofs.Ytacbkddkjlnklaa
open Go.RowKit
set_option linter.unusedVariables false
set_option linter.unusedSimpArgs false

def ReadsV (v : Value) (w : World) (e : Ending) (w' : World) : Prop := e = .returned v ∧ ∃ m, w' = w.drewN m
theorem infoInt : (Try.prog.info? 3).map (fun i => (i.zero, i.size, i.bytes)) = some (some (.int .i64 0), 1, 8) := by kernel_rfl
theorem own_drewN {w : World} {base : Nat} {e : TypeId} {size n : Nat} {v : Value} {xs : List Value} (h : w.ownsRow base e size v n xs) (m : Nat) : (w.drewN m).ownsRow base e size v n xs := h
theorem matL_step {n : Nat} (F : Nat → Nat → Int) {i j : Nat} (hi : i ≤ n) (hj : j ≤ n) : (matL n F).take (i * (n + 1) + j) ++ [F i j] = (matL n F).take (i * (n + 1) + (j + 1)) := by
  have h := place_lt hi hj
  have hl : i * (n + 1) + j < (matL n F).length := by rw [matL_len]; exact h
  have e : (matL n F)[i * (n + 1) + j] = F i j := by simp [matL, place_div hj, place_mod hj]
  rw [← Nat.add_assoc, ← List.take_append_getElem hl, e]

set_option maxRecDepth 100000 in
set_option maxHeartbeats 1000000 in
theorem each_widest (n : Nat) (hn : n ≤ 8) (F : Nat → Nat → Int) (w : World) (hf : ∀ i j, i ≤ n → j ≤ n → ∀ W, Below w.heap.size w W → Calls Try.prog 89 #[.int .i64 (i : Nat), .int .i64 (j : Nat)] W (ReadsV (.int .i64 (F i j)) W)) :
    Calls Try.prog 73 #[.int .i64 n, .func (.func 89) #[] #[]] w (Made 3 .i64 w (matL n F)) := by
  obtain ⟨i0, hi, hz0, hz1, hz2⟩ := info_parts infoInt
  have hsize := Lib.hid (fun W => size_any n hn W)
  have hs81 := sz_le hn
  have hf' := Lib.hid hf
  have hlen : (matL n F).length = sz n := matL_len n F
  have hsn : sz n = (n + 1) * (n + 1) := rfl
  have hstep := Lib.hid (fun i j (h1 : i ≤ n) (h2 : j ≤ n) => matL_step F h1 h2)
  obtain ⟨w5, hmk, own5, gr5⟩ := run_make_own (P := Try.prog) w w.heap.size 22 3 i0 (.int .i64 0) 1 Try.underlying22 hi hz0 hz1 .i64 .i64 (sz n) (by rw [hz2]; omega) (by unfold maxLen; omega) (Nat.le_refl _)
  have b5 : Below w.heap.size w w5 := (Below.refl _ _).grown gr5 (Nat.le_refl _) (by intro k hk; simp at hk)
  have own5' := Lib.hid own5
  have b5' := Lib.hid b5
  have hlen' := Lib.hid hlen
  have hsn' := Lib.hid hsn
  have hni : (n : Int) ≤ 8 := by omega
  have hsi : ((sz n : Nat) : Int) ≤ 81 := by omega
  clear hf own5 b5 gr5 hlen hsn
  generalize matL n F = R at *
  generalize sz n = s at *
  go_enter Try.func73, Try.ntmps73
  go_wp2_with fail
  refine (hsize.out _).mono ?_
  rintro e w' ⟨rfl, rfl⟩
  clear hsize
  go_wp2
  go_loopw [5, 13] (fun v x wr => ∃ (i : Nat) (pre : List Int), i ≤ n + 1 ∧ x = .int .i64 i ∧ Hid (pre = R.take (i * (n + 1))) ∧ Hid (wr.ownsRow w.heap.size 3 1 v pre.length (nums .i64 pre)) ∧ Hid (Below w.heap.size w wr)) (fun _ x _ => n + 1 - (intOf x).toNat)
  case atStart => exact ⟨0, [], by omega, rfl, Lib.hid (by simp), own5', b5'⟩
  case round =>
    obtain ⟨i, pre, hin, rfl, hpre, hown, hb⟩ := hrel
    by_cases hlt : i < n + 1
    · have hii : (i : Int) < (n : Int) + 1 := by omega
      go_wp2
      go_loopw [5, 18] (fun v x wr => ∃ (j : Nat) (pre : List Int), j ≤ n + 1 ∧ x = .int .i64 j ∧ Hid (pre = R.take (i * (n + 1) + j)) ∧ Hid (wr.ownsRow w.heap.size 3 1 v pre.length (nums .i64 pre)) ∧ Hid (Below w.heap.size w wr)) (fun _ x _ => n + 1 - (intOf x).toNat)
      case atStart => exact ⟨0, pre, by omega, rfl, hpre, hown, hb⟩
      case round =>
        clear hpre hown hb
        obtain ⟨j, pre, hjn, rfl, hpre, hown, hb⟩ := hrel
        by_cases hjt : j < n + 1
        · have hji : (j : Int) < (n : Int) + 1 := by omega
          have hcall := Lib.hid (hf'.out i j (by omega) (by omega) _ hb.out)
          have hpl : pre.length ≤ 81 := by
            rw [hpre.out, List.length_take, hlen'.out]; omega
          have hnext : Hid (pre ++ [F i j] = R.take (i * (n + 1) + (j + 1))) := Lib.hid (by rw [hpre.out]; exact hstep.out i j (by omega) (by omega))
          clear hpre
          generalize F i j = y at *
          go_wp2_with fail
          refine hcall.out.mono ?_
          rintro e w6 ⟨rfl, m, rfl⟩
          clear hcall
          go_wp2_with (at_builtin; refine wpList_append1 _ rfl _ _ 22 rfl w 3 i0 (.int .i64 0) 8 Try.underlying22 hi hz0 hz1 hz2 rfl .i64 y _ _ (own_drewN hown.out m) (Below.drewN hb.out m) rfl rfl (by omega) (by omega) ?_; intro v' w' hown2 hb2; have hown2' := Lib.hid hown2; have hb2' := Lib.hid hb2; clear hown2 hb2)
          go_roundw
          case rel => exact ⟨j + 1, pre ++ [y], by omega, by go_num, hnext, hown2', hb2'⟩
          case measure => simp [intOf]; omega
        · have hje : j = n + 1 := by omega
          have hnext : Hid (pre = R.take ((i + 1) * (n + 1))) := Lib.hid (by rw [hpre.out, hje, Nat.add_mul, Nat.one_mul])
          clear hpre
          go_wp2
          go_roundw
          case rel => exact ⟨i + 1, pre, by omega, by go_num, hnext, hown, hb⟩
          case measure => simp [intOf]; omega
    · have hie : i = n + 1 := by omega
      have hfin : Hid (pre = R) := Lib.hid (by rw [hpre.out, hie, ← hsn'.out, ← hlen'.out, List.take_length])
      clear hpre
      go_wp2
      go_ret
      rw [← hfin.out]
      exact ⟨_, rfl, hown.out, hb.out⟩

set_option maxRecDepth 100000 in
set_option maxHeartbeats 1000000 in
theorem each_clip (n : Nat) (hn : n ≤ 8) (gm gn : Nat) (F : Nat → Nat → Int) (w : World) (hf : ∀ i j, i ≤ n → j ≤ n → ∀ W, Below w.heap.size w W → Calls Try.prog 95 #[.int .i64 (i : Nat), .int .i64 (j : Nat), .pointer (some ⟨gm, 0, none⟩), .pointer (some ⟨gn, 0, none⟩)] W (ReadsV (.int .i64 (F i j)) W)) :
    Calls Try.prog 73 #[.int .i64 n, .func (.func 95) #[] #[.pointer (some ⟨gm, 0, none⟩), .pointer (some ⟨gn, 0, none⟩)]] w (Made 3 .i64 w (matL n F)) := by
  obtain ⟨i0, hi, hz0, hz1, hz2⟩ := info_parts infoInt
  have hsize := Lib.hid (fun W => size_any n hn W)
  have hs81 := sz_le hn
  have hf' := Lib.hid hf
  have hlen : (matL n F).length = sz n := matL_len n F
  have hsn : sz n = (n + 1) * (n + 1) := rfl
  have hstep := Lib.hid (fun i j (h1 : i ≤ n) (h2 : j ≤ n) => matL_step F h1 h2)
  obtain ⟨w5, hmk, own5, gr5⟩ := run_make_own (P := Try.prog) w w.heap.size 22 3 i0 (.int .i64 0) 1 Try.underlying22 hi hz0 hz1 .i64 .i64 (sz n) (by rw [hz2]; omega) (by unfold maxLen; omega) (Nat.le_refl _)
  have b5 : Below w.heap.size w w5 := (Below.refl _ _).grown gr5 (Nat.le_refl _) (by intro k hk; simp at hk)
  have own5' := Lib.hid own5
  have b5' := Lib.hid b5
  have hlen' := Lib.hid hlen
  have hsn' := Lib.hid hsn
  have hni : (n : Int) ≤ 8 := by omega
  have hsi : ((sz n : Nat) : Int) ≤ 81 := by omega
  clear hf own5 b5 gr5 hlen hsn
  generalize matL n F = R at *
  generalize sz n = s at *
  go_enter Try.func73, Try.ntmps73
  go_wp2_with fail
  refine (hsize.out _).mono ?_
  rintro e w' ⟨rfl, rfl⟩
  clear hsize
  go_wp2
  go_loopw [5, 13] (fun v x wr => ∃ (i : Nat) (pre : List Int), i ≤ n + 1 ∧ x = .int .i64 i ∧ Hid (pre = R.take (i * (n + 1))) ∧ Hid (wr.ownsRow w.heap.size 3 1 v pre.length (nums .i64 pre)) ∧ Hid (Below w.heap.size w wr)) (fun _ x _ => n + 1 - (intOf x).toNat)
  case atStart => exact ⟨0, [], by omega, rfl, Lib.hid (by simp), own5', b5'⟩
  case round =>
    obtain ⟨i, pre, hin, rfl, hpre, hown, hb⟩ := hrel
    by_cases hlt : i < n + 1
    · have hii : (i : Int) < (n : Int) + 1 := by omega
      go_wp2
      go_loopw [5, 18] (fun v x wr => ∃ (j : Nat) (pre : List Int), j ≤ n + 1 ∧ x = .int .i64 j ∧ Hid (pre = R.take (i * (n + 1) + j)) ∧ Hid (wr.ownsRow w.heap.size 3 1 v pre.length (nums .i64 pre)) ∧ Hid (Below w.heap.size w wr)) (fun _ x _ => n + 1 - (intOf x).toNat)
      case atStart => exact ⟨0, pre, by omega, rfl, hpre, hown, hb⟩
      case round =>
        clear hpre hown hb
        obtain ⟨j, pre, hjn, rfl, hpre, hown, hb⟩ := hrel
        by_cases hjt : j < n + 1
        · have hji : (j : Int) < (n : Int) + 1 := by omega
          have hcall := Lib.hid (hf'.out i j (by omega) (by omega) _ hb.out)
          have hpl : pre.length ≤ 81 := by
            rw [hpre.out, List.length_take, hlen'.out]; omega
          have hnext : Hid (pre ++ [F i j] = R.take (i * (n + 1) + (j + 1))) := Lib.hid (by rw [hpre.out]; exact hstep.out i j (by omega) (by omega))
          clear hpre
          generalize F i j = y at *
          go_wp2_with fail
          refine hcall.out.mono ?_
          rintro e w6 ⟨rfl, m, rfl⟩
          clear hcall
          go_wp2_with (at_builtin; refine wpList_append1 _ rfl _ _ 22 rfl w 3 i0 (.int .i64 0) 8 Try.underlying22 hi hz0 hz1 hz2 rfl .i64 y _ _ (own_drewN hown.out m) (Below.drewN hb.out m) rfl rfl (by omega) (by omega) ?_; intro v' w' hown2 hb2; have hown2' := Lib.hid hown2; have hb2' := Lib.hid hb2; clear hown2 hb2)
          go_roundw
          case rel => exact ⟨j + 1, pre ++ [y], by omega, by go_num, hnext, hown2', hb2'⟩
          case measure => simp [intOf]; omega
        · have hje : j = n + 1 := by omega
          have hnext : Hid (pre = R.take ((i + 1) * (n + 1))) := Lib.hid (by rw [hpre.out, hje, Nat.add_mul, Nat.one_mul])
          clear hpre
          go_wp2
          go_roundw
          case rel => exact ⟨i + 1, pre, by omega, by go_num, hnext, hown, hb⟩
          case measure => simp [intOf]; omega
    · have hie : i = n + 1 := by omega
      have hfin : Hid (pre = R) := Lib.hid (by rw [hpre.out, hie, ← hsn'.out, ← hlen'.out, List.take_length])
      clear hpre
      go_wp2
      go_ret
      rw [← hfin.out]
      exact ⟨_, rfl, hown.out, hb.out⟩

set_option maxRecDepth 100000 in
set_option maxHeartbeats 1000000 in
theorem each_diff (n : Nat) (hn : n ≤ 8) (gv : Nat) (F : Nat → Nat → Int) (w : World) (hf : ∀ i j, i ≤ n → j ≤ n → ∀ W, Below w.heap.size w W → Calls Try.prog 74 #[.int .i64 (i : Nat), .int .i64 (j : Nat), .pointer (some ⟨gv, 0, none⟩)] W (ReadsV (.int .i64 (F i j)) W)) :
    Calls Try.prog 73 #[.int .i64 n, .func (.func 74) #[] #[.pointer (some ⟨gv, 0, none⟩)]] w (Made 3 .i64 w (matL n F)) := by
  obtain ⟨i0, hi, hz0, hz1, hz2⟩ := info_parts infoInt
  have hsize := Lib.hid (fun W => size_any n hn W)
  have hs81 := sz_le hn
  have hf' := Lib.hid hf
  have hlen : (matL n F).length = sz n := matL_len n F
  have hsn : sz n = (n + 1) * (n + 1) := rfl
  have hstep := Lib.hid (fun i j (h1 : i ≤ n) (h2 : j ≤ n) => matL_step F h1 h2)
  obtain ⟨w5, hmk, own5, gr5⟩ := run_make_own (P := Try.prog) w w.heap.size 22 3 i0 (.int .i64 0) 1 Try.underlying22 hi hz0 hz1 .i64 .i64 (sz n) (by rw [hz2]; omega) (by unfold maxLen; omega) (Nat.le_refl _)
  have b5 : Below w.heap.size w w5 := (Below.refl _ _).grown gr5 (Nat.le_refl _) (by intro k hk; simp at hk)
  have own5' := Lib.hid own5
  have b5' := Lib.hid b5
  have hlen' := Lib.hid hlen
  have hsn' := Lib.hid hsn
  have hni : (n : Int) ≤ 8 := by omega
  have hsi : ((sz n : Nat) : Int) ≤ 81 := by omega
  clear hf own5 b5 gr5 hlen hsn
  generalize matL n F = R at *
  generalize sz n = s at *
  go_enter Try.func73, Try.ntmps73
  go_wp2_with fail
  refine (hsize.out _).mono ?_
  rintro e w' ⟨rfl, rfl⟩
  clear hsize
  go_wp2
  go_loopw [5, 13] (fun v x wr => ∃ (i : Nat) (pre : List Int), i ≤ n + 1 ∧ x = .int .i64 i ∧ Hid (pre = R.take (i * (n + 1))) ∧ Hid (wr.ownsRow w.heap.size 3 1 v pre.length (nums .i64 pre)) ∧ Hid (Below w.heap.size w wr)) (fun _ x _ => n + 1 - (intOf x).toNat)
  case atStart => exact ⟨0, [], by omega, rfl, Lib.hid (by simp), own5', b5'⟩
  case round =>
    obtain ⟨i, pre, hin, rfl, hpre, hown, hb⟩ := hrel
    by_cases hlt : i < n + 1
    · have hii : (i : Int) < (n : Int) + 1 := by omega
      go_wp2
      go_loopw [5, 18] (fun v x wr => ∃ (j : Nat) (pre : List Int), j ≤ n + 1 ∧ x = .int .i64 j ∧ Hid (pre = R.take (i * (n + 1) + j)) ∧ Hid (wr.ownsRow w.heap.size 3 1 v pre.length (nums .i64 pre)) ∧ Hid (Below w.heap.size w wr)) (fun _ x _ => n + 1 - (intOf x).toNat)
      case atStart => exact ⟨0, pre, by omega, rfl, hpre, hown, hb⟩
      case round =>
        clear hpre hown hb
        obtain ⟨j, pre, hjn, rfl, hpre, hown, hb⟩ := hrel
        by_cases hjt : j < n + 1
        · have hji : (j : Int) < (n : Int) + 1 := by omega
          have hcall := Lib.hid (hf'.out i j (by omega) (by omega) _ hb.out)
          have hpl : pre.length ≤ 81 := by
            rw [hpre.out, List.length_take, hlen'.out]; omega
          have hnext : Hid (pre ++ [F i j] = R.take (i * (n + 1) + (j + 1))) := Lib.hid (by rw [hpre.out]; exact hstep.out i j (by omega) (by omega))
          clear hpre
          generalize F i j = y at *
          go_wp2_with fail
          refine hcall.out.mono ?_
          rintro e w6 ⟨rfl, m, rfl⟩
          clear hcall
          go_wp2_with (at_builtin; refine wpList_append1 _ rfl _ _ 22 rfl w 3 i0 (.int .i64 0) 8 Try.underlying22 hi hz0 hz1 hz2 rfl .i64 y _ _ (own_drewN hown.out m) (Below.drewN hb.out m) rfl rfl (by omega) (by omega) ?_; intro v' w' hown2 hb2; have hown2' := Lib.hid hown2; have hb2' := Lib.hid hb2; clear hown2 hb2)
          go_roundw
          case rel => exact ⟨j + 1, pre ++ [y], by omega, by go_num, hnext, hown2', hb2'⟩
          case measure => simp [intOf]; omega
        · have hje : j = n + 1 := by omega
          have hnext : Hid (pre = R.take ((i + 1) * (n + 1))) := Lib.hid (by rw [hpre.out, hje, Nat.add_mul, Nat.one_mul])
          clear hpre
          go_wp2
          go_roundw
          case rel => exact ⟨i + 1, pre, by omega, by go_num, hnext, hown, hb⟩
          case measure => simp [intOf]; omega
    · have hie : i = n + 1 := by omega
      have hfin : Hid (pre = R) := Lib.hid (by rw [hpre.out, hie, ← hsn'.out, ← hlen'.out, List.take_length])
      clear hpre
      go_wp2
      go_ret
      rw [← hfin.out]
      exact ⟨_, rfl, hown.out, hb.out⟩
end Go.Proofs.Ytacbkddkjlnklaa
