/- crc's first table; zeros; Zeros, Join. -/
import Derived.Test.YtgdfanpolmoffaaCrcSquare
namespace Go.Proofs.Ytgdfanpolmoffaa
open Go.RowKit
set_option linter.unusedVariables false
set_option linter.unusedSimpArgs false

theorem two_blocks (w : World) (b : Array Value) (T : TypeId) :
    ((w.alloc (.cells b T)).alloc (.cells b T)).heap[w.heap.size]? = some (.cells b T (0, 0)) ∧
    ((w.alloc (.cells b T)).alloc (.cells b T)).heap[w.heap.size + 1]? = some (.cells b T (0, 0)) ∧
    Below w.heap.size w ((w.alloc (.cells b T)).alloc (.cells b T)) ∧
    ((w.alloc (.cells b T)).alloc (.cells b T)).heap.size = w.heap.size + 1 + 1 := by
  have s1 : (w.alloc (.cells b T)).heap.size = w.heap.size + 1 := by simp
  have k1 := heap_alloc_new w (.cells b T)
  have k2 := heap_alloc_new (w.alloc (.cells b T)) (.cells b T)
  have l2 := (Below.refl (w.heap.size + 1) (w.alloc (.cells b T))).alloc (by omega) (.cells b T)
  rw [s1] at k2
  exact ⟨(l2.block _ (by omega)).trans k1, k2, ((Below.refl _ w).alloc (Nat.le_refl _) _).alloc (by omega) _, by simp⟩

theorem shl_one (k : Nat) (h : k < 32) : ((2 : Int) ^ k) % 4294967296 = ((2 ^ k : Nat) : Int) := by
  have h1 := bit_lt h
  have e : ((2 : Int) ^ k) = ((2 ^ k : Nat) : Int) := by push_cast; rfl
  rw [e]
  generalize 2 ^ k = q at *
  omega

set_option maxRecDepth 100000 in
set_option maxHeartbeats 2000000 in
theorem zero_any (w : World) : Calls Try.prog 21 #[] w fun e w' => e = .returned (.agg (nums .u32 (tab 8)).toArray) ∧ Below w.heap.size w w' := by
  have hfull := part_full 8
  generalize (nums .u32 (tab 8)).toArray = row2 at *
  have hfull' := Lib.hid hfull
  clear hfull
  go_enter Try.func21, Try.ntmps21
  go_wp2
  have hz : part 8 0 = #[Value.int IntKind.u32 0, .int .u32 0, .int .u32 0, .int .u32 0, .int .u32 0, .int .u32 0, .int .u32 0, .int .u32 0, .int .u32 0, .int .u32 0, .int .u32 0, .int .u32 0, .int .u32 0, .int .u32 0, .int .u32 0, .int .u32 0, .int .u32 0, .int .u32 0, .int .u32 0, .int .u32 0, .int .u32 0, .int .u32 0, .int .u32 0, .int .u32 0, .int .u32 0, .int .u32 0, .int .u32 0, .int .u32 0, .int .u32 0, .int .u32 0, .int .u32 0, .int .u32 0] := by rw [part_zero]; rfl
  rw [← hz]
  have hzs := part_size 8 0 (by omega)
  obtain ⟨b0, b1, hB, hS⟩ := two_blocks w (part 8 0) 40
  generalize (w.alloc (.cells (part 8 0) 40)).alloc (.cells (part 8 0) 40) = w3 at *
  generalize hZ : part 8 0 = Z at b0 hz hzs
  clear hz
  generalize hg0 : w.heap.size = g0 at b0 b1 hB hS ⊢
  generalize hg1 : g0 + 1 = g1 at b1 hS ⊢
  go_loopw [3] (fun y wr => ∃ (k : Nat), k ≤ 32 ∧ wr.heap[g0]? = some (.cells Z 40 (0, 0)) ∧ wr.heap[g1]? = some (.cells (part 8 k) 40 (0, 0)) ∧ Below g0 w wr ∧ g1 < wr.heap.size ∧ y = .int .i64 k) (fun y _ => 32 - (intOf y).toNat)
  case atStart => exact ⟨0, by omega, b0, b1, hB, by omega, rfl⟩
  case round =>
    obtain ⟨k, hk, c0, c1, hB', hS', rfl⟩ := hrel
    by_cases hlt : k < 32
    · have hpv : Hid ((part 8 k).setIfInBounds k (.int .u32 ((steps 8 (2 ^ k) : Nat) : Int)) = part 8 (k + 1)) := Lib.hid (part_set 8 k hlt)
      have hpa := part_at 8 k hlt
      have hsh := shl_one k hlt
      have h2 := bit_lt hlt
      have htk := take_any (2 ^ k) 0 h2 (by omega)
      rw [tk_zero, ← hsh, show ((0 : Nat) : Int) = 0 from rfl] at htk
      generalize steps 8 (2 ^ k) = v1 at *
      have htk' := Lib.hid htk
      clear htk hsh h2
      have hcell : wr.cell? ⟨g1, k, none⟩ = some (.int .u32 0) := by rw [cell_of_row wr _ _ _ _ _ c1, hpa]
      have hfz := frozen_of_row wr g1 k _ _ c1
      have f0 := Lib.hid ((heap_setCell_other wr ⟨g1, k, none⟩ g0 (.int .u32 (v1 : Int)) (by show g0 ≠ g1; omega)).trans c0)
      have f1 := heap_setCell_same wr g1 k _ _ (.int .u32 (v1 : Int)) c1
      rw [hpv.out] at f1
      have f1' := Lib.hid f1
      have hb6 := Lib.hid (hB'.setCell (p := ⟨g1, k, none⟩) (by show g0 ≤ g1; omega) (.int .u32 (v1 : Int)))
      clear f1 hpa c0 c1
      go_wp2_with fail
      refine (htk'.out _).mono ?_
      rintro e w' ⟨rfl, rfl⟩
      go_wp2
      go_roundw
      case rel => exact ⟨k + 1, by omega, f0.out, f1'.out, hb6.out, by simp; omega, by go_num⟩
      case measure => simp [intOf]; omega
    · have hk32 : k = 32 := by omega
      have c1' := c1
      rw [hk32, hfull'.out] at c1'
      have hr2 : row2.size = 32 := by rw [← hfull'.out]; exact part_size _ _ (by omega)
      have hone : row2.all (·.oneCell') = true := by rw [← hfull'.out]; exact part_one _ _
      have c0' := setRow_heap wr g0 Z row2 40 (0, 0) c0
      go_wp2_with (first
        | (refine wpList_load_row rfl 40 (.tmp 1) rfl g1 rfl 40 row2 (0, 0) _ c1' Try.underlying40 rfl (by rw [info_table, hr2]) ?_)
        | (refine wpList_store_row rfl 40 (.tmp 0) (.tmp 13) rfl g0 row2 rfl rfl 40 Z c0 (by rw [info_table, hr2]) (by omega) hone ?_))
      refine bodyPost_ret (v := .agg row2) (results_cell_row rfl _ _ g0 40 row2 (0, 0) _ rfl c0' Try.underlying40 rfl (by rw [info_table, hr2])) rfl ⟨rfl, (by rw [hg0]; exact below_setRow hB' (Nat.le_refl _) _)⟩

/-- A table's cells. -/
def tabA (m : Nat) : Array Value := (nums .u32 (tab m)).toArray
theorem tabA_size (m : Nat) : (tabA m).size = 32 := by simp [tabA, nums, tab_length]
theorem tabA_one (m : Nat) : (tabA m).all (·.oneCell') = true := by
  have := part_one m 32
  rw [part_full] at this
  exact this
theorem i64_and1 {x : Nat} (h : x ≤ 9223372036854775807) : (bits .and .i64 (x : Int) 1 == 1) = decide (x % 2 = 1) := by
  have h1 : (BitVec.ofInt 64 1).toNat = 2 ^ 1 - 1 := by decide
  have key : (BitVec.ofInt 64 (x : Int) &&& BitVec.ofInt 64 1).toNat = ((x : Int) % ((2 ^ 64 : Nat) : Int)).toNat % 2 ^ 1 := by
    rw [BitVec.toNat_and, BitVec.toNat_ofInt, h1, Nat.and_two_pow_sub_one_eq_mod]
  have e : bits .and .i64 (x : Int) 1 = ((x % 2 : Nat) : Int) := by
    show IntKind.i64.wrap ((BitVec.ofInt 64 (x : Int) &&& BitVec.ofInt 64 1).toNat : Nat) = _
    rw [key, IntKind.wrap_i64]
    omega
  rw [e]
  rcases Nat.mod_two_eq_zero_or_one x with h1 | h1 <;> rw [h1] <;> rfl
theorem half_odd (m x t : Nat) (h : x % 2 = 1) : steps (2 * m * (x / 2)) (steps m t) = steps (m * x) t := by
  rw [← steps_add]
  congr 1
  obtain ⟨q, rfl⟩ : ∃ q, x = 2 * q + 1 := ⟨x / 2, by omega⟩
  rw [show (2 * q + 1) / 2 = q by omega, Nat.mul_add, Nat.mul_one, ← Nat.mul_assoc, Nat.mul_comm 2 m]
theorem half_even (m x t : Nat) (h : ¬ x % 2 = 1) : steps (2 * m * (x / 2)) t = steps (m * x) t := by
  congr 1
  obtain ⟨q, rfl⟩ : ∃ q, x = 2 * q := ⟨x / 2, by omega⟩
  rw [show (2 * q) / 2 = q by omega, ← Nat.mul_assoc, Nat.mul_comm 2 m]

theorem setRow_other (w : World) {b g : Nat} (cs : Array Value) (h : b ≠ g) : (w.setRow g cs).heap[b]? = w.heap[b]? := by
  simp only [World.setRow, Array.getElem?_modify]
  rw [if_neg (by omega)]
theorem after_alloc {w0 : World} (w : World) (b : Nat) (v : Value) (c : Array Value) (T : TypeId) {U : TypeId} (h : w.heap[b]? = some (.cells #[v] U (0, 0))) (hB : Below b w0 w) :
    (w.alloc (.cells c T)).heap[b]? = some (.cells #[v] U (0, 0)) ∧ (w.alloc (.cells c T)).heap[w.heap.size]? = some (.cells c T (0, 0)) ∧ Below b w0 (w.alloc (.cells c T)) ∧ w.heap.size < (w.alloc (.cells c T)).heap.size ∧
      (w.alloc (.cells c T)).cell? ⟨b, 0, none⟩ = some v ∧ (w.alloc (.cells c T)).frozen? ⟨b, 0, none⟩ = false := by
  have hb : b < w.heap.size := (Array.getElem?_eq_some_iff.1 h).1
  have h1 : (w.alloc (.cells c T)).heap[b]? = some (.cells #[v] U (0, 0)) := (((Below.refl (b + 1) w).alloc (by omega) _).block b (by omega)).trans h
  exact ⟨h1, heap_alloc_new _ _, hB.alloc (by omega) _, by simp, by rw [cell_of_row _ _ _ _ _ _ h1]; rfl, frozen_of_row _ _ _ _ _ h1⟩

set_option maxRecDepth 100000 in
set_option maxHeartbeats 2000000 in
theorem closure_any (n : Int) (hn : n ≤ 9223372036854775807) (r : Nat) (hr : r < 4294967296) (b : Nat) (w : World) (hcap : w.heap[b]? = some (.cells #[.int .i64 n] 3 (0, 0))) :
    Calls Try.prog 20 #[.int .u32 r, .pointer (some ⟨b, 0, none⟩)] w fun e w' => e = .returned (.int .u32 ((steps (8 * n.toNat) r : Nat) : Int)) ∧ Below b w w' := by
  obtain ⟨F, hF⟩ : ∃ F, Hid (steps (8 * n.toNat) r = F) := ⟨_, Lib.hid rfl⟩
  rw [hF.out]
  have hbs : b < w.heap.size := (Array.getElem?_eq_some_iff.1 hcap).1
  have hof : Hid (∀ m r, r < 4294967296 → ∀ w, Calls Try.prog 22 #[.agg (tabA m), .int .u32 ((r : Nat) : Int)] w fun e w' => e = .returned (.int .u32 ((steps m r : Nat) : Int)) ∧ Below w.heap.size w w') := Lib.hid of_any
  have hsq : Hid (∀ m w, Calls Try.prog 23 #[.agg (tabA m)] w fun e w' => e = .returned (.agg (tabA (2 * m))) ∧ Below w.heap.size w w') := Lib.hid square_any
  have hze : Hid (∀ w, Calls Try.prog 21 #[] w fun e w' => e = .returned (.agg (tabA 8)) ∧ Below w.heap.size w w') := Lib.hid zero_any
  go_enter Try.func20, Try.ntmps20
  go_wp2_with fail
  refine (hze.out _).mono ?_
  rintro e w1 ⟨rfl, hw1⟩
  have q1 := (hw1.block b hbs).trans hcap
  go_wp2_with (refine wpList_store_row rfl 40 (.tmp 4) (.tmp 5) rfl w1.heap.size (tabA 8) rfl rfl 40 _ (heap_alloc_new _ _) (by rw [info_table, tabA_size]) (by rw [tabA_size]; rfl) (tabA_one 8) ?_; rw [World.setRow_alloc_new])
  have o0 := hw1.size
  obtain ⟨o1, o2, o3, o4, _, _⟩ := after_alloc w1 b _ (tabA 8) 40 q1 (hw1.mono (by omega) : Below b w w1)
  generalize hg : w1.heap.size = g at o0 o2 o4 ⊢
  generalize w1.alloc (.cells (tabA 8) 40) = wa at o1 o2 o3 o4 ⊢
  simp only [Act.put]
  go_loopw [0, 4] (fun y p wr => ∃ (m : Nat) (x : Int) (t g : Nat), x ≤ 9223372036854775807 ∧ Hid (steps (m * x.toNat) t = F) ∧ t < 4294967296 ∧ wr.heap[b]? = some (.cells #[.int .i64 x] 3 (0, 0)) ∧ wr.heap[g]? = some (.cells (tabA m) 40 (0, 0)) ∧ b < g ∧ g < wr.heap.size ∧ Below b w wr ∧ y = .int .u32 t ∧ p = .pointer (some ⟨g, 0, none⟩)) (fun _ _ wr => (intOf ((wr.cell? ⟨b, 0, none⟩).getD undef)).toNat)
  case atStart => exact ⟨8, n, r, g, hn, hF, hr, o1, o2, by omega, by omega, o3, rfl, rfl⟩
  case round =>
    obtain ⟨m, x, t, g, hx, hF', ht, cb, cg, hbg, hgs, hBel, rfl, rfl⟩ := hrel
    have hcellb : wr.cell? ⟨b, 0, none⟩ = some (.int .i64 x) := by rw [cell_of_row _ _ _ _ _ _ cb]; rfl
    by_cases hpos : 0 < x
    · obtain ⟨x, rfl⟩ := Int.eq_ofNat_of_zero_le (show 0 ≤ x by omega)
      have hand := i64_and1 (x := x) (by omega)
      by_cases hodd : x % 2 = 1
      · rw [decide_eq_true hodd] at hand
        go_wp2_with (refine wpList_load_row rfl 40 (.tmp 4) rfl g rfl 40 (tabA m) (0, 0) _ cg Try.underlying40 rfl (by rw [info_table, tabA_size]) ?_)
        refine (hof.out m t ht _).mono ?_
        rintro e wA ⟨rfl, hwA⟩
        have kb := (hwA.block b (by omega)).trans cb
        have kg := (hwA.block g (by omega)).trans cg
        have kB := hBel.trans (hwA.mono (by omega))
        have ks := hwA.size
        have hbgA : g < wA.heap.size := by omega

        go_wp2_with (refine wpList_load_row rfl 40 (.tmp 4) rfl g rfl 40 (tabA m) (0, 0) _ kg Try.underlying40 rfl (by rw [info_table, tabA_size]) ?_)
        refine (hsq.out m _).mono ?_
        rintro e w2 ⟨rfl, hw2⟩
        have l_b := (hw2.block b (by omega)).trans kb
        have l_g := (hw2.block g (by omega)).trans kg
        have hsz2 := hw2.size
        have m_g := setRow_heap w2 g (tabA m) (tabA (2 * m)) 40 (0, 0) l_g
        have m_b := (setRow_other w2 (tabA (2 * m)) (show b ≠ g by omega)).trans l_b
        have m_B := below_setRow (kB.trans (hw2.mono (by omega))) (show b ≤ g by omega) (tabA (2 * m))
        clear l_b
        go_wp2_with (first
          | (refine wpList_store_row rfl 40 (.tmp 4) (.tmp 17) rfl g (tabA (2 * m)) rfl rfl 40 (tabA m) l_g (by rw [info_table, tabA_size]) (by rw [tabA_size, tabA_size]) (tabA_one _) ?_; generalize w2.setRow g (tabA (2 * m)) = w3 at m_g m_b m_B ⊢)
          | (refine wpList_load_row rfl 40 (.tmp 4) rfl g rfl 40 (tabA (2 * m)) (0, 0) _ m_g Try.underlying40 rfl (by rw [info_table, tabA_size]) ?_)
          | (refine wpList_store_row rfl 40 (.tmp 4) (.tmp 18) rfl _ (tabA (2 * m)) rfl rfl 40 _ (heap_alloc_new _ _) (by rw [info_table, tabA_size]) (by rw [tabA_size]; rfl) (tabA_one _) ?_; rw [World.setRow_alloc_new]; obtain ⟨n_b, n_g, n_B, n_s, n_c, n_f⟩ := after_alloc _ b _ (tabA (2 * m)) 40 m_b m_B; generalize World.alloc _ (.cells (tabA (2 * m)) 40) = w4 at n_b n_g n_B n_s n_c n_f ⊢))
        have p_b : (w4.setCell ⟨b, 0, none⟩ (.int .i64 ((x : Int) / 2))).heap[b]? = some (.cells #[.int .i64 ((x : Int) / 2)] 3 (0, 0)) := heap_setCell_same w4 b 0 _ _ _ n_b
        have hb3 : b < w3.heap.size := (Array.getElem?_eq_some_iff.1 m_b).1
        have p_g := (heap_setCell_other w4 ⟨b, 0, none⟩ w3.heap.size (.int .i64 ((x : Int) / 2)) (by show w3.heap.size ≠ b; omega)).trans n_g
        have p_B := n_B.setCell (p := ⟨b, 0, none⟩) (Nat.le_refl _) (.int .i64 ((x : Int) / 2))
        have p_c : (w4.setCell ⟨b, 0, none⟩ (.int .i64 ((x : Int) / 2))).cell? ⟨b, 0, none⟩ = some (.int .i64 ((x : Int) / 2)) := by rw [cell_of_row _ _ _ _ _ _ p_b]; rfl
        go_roundw
        case rel => exact ⟨2 * m, (x : Int) / 2, steps m t, w3.heap.size, by omega, Lib.hid (by rw [← hF'.out, Int.toNat_natCast, show ((x : Int) / 2).toNat = x / 2 by omega]; exact half_odd m x t hodd), steps_lt ht m, p_b, p_g, hb3, by simpa using n_s, p_B, rfl, rfl⟩
        case measure =>
          rw [p_c, hcellb]
          show ((x : Int) / 2).toNat < (x : Int).toNat
          omega
      · rw [decide_eq_false hodd] at hand
        have kb := cb
        have kg := cg
        have kB := hBel
        have hbgA : g < wr.heap.size := hgs
        go_wp2_with (refine wpList_load_row rfl 40 (.tmp 4) rfl g rfl 40 (tabA m) (0, 0) _ kg Try.underlying40 rfl (by rw [info_table, tabA_size]) ?_)
        refine (hsq.out m _).mono ?_
        rintro e w2 ⟨rfl, hw2⟩
        have l_b := (hw2.block b (by omega)).trans kb
        have l_g := (hw2.block g (by omega)).trans kg
        have hsz2 := hw2.size
        have m_g := setRow_heap w2 g (tabA m) (tabA (2 * m)) 40 (0, 0) l_g
        have m_b := (setRow_other w2 (tabA (2 * m)) (show b ≠ g by omega)).trans l_b
        have m_B := below_setRow (kB.trans (hw2.mono (by omega))) (show b ≤ g by omega) (tabA (2 * m))
        clear l_b
        go_wp2_with (first
          | (refine wpList_store_row rfl 40 (.tmp 4) (.tmp 17) rfl g (tabA (2 * m)) rfl rfl 40 (tabA m) l_g (by rw [info_table, tabA_size]) (by rw [tabA_size, tabA_size]) (tabA_one _) ?_; generalize w2.setRow g (tabA (2 * m)) = w3 at m_g m_b m_B ⊢)
          | (refine wpList_load_row rfl 40 (.tmp 4) rfl g rfl 40 (tabA (2 * m)) (0, 0) _ m_g Try.underlying40 rfl (by rw [info_table, tabA_size]) ?_)
          | (refine wpList_store_row rfl 40 (.tmp 4) (.tmp 18) rfl _ (tabA (2 * m)) rfl rfl 40 _ (heap_alloc_new _ _) (by rw [info_table, tabA_size]) (by rw [tabA_size]; rfl) (tabA_one _) ?_; rw [World.setRow_alloc_new]; obtain ⟨n_b, n_g, n_B, n_s, n_c, n_f⟩ := after_alloc _ b _ (tabA (2 * m)) 40 m_b m_B; generalize World.alloc _ (.cells (tabA (2 * m)) 40) = w4 at n_b n_g n_B n_s n_c n_f ⊢))
        have p_b : (w4.setCell ⟨b, 0, none⟩ (.int .i64 ((x : Int) / 2))).heap[b]? = some (.cells #[.int .i64 ((x : Int) / 2)] 3 (0, 0)) := heap_setCell_same w4 b 0 _ _ _ n_b
        have hb3 : b < w3.heap.size := (Array.getElem?_eq_some_iff.1 m_b).1
        have p_g := (heap_setCell_other w4 ⟨b, 0, none⟩ w3.heap.size (.int .i64 ((x : Int) / 2)) (by show w3.heap.size ≠ b; omega)).trans n_g
        have p_B := n_B.setCell (p := ⟨b, 0, none⟩) (Nat.le_refl _) (.int .i64 ((x : Int) / 2))
        have p_c : (w4.setCell ⟨b, 0, none⟩ (.int .i64 ((x : Int) / 2))).cell? ⟨b, 0, none⟩ = some (.int .i64 ((x : Int) / 2)) := by rw [cell_of_row _ _ _ _ _ _ p_b]; rfl
        go_roundw
        case rel => exact ⟨2 * m, (x : Int) / 2, t, w3.heap.size, by omega, Lib.hid (by rw [← hF'.out, Int.toNat_natCast, show ((x : Int) / 2).toNat = x / 2 by omega]; exact half_even m x t hodd), ht, p_b, p_g, hb3, by simpa using n_s, p_B, rfl, rfl⟩
        case measure =>
          rw [p_c, hcellb]
          show ((x : Int) / 2).toNat < (x : Int).toNat
          omega
    · have hfin : Hid ((t : Int) = (F : Int)) := Lib.hid (by
        have h1 := hF'.out
        rw [show x.toNat = 0 by omega, Nat.mul_zero] at h1
        rw [← h1]; rfl)
      go_wp2
      go_ret
      exact ⟨ret_int hfin.out, hBel⟩
end Go.Proofs.Ytgdfanpolmoffaa
