/- Zones changed: the document's Forget. -/
import Derived.Test.YtacbkddkjlnklaaZoneRef3
namespace Go.Proofs.Ytacbkddkjlnklaa
open Go.RowKit
set_option linter.unusedVariables false
set_option linter.unusedSimpArgs false

def farAll (n : Nat) (l : List Int) (i : Nat) : List Int := (List.range (sz n)).map fun k => if k / (n + 1) = i ∨ k % (n + 1) = i then 4398046511104 else l.getD k 0
theorem farAll_len (n : Nat) (l : List Int) (i : Nat) : (farAll n l i).length = sz n := by simp [farAll]
theorem farAll_at {n : Nat} (l : List Int) (i : Nat) {a b : Nat} (ha : a ≤ n) (hb : b ≤ n) : mat n (farAll n l i) a b = if a = i ∨ b = i then 4398046511104 else mat n l a b := by
  have h := place_lt ha hb
  unfold mat farAll sz
  simp [List.getD, h, place_div hb, place_mod hb]
theorem far_clip {n i : Nat} (hi : i ≤ n) {l : List Int} (hF : Full n l) : clipL n (farAll n l i) = clipL n (forL n l i) := by
  refine mat_ext (clip_len _ _) (clip_len _ _) (fun a b ha hb => ?_)
  have hlen : l.length = (n + 1) * (n + 1) := hF.len
  unfold clipL
  rw [mat_matL _ ha hb, mat_matL _ ha hb]
  unfold clipF
  rw [farAll_at l i ha hb, show mat n (forL n l i) a b = _ from othK_at (F := fun _ => 4398046511104) (G := fun _ => 4398046511104) hi hlen (n + 1) (by omega) a b ha hb]
  by_cases h1 : a = i
  · subst h1
    by_cases h2 : b = a
    · subst h2
      have := hF.closed.zero b hi
      rw [if_pos (by omega), if_neg (by omega), if_neg (by omega), this]
      have : widestF b b = 0 := by unfold widestF; simp
      rw [this]
      decide
    · rw [if_pos (by omega), if_pos (by omega)]
  · by_cases h2 : b = i
    · subst h2
      rw [if_pos (by omega), if_neg (by omega), if_pos (by omega)]
    · rw [if_neg (by omega), if_neg (by omega), if_neg (by omega)]
theorem far_closed {n i : Nat} (hi : i ≤ n) {l : List Int} (hF : Full n l) : closedL n (farAll n l i) = closedL n (forL n l i) := by unfold closedL; rw [far_clip hi hF]
theorem rfor_nil (n : Nat) (i : Int) (a : Option Addr) (ca : Nat) (w : World) : Calls Try.prog 29 #[.agg #[.int .i64 n, .slice a 0 ca], .int .i64 i] w (ZoneN n [] w) := by
  obtain ⟨hb, hz⟩ := b1_new2 w (.int .i64 n) (.slice a 0 ca) (.int .i64 n) (.slice a 0 ca)
  have hb' := Lib.hid hb
  have hz' := Lib.hid hz
  clear hb hz
  go_enter Try.func29, Try.ntmps29
  go_wp2
  exact zone_ret hz'.out ⟨a, 0, ca, rfl, ⟨rfl, Nat.zero_le _, by omega, .inl rfl⟩, hb'.out, .inl rfl⟩ _ _ 4 rfl rfl rfl
set_option maxRecDepth 100000 in
set_option maxHeartbeats 1000000 in
theorem rfor_full (n : Nat) (l : List Int) (hF : Full n l) (i : Nat) (hi : i ≤ n) (a : Option Addr) (m ca : Nat) (w : World) (h : SL w a m ca l) : Calls Try.prog 29 #[.agg #[.int .i64 n, .slice a m ca], .int .i64 i] w (ZoneN n (closedL n (forL n l i)) w) := by
  rw [← far_closed hi hF]
  obtain ⟨i0, hii, hz0, hz1, hz2⟩ := info_parts infoInt
  obtain ⟨W1, hW1⟩ : ∃ W1, W1 = (w.alloc (.cells #[.int .i64 n, .slice a m ca] 24)).alloc (.cells #[.int .i64 0, .slice none 0 0] 24) := ⟨_, rfl⟩
  have X1 : B1 w W1 (.int .i64 n) (.slice a m ca) := by rw [hW1]; exact b1_new _ _ _
  have H1 := Lib.hid h
  have X1' := Lib.hid X1
  have k0 := X1.z1.cell 0
  have k1 := X1.z1.cell 1
  have hs81 := sz_le hF.le
  have hpos := sz_pos n
  have hn8 : (n : Int) ≤ 8 := by have := hF.le; omega
  have hm : m = sz n := by rw [h.len, hF.len]
  have p1 : ((m : Int) == 0) = false := by simp; omega
  have p2 : ¬ (m : Int) = 0 := by omega
  have hsq : ((n : Int) + 1) * ((n : Int) + 1) = (m : Int) := by rw [hm]; unfold sz; simp
  have hwn : IntKind.i64.wrap ((n : Int) + 1) = (n : Int) + 1 := wrap_small (by omega) (by omega)
  have hws : IntKind.i64.wrap (m : Int) = (m : Int) := wrap_small (by omega) (by omega)
  have hmi : m ≤ 81 := by omega
  have hlen : Hid ((farAll n l i).length = m) := Lib.hid (by rw [farAll_len, hm])
  have hat : Hid (∀ k, k < m → (farAll n l i).take k ++ [if k / (n + 1) = i ∨ k % (n + 1) = i then 4398046511104 else l.getD k 0] = (farAll n l i).take (k + 1)) := Lib.hid (fun k hk => by
    have hl : k < (farAll n l i).length := by rw [farAll_len, ← hm]; exact hk
    have e : (farAll n l i)[k] = if k / (n + 1) = i ∨ k % (n + 1) = i then 4398046511104 else l.getD k 0 := by simp only [farAll, List.getElem_map, List.getElem_range]
    rw [← List.take_append_getElem hl, e])
  have hrc := Lib.hid (fun a c W (h : Sees .i64 W.heap.size W a (farAll n l i)) => rclose_any n hF.le a (farAll n l i) m c (by rw [farAll_len, hm]) hm W h)
  have hsm : Hid ((closedL n (farAll n l i)).length ≤ 1000) := Lib.hid (by have := closed_small hF.le (farAll n l i); omega)
  have hW1' := Lib.hid hW1
  clear X1 h hF hm hs81 hpos
  generalize farAll n l i = P at *
  generalize closedL n P = R at *
  go_enter Try.func29, Try.ntmps29
  go_wp2
  rw [← hW1]
  clear hW1 k0 k1 hW1'
  go_loopw [6, 7] (fun v x wr => ∃ k : Nat, k ≤ m ∧ x = .int .i64 k ∧ Hid (wr.ownsRow W1.heap.size 3 1 v (P.take k).length (nums .i64 (P.take k))) ∧ Hid (Below W1.heap.size W1 wr)) (fun _ x _ => m - (intOf x).toNat)
  case atStart => exact ⟨0, by omega, rfl, Lib.hid (by rw [List.take_zero]; exact ⟨rfl, .inl ⟨rfl, rfl⟩⟩), Lib.hid (Below.refl _ _)⟩
  case round =>
    obtain ⟨k, hk, rfl, hown, hb⟩ := hrel
    have X2 := Lib.hid (X1'.out.on hb.out)
    have k0 := X2.out.z1.cell 0
    have k1 := X2.out.z1.cell 1
    by_cases hlt : k < m
    · have hki : (k : Int) < (m : Int) := by omega
      have T1 := Lib.hid (H1.out.below X2.out.bl)
      obtain ⟨b1, o1, rfl, -, e1⟩ := sees_at' T1.out.sees (i := k) (by have := T1.out.len; omega)
      have hnx := Lib.hid (hat.out k hlt)
      have hrl : (P.take k).length ≤ 81 := by have := hlen.out; rw [List.length_take]; omega
      obtain ⟨q, hq⟩ : ∃ q : Nat, q = k / (n + 1) := ⟨_, rfl⟩
      obtain ⟨r, hr⟩ : ∃ r : Nat, r = k % (n + 1) := ⟨_, rfl⟩
      have t1 : ((k : Int)).tdiv ((n : Int) + 1) = (q : Int) := by rw [Int.tdiv_eq_ediv_of_nonneg (by omega), hq, Int.natCast_ediv]; rfl
      have t2 : ((k : Int)).tmod ((n : Int) + 1) = (r : Int) := by rw [Int.tmod_eq_emod_of_nonneg (by omega), hr, Int.natCast_emod]; rfl
      have hq9 : q ≤ 81 := by have := Nat.div_le_self k (n + 1); omega
      have hr9 : r ≤ 81 := by have := Nat.mod_le k (n + 1); omega
      have hwq : IntKind.i64.wrap (q : Int) = (q : Int) := wrap_small (by omega) (by omega)
      have hwr : IntKind.i64.wrap (r : Int) = (r : Int) := wrap_small (by omega) (by omega)
      have hn0 : ¬ ((n : Int) + 1 = 0) := by omega
      rw [← hq, ← hr] at hnx
      clear T1 hq hr
      generalize l.getD k 0 = x at *
      by_cases hqi : q = i
      · rw [if_pos (by omega)] at hnx
        have hqe : (q : Int) = (i : Int) := by omega
        go_wp2_with (at_builtin; refine wpList_append1 _ rfl _ _ 22 rfl W1 3 i0 (.int .i64 0) 8 Try.underlying22 hii hz0 hz1 hz2 rfl .i64 4398046511104 _ _ hown.out hb.out rfl rfl (by omega) (by omega) ?_; intro v' w' hown2 hb2; have hown2' := Lib.hid hown2; have hb2' := Lib.hid hb2; clear hown2 hb2)
        go_roundw
        case rel => exact ⟨k + 1, by omega, by go_num, by rw [← hnx.out]; exact hown2', hb2'⟩
        case measure => simp [intOf]; omega
      · have hqe : ¬ (q : Int) = (i : Int) := by omega
        by_cases hri : r = i
        · rw [if_pos (by omega)] at hnx
          have hre : (r : Int) = (i : Int) := by omega
          go_wp2_with (at_builtin; refine wpList_append1 _ rfl _ _ 22 rfl W1 3 i0 (.int .i64 0) 8 Try.underlying22 hii hz0 hz1 hz2 rfl .i64 4398046511104 _ _ hown.out hb.out rfl rfl (by omega) (by omega) ?_; intro v' w' hown2 hb2; have hown2' := Lib.hid hown2; have hb2' := Lib.hid hb2; clear hown2 hb2)
          go_roundw
          case rel => exact ⟨k + 1, by omega, by go_num, by rw [← hnx.out]; exact hown2', hb2'⟩
          case measure => simp [intOf]; omega
        · rw [if_neg (by omega)] at hnx
          have hre : ¬ (r : Int) = (i : Int) := by omega
          have hrb : ((r : Int) == (i : Int)) = false := by simp; omega
          have hqb : ((q : Int) == (i : Int)) = false := by simp; omega
          go_wp2_with (at_builtin; refine wpList_append1 _ rfl _ _ 22 rfl W1 3 i0 (.int .i64 0) 8 Try.underlying22 hii hz0 hz1 hz2 rfl .i64 x _ _ hown.out hb.out rfl rfl (by omega) (by omega) ?_; intro v' w' hown2 hb2; have hown2' := Lib.hid hown2; have hb2' := Lib.hid hb2; clear hown2 hb2)
          go_roundw
          case rel => exact ⟨k + 1, by omega, by go_num, by rw [← hnx.out]; exact hown2', hb2'⟩
          case measure => simp [intOf]; omega
    · have hke : k = m := by omega
      have htk : P.take k = P := List.take_of_length_le (by have := hlen.out; omega)
      have hw := hown.out
      rw [htk] at hw
      obtain ⟨a5, c5, hv, -, hs⟩ := sees_own hw
      rw [hlen.out] at hv
      subst hv
      have hcall := Lib.hid (hrc.out a5 c5 wr hs)
      clear hown hw hs htk hrc hat
      go_wp2_with fail
      refine hcall.out.mono ?_
      intro e w7 hz7
      obtain ⟨a7, m7, c7, rfl, s7, b7, nw7⟩ := zoneN_of hsm.out hz7
      have Zd := X2.out.z2.below b7 X2.out.z2.lt
      have y0 := Zd.cell 0
      have y1 := Zd.cell 1
      have f0 := Zd.free 0
      have f1 := Zd.free 1
      have hfin := Lib.hid (zone_putN (n := n) X2.out.bl (by omega) X2.out.z2 s7 b7 nw7)
      clear Zd hcall hz7
      go_wp2
      exact zone_ret hfin.out.1 hfin.out.2 _ _ 4 rfl rfl rfl
end Go.Proofs.Ytacbkddkjlnklaa
