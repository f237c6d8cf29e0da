/-
  Words and walks under the law's proof.
-/
import Derived.Laws.ResultCell
import Derived.Test.YtimgocfkogebmaaGreatDoorQF01
namespace Go.Proofs.YtimgocfkogebmaaGreatDoor
set_option linter.unusedVariables false
set_option linter.unusedSimpArgs false
def lowF (k : Nat) (L : Int) (i j : Nat) : Int := if i = k ∧ j = k then 2 * L else if i = k ∨ j = k then 3 * L else 6 * L
theorem lowF_le (k : Nat) {L : Int} (hL : 0 ≤ L) (i j : Nat) : L ≤ lowF k L i j ∧ lowF k L i j ≤ 6 * L := by
  unfold lowF
  split
  · omega
  · split <;> omega
theorem thr_low {n k : Nat} (hk : k ≤ n) {d : List Int} (hl : d.length = (n + 1) * (n + 1)) {L : Int} (hL : 0 ≤ L) (h : ∀ i j, i ≤ n → j ≤ n → -L ≤ mat n d i j) : ∀ t, t ≤ (n + 1) * (n + 1) → ∀ i j, i ≤ n → j ≤ n →
    -(lowF k L i j) ≤ mat n (thr n k d t) i j ∧ (t ≤ i * (n + 1) + j → mat n (thr n k d t) i j = mat n d i j) := by
  intro t
  induction t with
  | zero =>
    intro _ i j hi hj
    have := h i j hi hj
    have := lowF_le k hL i j
    simp only [thr]
    exact ⟨by omega, fun _ => trivial⟩
  | succ t ih =>
    intro ht i j hi hj
    have h1 := ih (by omega)
    obtain ⟨q1, q2, q3⟩ := place_of (n := n) (t := t) (by omega)
    simp only [thr]
    rw [mat_set (by rw [thr_len]; exact hl) (by omega) _ hi hj]
    by_cases q : i = t / (n + 1) ∧ j = t % (n + 1)
    · rw [if_pos q]
      obtain ⟨rfl, rfl⟩ := q
      generalize hi' : t / (n + 1) = i at *
      generalize hj' : t % (n + 1) = j at *
      refine ⟨?_, by intro; omega⟩
      have e : (thr n k d t).getD t 0 = mat n (thr n k d t) i j := by unfold mat; rw [q3]
      rw [e, (h1 i j hi hj).2 (by omega)]
      have a1 := h i j hi hj
      have a2 := h1 i k hi hk
      have a3 := h1 k j hk hj
      have a4 := h i k hi hk
      have a5 := h k j hk hj
      by_cases hik : i = k
      · subst hik
        by_cases hjk : j = i
        · subst hjk
          rw [(h1 j j hi hj).2 (by omega)]
          unfold lowF
          rw [if_pos ⟨rfl, rfl⟩]
          omega
        · rw [(h1 i j hi hj).2 (by omega)]
          have a6 := a2.1
          unfold lowF at a6 ⊢
          rw [if_pos ⟨rfl, rfl⟩] at a6
          rw [if_neg (by rintro ⟨-, e⟩; exact hjk e), if_pos (.inl rfl)]
          omega
      · by_cases hjk : j = k
        · subst hjk
          rw [(h1 i j hi hj).2 (by omega)]
          have a6 := a3.1
          unfold lowF at a6 ⊢
          rw [if_pos ⟨rfl, rfl⟩] at a6
          rw [if_neg (by rintro ⟨e, -⟩; exact hik e), if_pos (.inr rfl)]
          omega
        · have a6 := a3.1
          have a7 := a2.1
          unfold lowF at a6 a7 ⊢
          rw [if_neg (by rintro ⟨-, e⟩; exact hjk e), if_pos (.inl rfl)] at a6
          rw [if_neg (by rintro ⟨e, -⟩; exact hik e), if_pos (.inr rfl)] at a7
          rw [if_neg (by rintro ⟨e, -⟩; exact hik e), if_neg (by rintro (e | e); exact hik e; exact hjk e)]
          omega
    · rw [if_neg q]
      refine ⟨(h1 i j hi hj).1, fun hle => (h1 i j hi hj).2 (by omega)⟩
structure FwI (n : Nat) (M : List Int) (k : Nat) (d : List Int) : Prop where
  len : d.length = (n + 1) * (n + 1)
  run : fwRun n (n + 1 - k) k d = closedL n M
  diag : ∀ i, i ≤ n → mat n d i i ≤ 0
  zero : k = 0 ∨ ∀ i, i ≤ n → mat n d i i = 0
  low : ∀ i j, i ≤ n → j ≤ n → -(if k = 0 then 2199023255553 else 13194139533318 * 2 ^ k) ≤ mat n d i j
  high : ∀ i j, i ≤ n → j ≤ n → mat n d i j ≤ 2199023255552
theorem widestF_le (i j : Nat) : 0 ≤ widestF i j ∧ widestF i j ≤ 2199023255552 := by
  unfold widestF
  split
  · omega
  · split <;> omega
theorem clipF_in (n : Nat) (M : List Int) (i j : Nat) : -2199023255553 ≤ clipF n M i j ∧ clipF n M i j ≤ 2199023255552 := by
  have := widestF_le i j
  unfold clipF
  omega
theorem FwI.start (n : Nat) (M : List Int) : FwI n M 0 (clipL n M) := by
  refine ⟨clip_len _ _, rfl, fun i hi => clip_diag hi, .inl rfl, fun i j hi hj => ?_, fun i j hi hj => ?_⟩
  · unfold clipL
    rw [mat_matL _ hi hj, if_pos rfl]
    have := clipF_in n M i j
    omega
  · unfold clipL
    rw [mat_matL _ hi hj]
    exact (clipF_in n M i j).2
theorem FwI.bounds {n k : Nat} {M d : List Int} (h : FwI n M k d) (hn : n ≤ 8) (hk : k ≤ n) : ∀ t, t ≤ (n + 1) * (n + 1) → ∀ p, -2305843009213693952 ≤ (thr n k d t).getD p 0 ∧ (thr n k d t).getD p 0 ≤ 2305843009213693951 := by
  intro t ht p
  by_cases hp : p < (n + 1) * (n + 1)
  · obtain ⟨q1, q2, q3⟩ := place_of hp
    have e : (thr n k d t).getD p 0 = mat n (thr n k d t) (p / (n + 1)) (p % (n + 1)) := by unfold mat; rw [q3]
    rw [e]
    have hp2 : (2 : Int) ^ k ≤ 256 := by
      have : ∀ k : Nat, k ≤ 8 → (2 : Int) ^ k ≤ 256 := by decide
      exact this k (by omega)
    have hp3 : (0 : Int) ≤ 2 ^ k := Int.le_of_lt (Int.pow_pos (by decide))
    have hL : (0 : Int) ≤ (if k = 0 then 2199023255553 else 13194139533318 * 2 ^ k) := by split <;> omega
    have h1 := (thr_low hk h.len hL h.low t ht _ _ q1 q2).1
    have h2 := (lowF_le k hL (p / (n + 1)) (p % (n + 1))).2
    have h3 := thr_leq h.len t ht _ _ q1 q2 (k := k)
    have h4 := h.high _ _ q1 q2
    refine ⟨?_, by omega⟩
    split at h1 <;> rename_i hk0
    · rw [if_pos hk0] at h2; omega
    · rw [if_neg hk0] at h2; omega
  · have e : (thr n k d t).getD p 0 = 0 := by
      simp only [List.getD]
      rw [List.getElem?_eq_none (by rw [thr_len, h.len]; omega)]
      rfl
    rw [e]; omega
theorem FwI.out {n k : Nat} {M d : List Int} (h : FwI n M k d) (hk : k ≤ n) (hb : belowL n (thrAll n k d) = true) : closedL n M = [] := by
  rw [← h.run, show n + 1 - k = (n - k) + 1 by omega]
  simp only [fwRun]
  rw [if_pos hb]
theorem FwI.next {n k : Nat} {M d : List Int} (h : FwI n M k d) (hk : k ≤ n) (hb : belowL n (thrAll n k d) = false) : FwI n M (k + 1) (thrAll n k d) := by
  have hle : Leq n (mat n (thrAll n k d)) (mat n d) := thr_leq h.len _ (Nat.le_refl _)
  have hz : ∀ i, i ≤ n → mat n (thrAll n k d) i i = 0 := fun i hi => by
    have a := belowL_not hb hi
    have b := hle i i hi hi
    have c := h.diag i hi
    omega
  refine ⟨by unfold thrAll; rw [thr_len]; exact h.len, ?_, fun i hi => by rw [hz i hi]; omega, .inr hz, ?_, fun i j hi hj => Int.le_trans (hle i j hi hj) (h.high i j hi hj)⟩
  · rw [← h.run, show n + 1 - k = (n + 1 - (k + 1)) + 1 by omega]
    conv => rhs; simp only [fwRun]
    rw [if_neg (by rw [hb]; decide)]
  · intro i j hi hj
    rw [if_neg (by omega)]
    by_cases hk0 : k = 0
    · subst hk0
      have hL : (0 : Int) ≤ 2199023255553 := by decide
      have h1 := (thr_low hk h.len hL (fun i j hi hj => by have := h.low i j hi hj; rw [if_pos rfl] at this; exact this) _ (Nat.le_refl _) i j hi hj).1
      have h2 := (lowF_le 0 hL i j).2
      unfold thrAll
      simp only [Nat.zero_add, Int.pow_one] at *
      omega
    · rcases h.zero with h0 | h0
      · exact absurd h0 hk0
      rw [thrAll_at hk h.len (h0 k hk) hi hj]
      have a1 := h.low i j hi hj
      have a2 := h.low i k hi hk
      have a3 := h.low k j hk hj
      rw [if_neg hk0] at a1 a2 a3
      have hp3 : (0 : Int) ≤ 2 ^ k := Int.le_of_lt (Int.pow_pos (by decide))
      rw [Int.pow_succ]
      omega
theorem FwI.end_ {n : Nat} {M d : List Int} (h : FwI n M (n + 1) d) : d = closedL n M := by
  rw [← h.run, Nat.sub_self]; rfl
/- The document's way: how low it becomes. -/
theorem sq_in {n : Nat} {m : List Int} (hlo : ∀ i j, i ≤ n → j ≤ n → -2199023255553 ≤ mat n m i j) (hhi : ∀ i j, i ≤ n → j ≤ n → mat n m i j ≤ 2199023255552) : ∀ t i j, i ≤ n → j ≤ n → -(2199023255553 * 2 ^ t) ≤ mat n (sq n m t) i j ∧ mat n (sq n m t) i j ≤ 2199023255552 := by
  intro t
  induction t with
  | zero => intro i j hi hj; have := hlo i j hi hj; have := hhi i j hi hj; simp only [sq, Int.pow_zero]; omega
  | succ t ih =>
    intro i j hi hj
    rw [sq_at t hi hj]
    have h0 := sqF_le n (mat n (sq n m t)) i j
    have h1 := ih i j hi hj
    have hp3 : (0 : Int) ≤ 2 ^ t := Int.le_of_lt (Int.pow_pos (by decide))
    refine ⟨?_, by omega⟩
    rw [Int.pow_succ]
    rcases sqF_is n (mat n (sq n m t)) i j with q | ⟨k, hk, q⟩
    · omega
    · have a1 := ih i k hi hk
      have a2 := ih k j hk hj
      omega
theorem sq_bound {n : Nat} {M : List Int} {t : Nat} (ht : t ≤ 4) (p : Nat) : -100000000000000 ≤ (sq n (clipL n M) t).getD p 0 ∧ (sq n (clipL n M) t).getD p 0 ≤ 100000000000000 := by
  have hlo : ∀ i j, i ≤ n → j ≤ n → -2199023255553 ≤ mat n (clipL n M) i j := fun i j hi hj => by unfold clipL; rw [mat_matL _ hi hj]; exact (clipF_in n M i j).1
  have hhi : ∀ i j, i ≤ n → j ≤ n → mat n (clipL n M) i j ≤ 2199023255552 := fun i j hi hj => by unfold clipL; rw [mat_matL _ hi hj]; exact (clipF_in n M i j).2
  by_cases hp : p < (n + 1) * (n + 1)
  · obtain ⟨q1, q2, q3⟩ := place_of hp
    have e : (sq n (clipL n M) t).getD p 0 = mat n (sq n (clipL n M) t) (p / (n + 1)) (p % (n + 1)) := by unfold mat; rw [q3]
    rw [e]
    have h1 := sq_in hlo hhi t _ _ q1 q2
    have hp2 : (2 : Int) ^ t ≤ 16 := by
      have : ∀ k : Nat, k ≤ 4 → (2 : Int) ^ k ≤ 16 := by decide
      exact this t ht
    omega
  · have e : (sq n (clipL n M) t).getD p 0 = 0 := by
      simp only [List.getD]
      rw [List.getElem?_eq_none (by rw [sq_len (clip_len _ _)]; omega)]
      rfl
    rw [e]; omega
end Go.Proofs.YtimgocfkogebmaaGreatDoor
namespace Go.Proofs.YtimgocfkogebmaaGreatDoor
open Go.RowKit
set_option linter.unusedVariables false
set_option linter.unusedSimpArgs false
theorem own_some {w : World} {base : Nat} {e : TypeId} {n : Nat} {v : Value} {xs : List Value} (h : w.ownsRow base e 1 v n xs) (hn : n ≠ 0) : ∃ g cap, v = .slice (some ⟨g, 0, none⟩) n cap ∧ base ≤ g := by
  rcases h.2 with ⟨rfl, h0⟩ | ⟨g, cap, cur, rfl, hb, _⟩
  · exact absurd h0 hn
  · exact ⟨g, cap, rfl, hb⟩
theorem sz_pos (n : Nat) : sz n ≠ 0 := by have := size_pos n; unfold sz; omega
set_option maxRecDepth 100000 in
set_option maxHeartbeats 4000000 in
theorem closed_any (n : Nat) (hn : n ≤ 8) (a : Option Addr) (M : List Int) (len c : Nat) (hM : len = M.length) (hl : len = sz n) (w : World) (h : Sees .i64 w.heap.size w a M) :
    Calls Tryz.prog 132 #[.int .i64 n, .slice a len c] w (Made 3 .i64 w (closedL n M)) := by
  obtain ⟨W1, hW1⟩ : ∃ W1, W1 = (w.alloc (.cells #[.int .i64 n] 3)).alloc (.cells #[.slice a len c] 49) := ⟨_, rfl⟩
  have hB : Below w.heap.size w W1 := by rw [hW1]; exact ((Below.refl _ _).alloc (Nat.le_refl _) _).alloc (by simp) _
  have hsz : W1.heap.size = w.heap.size + 2 := by rw [hW1]; simp
  have kn : W1.cell? ⟨w.heap.size, 0, none⟩ = some (.int .i64 n) := by rw [hW1]; simp [go_sem]
  have km : W1.cell? ⟨w.heap.size + 1, 0, none⟩ = some (.slice a len c) := by rw [hW1]; simp [go_sem]
  have h1 := h.below hB
  have heach := Lib.hid (each_clip n hn (w.heap.size + 1) w.heap.size (clipF n M) W1 (fun i j hi hj W hW => by
    have hc := zclip_any (w.heap.size + 1) w.heap.size a M len c n hn hM hl i j hi hj w.heap.size W (h1.below (hW.mono (by omega))) ((hW.cell (p := ⟨w.heap.size + 1, 0, none⟩) (by show w.heap.size + 1 < W1.heap.size; omega)).trans km) ((hW.cell (p := ⟨w.heap.size, 0, none⟩) (by show w.heap.size < W1.heap.size; omega)).trans kn)
    exact hc))
  have kn' := Lib.hid kn
  have hB' := Lib.hid hB
  have hW1' := Lib.hid hW1
  have hsz' := Lib.hid hsz
  have hlen' : Hid ((matL n (clipF n M)).length = sz n) := Lib.hid (matL_len _ _)
  have hst : Hid (FwI n M 0 (matL n (clipF n M))) := Lib.hid (FwI.start n M)
  have hni : (n : Int) ≤ 8 := by omega
  have hpos := Lib.hid (sz_pos n)
  have hn' := Lib.hid hn
  clear hW1 hB hsz kn km h1 h hM hl
  generalize matL n (clipF n M) = D0 at *
  generalize hR : closedL n M = R
  have hR' := Lib.hid hR
  clear hR
  go_enter Tryz.func132, Tryz.ntmps132
  go_wp2_with fail
  rw [← hW1'.out]
  refine heach.out.mono ?_
  rintro e w3 ⟨v, rfl, hown, hb3⟩
  obtain ⟨g, cap, rfl, hg⟩ := own_some hown (by rw [hlen'.out]; exact hpos.out)
  have k3 : w3.cell? ⟨w.heap.size, 0, none⟩ = some (.int .i64 n) := (hb3.cell (p := ⟨w.heap.size, 0, none⟩) (by have := hsz'.out; show w.heap.size < W1.heap.size; omega)).trans kn'.out
  have hown2 : Hid (w3.ownsRow w.heap.size 3 1 (.slice (some ⟨g, 0, none⟩) (sz n) cap) (sz n) (nums .i64 D0)) := Lib.hid (by
    have := own_from (B := w.heap.size) hown (fun k hk => by have := hsz'.out; simp [Value.ownBlock] at hk; omega)
    rw [hlen'.out] at this
    exact this)
  have hbb : Hid (Below w.heap.size w w3) := Lib.hid (hB'.out.trans (hb3.mono (by have := hsz'.out; omega)))
  have hg' : Hid (w.heap.size + 2 ≤ g) := Lib.hid (by have := hsz'.out; omega)
  rw [hlen'.out]
  clear hown hb3 heach hlen' hg
  go_wp2
  go_loopw [12] (fun x wr => ∃ (k : Nat) (d : List Int), k ≤ n + 1 ∧ x = .int .i64 k ∧ Hid (FwI n M k d) ∧ Hid (wr.ownsRow w.heap.size 3 1 (.slice (some ⟨g, 0, none⟩) (sz n) cap) (sz n) (nums .i64 d)) ∧ Hid (Below w.heap.size w wr) ∧ Hid (wr.cell? ⟨w.heap.size, 0, none⟩ = some (.int .i64 n))) (fun x _ => n + 1 - (intOf x).toNat)
  case atStart => exact ⟨0, D0, by omega, rfl, hst, hown2, hbb, Lib.hid k3⟩
  case round =>
    clear hown2 hbb k3 hst
    obtain ⟨k, d, hkn, rfl, hI, hown, hb, kc⟩ := hrel
    by_cases hlt : k < n + 1
    · have hki : (k : Int) < (n : Int) + 1 := by omega
      have kc2 := kc.out
      have hthr := Lib.hid (through_any n k hn'.out (by omega) g cap w.heap.size d hI.out.len wr hown.out (hI.out.bounds hn'.out (by omega)))
      go_wp2_with fail
      refine hthr.out.mono ?_
      rintro e w5 ⟨rfl, hown5, hb5⟩
      have hk5 : w5.cell? ⟨w.heap.size, 0, none⟩ = some (.int .i64 n) := (hb5.cell (p := ⟨w.heap.size, 0, none⟩) (World.block_lt_of_cell? _ _ kc.out) (by have := hg'.out; simp; omega)).trans kc.out
      have hbn : Hid (Below w.heap.size w w5) := Lib.hid (hb.out.trans (BelowE.none ((hb5.mono (hb.out.size)).less (by intro x hx hlt; simp at hx; have := hg'.out; omega))))
      have hlen5 : (thrAll n k d).length = sz n := by unfold thrAll; rw [thr_len, hI.out.len]; rfl
      obtain ⟨a5, c5, hv5, -, s5⟩ := sees_own hown5
      have ha5 : a5 = some ⟨g, 0, none⟩ := by injection hv5 with e1 _ _; exact e1.symm
      subst ha5
      have hbel := Lib.hid (below_any n hn'.out (some ⟨g, 0, none⟩) (thrAll n k d) (sz n) cap hlen5.symm rfl w5.heap.size w5 s5)
      have hown5' := Lib.hid hown5
      have hout := Lib.hid (hI.out.out (k := k) (by omega))
      have hnext := Lib.hid (hI.out.next (k := k) (by omega))
      clear hthr hown hb hI kc hown5 hb5 hlen5 hv5 s5 kc2
      generalize thrAll n k d = d2 at *
      go_wp2_with fail
      refine hbel.out.mono ?_
      rintro e w6 ⟨rfl, rfl⟩
      clear hbel
      cases hbo : belowL n d2
      · have hI2 := Lib.hid (hnext.out hbo)
        clear hnext hout
        go_wp2
        go_roundw
        case rel => exact ⟨k + 1, d2, by omega, by go_num, hI2, hown5', hbn, Lib.hid hk5⟩
        case measure => simp [intOf]; omega
      · have he := Lib.hid (hout.out hbo)
        clear hnext hout
        go_wp2
        go_ret
        have : R = [] := by rw [← hR'.out, he.out]
        rw [this]
        exact ⟨_, rfl, ⟨rfl, .inl ⟨rfl, rfl⟩⟩, hbn.out⟩
    · have hke : k = n + 1 := by omega
      have hfin : Hid (d = R) := Lib.hid (by
        have := hI.out
        rw [hke] at this
        rw [this.end_, hR'.out])
      have hlen : Hid (d.length = sz n) := Lib.hid hI.out.len
      clear hI
      go_wp2
      go_ret
      rw [← hfin.out, ]
      refine ⟨_, rfl, ?_, hb.out⟩
      rw [hlen.out]
      exact hown.out
end Go.Proofs.YtimgocfkogebmaaGreatDoor
namespace Go.Proofs.YtimgocfkogebmaaGreatDoor
open Go.RowKit
set_option linter.unusedVariables false
set_option linter.unusedSimpArgs false
set_option maxRecDepth 100000 in
set_option maxHeartbeats 4000000 in
theorem rclip_any (n : Nat) (hn : n ≤ 8) (a : Option Addr) (M : List Int) (len c : Nat) (hM : len = M.length) (hl : len = sz n) (w : World) (h : Sees .i64 w.heap.size w a M) :
    Calls Tryz.prog 160 #[.int .i64 n, .slice a len c] w (Made 3 .i64 w (clipL n M)) := by
  obtain ⟨i0, hi, hz0, hz1, hz2⟩ := info_parts zinfoInt
  have h' := Lib.hid h
  have hM' := Lib.hid hM
  have hl' := Lib.hid hl
  have hn' := Lib.hid hn
  have hs81 := sz_le hn
  have hni : (n : Int) ≤ 8 := by omega
  have hlen' : Hid ((clipL n M).length = (n + 1) * (n + 1)) := Lib.hid (clip_len _ _)
  have hsn' : Hid (sz n = (n + 1) * (n + 1)) := Lib.hid rfl
  have hstep : Hid (∀ i j, i ≤ n → j ≤ n → (clipL n M).take (i * (n + 1) + j) ++ [clipF n M i j] = (clipL n M).take (i * (n + 1) + (j + 1))) := Lib.hid (fun i j h1 h2 => matL_step _ h1 h2)
  clear h hM hl hn
  generalize clipL n M = R at *
  go_enter Tryz.func160, Tryz.ntmps160
  go_wp2
  go_loopw [5, 6] (fun v x wr => ∃ (i : Nat) (pre : List Int), i ≤ n + 1 ∧ x = .int .i64 i ∧ Hid (pre = R.take (i * (n + 1))) ∧ Hid (wr.ownsRow w.heap.size 3 1 v pre.length (nums .i64 pre)) ∧ Hid (Below w.heap.size w wr)) (fun _ x _ => n + 1 - (intOf x).toNat)
  case atStart => exact ⟨0, [], by omega, rfl, Lib.hid (by simp), Lib.hid ⟨rfl, .inl ⟨rfl, rfl⟩⟩, Lib.hid (Below.refl _ _)⟩
  case round =>
    obtain ⟨i, pre, hin, rfl, hpre, hown, hb⟩ := hrel
    by_cases hlt : i < n + 1
    · have hii : (i : Int) ≤ (n : Int) := by omega
      go_wp2
      go_loopw [5, 7] (fun v x wr => ∃ (j : Nat) (pre : List Int), j ≤ n + 1 ∧ x = .int .i64 j ∧ Hid (pre = R.take (i * (n + 1) + j)) ∧ Hid (wr.ownsRow w.heap.size 3 1 v pre.length (nums .i64 pre)) ∧ Hid (Below w.heap.size w wr)) (fun _ x _ => n + 1 - (intOf x).toNat)
      case atStart => exact ⟨0, pre, by omega, rfl, hpre, hown, hb⟩
      case round =>
        clear hpre hown hb
        obtain ⟨j, pre, hjn, rfl, hpre, hown, hb⟩ := hrel
        by_cases hjt : j < n + 1
        · have hji : (j : Int) ≤ (n : Int) := by omega
          have hfar := Lib.hid (fun W => far_any i j (by omega) (by omega) W)
          have hpl : pre.length ≤ 81 := by
            rw [hpre.out, List.length_take, hlen'.out, ← hsn'.out]; omega
          have hnext : Hid (pre ++ [clipF n M i j] = R.take (i * (n + 1) + (j + 1))) := Lib.hid (by rw [hpre.out]; exact hstep.out i j (by omega) (by omega))
          obtain ⟨p, q, w1, w2, w3, hq, hqs, -, -, -⟩ := place_wraps hn'.out (show i ≤ n by omega) (show j ≤ n by omega)
          have hqn : q < len := by have := hl'.out; omega
          obtain ⟨b, off, rfl, -, hc0⟩ := sees_at' (h'.out.below hb.out) (i := q) (by have := hM'.out; omega)
          have hqi : (q : Int) < (len : Int) := by omega
          have hF : Hid (clipF n M i j = max (-2199023255553) (min (M.getD q 0) (widestF i j))) := Lib.hid (by unfold clipF mat; rw [hq])
          clear hpre hq hqs
          generalize clipF n M i j = z at *
          generalize M.getD q 0 = x at *
          generalize widestF i j = y at *
          by_cases hxy : y < x
          · by_cases hlow : y < -2199023255553
            · have hz : z = -2199023255553 := by have := hF.out; omega
              subst hz
              go_wp2_with fail
              refine (hfar.out _).mono ?_
              rintro e w6 ⟨rfl, rfl⟩
              go_wp2_with fail
              refine (hfar.out _).mono ?_
              rintro e w6 ⟨rfl, rfl⟩
              go_wp2_with (at_builtin; refine wpList_append1 _ rfl _ _ 49 rfl w 3 i0 (.int .i64 0) 8 Tryz.underlying49 hi hz0 hz1 hz2 rfl .i64 (-2199023255553) _ _ hown.out hb.out rfl rfl (by omega) (by omega) ?_; intro v' w' hown2 hb2; have hown2' := Lib.hid hown2; have hb2' := Lib.hid hb2; clear hown2 hb2)
              go_roundw
              case rel => exact ⟨j + 1, pre ++ [-2199023255553], by omega, by go_num, hnext, hown2', hb2'⟩
              case measure => simp [intOf]; omega
            · have hz : z = y := by have := hF.out; omega
              subst hz
              go_wp2_with fail
              refine (hfar.out _).mono ?_
              rintro e w6 ⟨rfl, rfl⟩
              go_wp2_with fail
              refine (hfar.out _).mono ?_
              rintro e w6 ⟨rfl, rfl⟩
              go_wp2_with (at_builtin; refine wpList_append1 _ rfl _ _ 49 rfl w 3 i0 (.int .i64 0) 8 Tryz.underlying49 hi hz0 hz1 hz2 rfl .i64 z _ _ hown.out hb.out rfl rfl (by omega) (by omega) ?_; intro v' w' hown2 hb2; have hown2' := Lib.hid hown2; have hb2' := Lib.hid hb2; clear hown2 hb2)
              go_roundw
              case rel => exact ⟨j + 1, pre ++ [z], by omega, by go_num, hnext, hown2', hb2'⟩
              case measure => simp [intOf]; omega
          · by_cases hlow : x < -2199023255553
            · have hz : z = -2199023255553 := by have := hF.out; omega
              subst hz
              go_wp2_with fail
              refine (hfar.out _).mono ?_
              rintro e w6 ⟨rfl, rfl⟩
              go_wp2_with (at_builtin; refine wpList_append1 _ rfl _ _ 49 rfl w 3 i0 (.int .i64 0) 8 Tryz.underlying49 hi hz0 hz1 hz2 rfl .i64 (-2199023255553) _ _ hown.out hb.out rfl rfl (by omega) (by omega) ?_; intro v' w' hown2 hb2; have hown2' := Lib.hid hown2; have hb2' := Lib.hid hb2; clear hown2 hb2)
              go_roundw
              case rel => exact ⟨j + 1, pre ++ [-2199023255553], by omega, by go_num, hnext, hown2', hb2'⟩
              case measure => simp [intOf]; omega
            · have hz : z = x := by have := hF.out; omega
              subst hz
              go_wp2_with fail
              refine (hfar.out _).mono ?_
              rintro e w6 ⟨rfl, rfl⟩
              go_wp2_with (at_builtin; refine wpList_append1 _ rfl _ _ 49 rfl w 3 i0 (.int .i64 0) 8 Tryz.underlying49 hi hz0 hz1 hz2 rfl .i64 z _ _ hown.out hb.out rfl rfl (by omega) (by omega) ?_; intro v' w' hown2 hb2; have hown2' := Lib.hid hown2; have hb2' := Lib.hid hb2; clear hown2 hb2)
              go_roundw
              case rel => exact ⟨j + 1, pre ++ [z], by omega, by go_num, hnext, hown2', hb2'⟩
              case measure => simp [intOf]; omega
        · have hje : j = n + 1 := by omega
          have hnext : Hid (pre = R.take ((i + 1) * (n + 1))) := Lib.hid (by rw [hpre.out, hje, Nat.add_mul, Nat.one_mul])
          clear hpre
          go_wp2
          go_roundw
          case rel => exact ⟨i + 1, pre, by omega, by go_num, hnext, hown, hb⟩
          case measure => simp [intOf]; omega
    · have hie : i = n + 1 := by omega
      have hfin : Hid (pre = R) := Lib.hid (by rw [hpre.out, hie, ← hlen'.out, List.take_length])
      clear hpre
      go_wp2
      go_ret
      rw [← hfin.out]
      exact ⟨_, rfl, hown.out, hb.out⟩
def sqP (n : Nat) (c : Nat → Nat → Int) (i j k : Nat) : Int := (List.range k).foldl (fun x k => if c i k + c k j < x then c i k + c k j else x) (c i j)
theorem sqP_next (n : Nat) (c : Nat → Nat → Int) (i j k : Nat) : sqP n c i j (k + 1) = if c i k + c k j < sqP n c i j k then c i k + c k j else sqP n c i j k := by
  unfold sqP
  rw [List.range_succ, List.foldl_append]
  rfl
set_option maxRecDepth 100000 in
set_option maxHeartbeats 4000000 in
theorem twice_any (n : Nat) (hn : n ≤ 8) (a : Option Addr) (M : List Int) (len c : Nat) (hM : len = M.length) (hl : len = sz n) (hbd : ∀ p, -100000000000000 ≤ M.getD p 0 ∧ M.getD p 0 ≤ 100000000000000) (w : World) (h : Sees .i64 w.heap.size w a M) :
    Calls Tryz.prog 161 #[.int .i64 n, .slice a len c] w (Made 3 .i64 w (twL n M)) := by
  obtain ⟨i0, hi, hz0, hz1, hz2⟩ := info_parts zinfoInt
  have h' := Lib.hid h
  have hM' := Lib.hid hM
  have hl' := Lib.hid hl
  have hn' := Lib.hid hn
  have hbd' := Lib.hid hbd
  have hs81 := sz_le hn
  have hni : (n : Int) ≤ 8 := by omega
  have hlen' : Hid ((twL n M).length = (n + 1) * (n + 1)) := Lib.hid (matL_len _ _)
  have hsn' : Hid (sz n = (n + 1) * (n + 1)) := Lib.hid rfl
  have hstep : Hid (∀ i j, i ≤ n → j ≤ n → (twL n M).take (i * (n + 1) + j) ++ [sqF n (mat n M) i j] = (twL n M).take (i * (n + 1) + (j + 1))) := Lib.hid (fun i j h1 h2 => matL_step _ h1 h2)
  have w0 : IntKind.i64.wrap ((n : Int) + 1) = (n : Int) + 1 := wrap_small (by omega) (by omega)
  clear h hM hl hn hbd
  generalize twL n M = R at *
  go_enter Tryz.func161, Tryz.ntmps161
  go_wp2
  go_loopw [5, 6] (fun v x wr => ∃ (i : Nat) (pre : List Int), i ≤ n + 1 ∧ x = .int .i64 i ∧ Hid (pre = R.take (i * (n + 1))) ∧ Hid (wr.ownsRow w.heap.size 3 1 v pre.length (nums .i64 pre)) ∧ Hid (Below w.heap.size w wr)) (fun _ x _ => n + 1 - (intOf x).toNat)
  case atStart => exact ⟨0, [], by omega, rfl, Lib.hid (by simp), Lib.hid ⟨rfl, .inl ⟨rfl, rfl⟩⟩, Lib.hid (Below.refl _ _)⟩
  case round =>
    obtain ⟨i, pre, hin, rfl, hpre, hown, hb⟩ := hrel
    by_cases hlt : i < n + 1
    · have hii : (i : Int) ≤ (n : Int) := by omega
      go_wp2
      go_loopw [5, 7] (fun v x wr => ∃ (j : Nat) (pre : List Int), j ≤ n + 1 ∧ x = .int .i64 j ∧ Hid (pre = R.take (i * (n + 1) + j)) ∧ Hid (wr.ownsRow w.heap.size 3 1 v pre.length (nums .i64 pre)) ∧ Hid (Below w.heap.size w wr)) (fun _ x _ => n + 1 - (intOf x).toNat)
      case atStart => exact ⟨0, pre, by omega, rfl, hpre, hown, hb⟩
      case round =>
        clear hpre hown hb
        obtain ⟨j, pre, hjn, rfl, hpre, hown, hb⟩ := hrel
        by_cases hjt : j < n + 1
        · have hji : (j : Int) ≤ (n : Int) := by omega
          have hpl : pre.length ≤ 81 := by
            rw [hpre.out, List.length_take, hlen'.out, ← hsn'.out]; omega
          have hnext : Hid (pre ++ [sqF n (mat n M) i j] = R.take (i * (n + 1) + (j + 1))) := Lib.hid (by rw [hpre.out]; exact hstep.out i j (by omega) (by omega))
          obtain ⟨p, q, w1, w2, w3, hq, hqs, -, hp, -⟩ := place_wraps hn'.out (show i ≤ n by omega) (show j ≤ n by omega)
          have hp2 : p = i * (n + 1) := by
            have : ((i * (n + 1) : Nat) : Int) = (p : Int) := by rw [← hp, Int.natCast_mul]; rfl
            omega
          have hpre' := Lib.hid hp2
          have hqn : q < len := by have := hl'.out; omega
          obtain ⟨b, off, rfl, -, hc0⟩ := sees_at' (h'.out.below hb.out) (i := q) (by have := hM'.out; omega)
          have hqi : (q : Int) < (len : Int) := by omega
          have hP0 : Hid (M.getD q 0 = sqP n (mat n M) i j 0) := Lib.hid (by unfold sqP mat; rw [hq]; rfl)
          have hPn : Hid (sqP n (mat n M) i j (n + 1) = sqF n (mat n M) i j) := Lib.hid rfl
          clear hpre hq hqs hp hp2
          generalize sqF n (mat n M) i j = z at *
          generalize M.getD q 0 = x at *
          go_wp2
          go_loopw [8, 9] (fun y u W => ∃ k m : Nat, k ≤ n + 1 ∧ u = .int .i64 k ∧ y = .int .i64 (sqP n (mat n M) i j k) ∧ W = wr.drewN m) (fun _ u _ => n + 1 - (intOf u).toNat)
          case atStart => exact ⟨0, 0, by omega, rfl, by rw [← hP0.out], rfl⟩
          case round =>
            obtain ⟨k, m, hkn, rfl, rfl, rfl⟩ := hrel
            by_cases hkt : k < n + 1
            · have hki : (k : Int) ≤ (n : Int) := by omega
              obtain ⟨p2, q2, -, v2, v3, hq2, hqs2, -, hp2, -⟩ := place_wraps hn'.out (show i ≤ n by omega) (show k ≤ n by omega)
              obtain ⟨p3, q3, -, u2, u3, hq3, hqs3, -, hp3, -⟩ := place_wraps hn'.out (show k ≤ n by omega) (show j ≤ n by omega)
              have hpp : p2 = p := by
                have : ((i * (n + 1) : Nat) : Int) = (p2 : Int) := by rw [← hp2, Int.natCast_mul]; rfl
                have := hpre'.out
                omega
              subst hpp
              have l1 : q2 < len := by have := hl'.out; omega
              have l2 : q3 < len := by have := hl'.out; omega
              obtain ⟨b2, off2, he2, -, hc2⟩ := sees_at' (h'.out.below hb.out) (i := q2) (by have := hM'.out; omega)
              obtain ⟨b3, off3, he3, -, hc3⟩ := sees_at' (h'.out.below hb.out) (i := q3) (by have := hM'.out; omega)
              injection he2 with he2
              injection he2 with e1 e2 _
              injection he3 with he3
              injection he3 with e3 e4 _
              subst e1 e2 e3 e4
              have hqi2 : (q2 : Int) < (len : Int) := by omega
              have hqi3 : (q3 : Int) < (len : Int) := by omega
              have hnx : Hid (sqP n (mat n M) i j (k + 1) = if M.getD q2 0 + M.getD q3 0 < sqP n (mat n M) i j k then M.getD q2 0 + M.getD q3 0 else sqP n (mat n M) i j k) := Lib.hid (by rw [sqP_next]; unfold mat; rw [hq2, hq3])
              have b1 := hbd'.out q2
              have b2 := hbd'.out q3
              clear hq2 hq3 hqs2 hqs3 hp2 hp3
              generalize M.getD q2 0 = x1 at *
              generalize M.getD q3 0 = x2 at *
              have ws : IntKind.i64.wrap (x1 + x2) = x1 + x2 := wrap_small (by omega) (by omega)
              generalize hS : sqP n (mat n M) i j k = s at *
              have hS' := Lib.hid hS
              clear hS
              by_cases hlt2 : x1 + x2 < s
              · have hnx2 : Hid (sqP n (mat n M) i j (k + 1) = x1 + x2) := Lib.hid (by rw [hnx.out, if_pos hlt2])
                clear hnx
                go_wp2
                go_quiet (fail)
                go_wp2
                go_roundw
                case rel => exact ⟨k + 1, m + nq, by omega, by go_num, by rw [hnx2.out], by simp [World.drewN, Nat.add_assoc]⟩
                case measure => simp [intOf]; omega
              · have hnx2 : Hid (sqP n (mat n M) i j (k + 1) = s) := Lib.hid (by rw [hnx.out, if_neg hlt2])
                clear hnx
                go_wp2
                go_quiet (fail)
                go_wp2
                go_roundw
                case rel => exact ⟨k + 1, m + nq, by omega, by go_num, by rw [hnx2.out], by simp [World.drewN, Nat.add_assoc]⟩
                case measure => simp [intOf]; omega
            · have hke : k = n + 1 := by omega
              have hz : sqP n (mat n M) i j k = z := by rw [hke, hPn.out]
              generalize sqP n (mat n M) i j k = s at *
              subst hz
              go_wp2_with (at_builtin; refine wpList_append1 _ rfl _ _ 49 rfl w 3 i0 (.int .i64 0) 8 Tryz.underlying49 hi hz0 hz1 hz2 rfl .i64 s _ _ (own_drewN hown.out m) (Below.drewN hb.out m) rfl rfl (by omega) (by omega) ?_; intro v' w' hown2 hb2; have hown2' := Lib.hid hown2; have hb2' := Lib.hid hb2; clear hown2 hb2)
              go_roundw
              case rel => exact ⟨j + 1, pre ++ [s], by omega, by go_num, hnext, hown2', hb2'⟩
              case measure => simp [intOf]; omega
        · have hje : j = n + 1 := by omega
          have hnext : Hid (pre = R.take ((i + 1) * (n + 1))) := Lib.hid (by rw [hpre.out, hje, Nat.add_mul, Nat.one_mul])
          clear hpre
          go_wp2
          go_roundw
          case rel => exact ⟨i + 1, pre, by omega, by go_num, hnext, hown, hb⟩
          case measure => simp [intOf]; omega
    · have hie : i = n + 1 := by omega
      have hfin : Hid (pre = R) := Lib.hid (by rw [hpre.out, hie, ← hlen'.out, List.take_length])
      clear hpre
      go_wp2
      go_ret
      rw [← hfin.out]
      exact ⟨_, rfl, hown.out, hb.out⟩
end Go.Proofs.YtimgocfkogebmaaGreatDoor
namespace Go.Proofs.YtimgocfkogebmaaGreatDoor
open Go.RowKit
set_option linter.unusedVariables false
set_option linter.unusedSimpArgs false
theorem info_zone : (Tryz.prog.info? 51).map (·.size) = some 2 := by kernel_rfl
abbrev ZH (w : World) (g : Nat) (x y : Value) : Prop := Holds w g 51 #[x, y]
theorem zh_set {w : World} {g : Nat} {a b : Value} (h : ZH w g a b) (x y : Value) : ZH ((w.setCell ⟨g, 0, none⟩ x).setCell ⟨g, 1, none⟩ y) g x y := by
  have h1 := (h.set 0 x).set 1 y
  simpa using h1
theorem zone_ret {Q : Ending → World → Prop} {w : World} {g : Nat} {x y : Value} (hg : ZH w g x y) (hQ : Q (.returned (.agg #[x, y])) w) (act : Act) (f : Func) (n : Nat) (hf : f.results = #[.cell n 51]) (ha : act.tmps.getD n undef = .pointer (some ⟨g, 0, none⟩)) (hd : act.defers = []) :
    bodyPost Tryz.prog f Q Exit.ret act w :=
  bodyPost_ret (results_cell_row hf _ _ g 51 #[x, y] (0, 0) _ ha hg Tryz.underlying51 rfl (by rw [info_zone]; rfl)) hd hQ
theorem zone_res2 {fn : Func} {p q : Tmp} (h : fn.results = #[.cell p 51, .tmp q]) (tmps : Array Value) (w : World) (g : Nat) (x y u : Value)
    (hp : tmps.getD p undef = .pointer (some ⟨g, 0, none⟩)) (hq : tmps.getD q undef = u) (hg : ZH w g x y) : (results fn tmps).run Tryz.prog w = .ok (.tuple #[.agg #[x, y], u]) w := by
  rw [results_cell_tmp h, hp, hq]
  simp [asAddr, run_loadVar_row w g 51 51 #[x, y] (0, 0) _ hg Tryz.underlying51 rfl (by rw [info_zone]; rfl), Result.andThen]
theorem zone_ret2 {Q : Ending → World → Prop} {w : World} {g : Nat} {x y u : Value} (hg : ZH w g x y) (hQ : Q (.returned (.tuple #[.agg #[x, y], u])) w) (act : Act) (f : Func) (n m : Nat) (hf : f.results = #[.cell n 51, .tmp m]) (ha : act.tmps.getD n undef = .pointer (some ⟨g, 0, none⟩)) (hm : act.tmps.getD m undef = u) (hd : act.defers = []) :
    bodyPost Tryz.prog f Q Exit.ret act w :=
  bodyPost_ret (zone_res2 hf _ _ g x y u ha hm hg) hd hQ
def New (w : World) (a : Option Addr) : Prop := ∀ p, a = some p → w.heap.size ≤ p.block
theorem New.none (w : World) : New w none := by intro p hp; cases hp
theorem New.own {w w' : World} {base : Nat} {e : TypeId} {a : Option Addr} {m c n : Nat} {xs : List Value} (h : w'.ownsRow base e 1 (.slice a m c) n xs) (hb : w.heap.size ≤ base) : New w a := by
  rintro p rfl
  have := (h.lt p.block (by simp [Value.ownBlock])).1
  omega
def ZoneS (n : Int) (l : List Int) (w : World) (e : Ending) (w' : World) : Prop :=
  ∃ a c, e = .returned (.agg #[.int .i64 n, .slice a l.length c]) ∧ l.length ≤ c ∧ Sees .i64 w'.heap.size w' a l ∧ Below w.heap.size w w' ∧ New w a
def ZoneE (n : Int) (l : List Int) (err : Int) (w : World) (e : Ending) (w' : World) : Prop :=
  ∃ a c, e = .returned (.tuple #[.agg #[.int .i64 n, .slice a l.length c], .int .i64 err]) ∧ l.length ≤ c ∧ Sees .i64 w'.heap.size w' a l ∧ Below w.heap.size w w' ∧ New w a
theorem made_parts {e0 : TypeId} {w w' : World} {l : List Int} {e : Ending} (h : Made e0 .i64 w l e w') : ∃ a cap, e = .returned (.slice a l.length cap) ∧ Sees .i64 w'.heap.size w' a l ∧ Below w.heap.size w w' ∧ l.length ≤ cap := h.openc _ rfl
theorem mayB_nat {n : Nat} (hn : n ≤ 8) : mayB (n : Int) = true := by unfold mayB; simp; omega
theorem mayB_of {n : Int} (h : mayB n = true) : ∃ k : Nat, n = k ∧ k ≤ 8 := by
  unfold mayB at h
  rw [Bool.and_eq_true, decide_eq_true_eq, decide_eq_true_eq] at h
  exact ⟨n.toNat, by omega, by omega⟩
theorem zone_end {w W1 w3 : World} {g : Nat} {z0 z1 : Value} {R : List Int} {e : Ending} (hB : Below w.heap.size w W1) (hg : w.heap.size ≤ g) (hz : ZH W1 g z0 z1) (hm : Made 3 .i64 W1 R e w3) :
    ∃ a c, e = .returned (.slice a R.length c) ∧ ZH w3 g z0 z1 ∧ ∀ n err : Int, ZH ((w3.setCell ⟨g, 0, none⟩ (.int .i64 n)).setCell ⟨g, 1, none⟩ (.slice a R.length c)) g (.int .i64 n) (.slice a R.length c) ∧
      ZoneE n R err w (.returned (.tuple #[.agg #[.int .i64 n, .slice a R.length c], .int .i64 err])) ((w3.setCell ⟨g, 0, none⟩ (.int .i64 n)).setCell ⟨g, 1, none⟩ (.slice a R.length c)) ∧
      ZoneS n R w (.returned (.agg #[.int .i64 n, .slice a R.length c])) ((w3.setCell ⟨g, 0, none⟩ (.int .i64 n)).setCell ⟨g, 1, none⟩ (.slice a R.length c)) := by
  obtain ⟨v, rfl, hown, hb⟩ := hm
  have hlt := hz.lt
  obtain ⟨a, c, rfl, -, -⟩ := sees_own hown
  have hz3 := hz.below hb hlt
  refine ⟨a, c, rfl, hz3, fun n err => ?_⟩
  have hE : BelowE [g] w3.heap.size w3 ((w3.setCell ⟨g, 0, none⟩ (.int .i64 n)).setCell ⟨g, 1, none⟩ (.slice a R.length c)) := ((BelowE.refl _ _ _).setIn (p := ⟨g, 0, none⟩) (by simp) _).setIn (p := ⟨g, 1, none⟩) (by simp) _
  have hown2 := own_belowE hown hE (fun k hk => by
    have := (hown.lt k hk).1
    simp only [List.mem_singleton]
    omega)
  obtain ⟨a', c', hv, -, hs⟩ := sees_own hown2
  injection hv with e1 _ e3
  subst e1 e3
  have hbb : Below w.heap.size w ((w3.setCell ⟨g, 0, none⟩ (.int .i64 n)).setCell ⟨g, 1, none⟩ (.slice a R.length c)) := ((hB.trans (hb.mono hB.size)).setCell (p := ⟨g, 0, none⟩) hg _).setCell (p := ⟨g, 1, none⟩) hg _
  have hnew : New w a := New.own hown hB.size
  exact ⟨zh_set hz3 _ _, ⟨a, c, rfl, own_cap hown, hs, hbb, hnew⟩, ⟨a, c, rfl, own_cap hown, hs, hbb, hnew⟩⟩
theorem zone_none {w W1 : World} {g : Nat} {z0 z1 : Value} (hB : Below w.heap.size w W1) (hg : w.heap.size ≤ g) (hz : ZH W1 g z0 z1) (n err : Int) :
    ZH ((W1.setCell ⟨g, 0, none⟩ (.int .i64 n)).setCell ⟨g, 1, none⟩ (.slice none 0 0)) g (.int .i64 n) (.slice none 0 0) ∧
      ZoneE n [] err w (.returned (.tuple #[.agg #[.int .i64 n, .slice none 0 0], .int .i64 err])) ((W1.setCell ⟨g, 0, none⟩ (.int .i64 n)).setCell ⟨g, 1, none⟩ (.slice none 0 0)) ∧
      ZoneS n [] w (.returned (.agg #[.int .i64 n, .slice none 0 0])) ((W1.setCell ⟨g, 0, none⟩ (.int .i64 n)).setCell ⟨g, 1, none⟩ (.slice none 0 0)) := by
  have hbb : Below w.heap.size w ((W1.setCell ⟨g, 0, none⟩ (.int .i64 n)).setCell ⟨g, 1, none⟩ (.slice none 0 0)) := (hB.setCell (p := ⟨g, 0, none⟩) hg _).setCell (p := ⟨g, 1, none⟩) hg _
  exact ⟨zh_set hz _ _, ⟨none, 0, rfl, Nat.le_refl _, .inl rfl, hbb, New.none _⟩, ⟨none, 0, rfl, Nat.le_refl _, .inl rfl, hbb, New.none _⟩⟩
theorem zone_new {w : World} : Below w.heap.size w (w.alloc (.cells #[.int .i64 0, .slice none 0 0] 51)) ∧ ZH (w.alloc (.cells #[.int .i64 0, .slice none 0 0] 51)) w.heap.size (.int .i64 0) (.slice none 0 0) :=
  ⟨(Below.refl _ _).alloc (Nat.le_refl _) _, Holds.new w _ _⟩
def allL (n : Nat) : List Int := matL n widestF
set_option maxRecDepth 100000 in
set_option maxHeartbeats 4000000 in
theorem rclose_any (n : Nat) (hn : n ≤ 8) (a : Option Addr) (M : List Int) (len c : Nat) (hM : len = M.length) (hl : len = sz n) (w : World) (h : Sees .i64 w.heap.size w a M) :
    Calls Tryz.prog 116 #[.int .i64 n, .slice a len c] w (ZoneS n (closedL n M) w) := by
  rw [close_both hn]
  obtain ⟨W1, hW1⟩ : ∃ W1, W1 = w.alloc (.cells #[.int .i64 0, .slice none 0 0] 51) := ⟨_, rfl⟩
  obtain ⟨hB, hz⟩ : Below w.heap.size w W1 ∧ ZH W1 w.heap.size (.int .i64 0) (.slice none 0 0) := by rw [hW1]; exact zone_new
  have hclip := Lib.hid (rclip_any n hn a M len c hM hl W1 ((h.below hB).mono hB.size))
  have hB' := Lib.hid hB
  have hz' := Lib.hid hz
  have hW1' := Lib.hid hW1
  have hn' := Lib.hid hn
  have hni : (n : Int) ≤ 8 := by omega
  have hs81 := sz_le hn
  have hres : Hid (refCloseL n M = if belowL n (sq n (clipL n M) 4) = true then [] else sq n (clipL n M) 4) := Lib.hid rfl
  have hnx : Hid (∀ t, sq n (clipL n M) (t + 1) = twL n (sq n (clipL n M) t)) := Lib.hid (fun _ => rfl)
  have hbd : Hid (∀ t, t ≤ 4 → ∀ p, -100000000000000 ≤ (sq n (clipL n M) t).getD p 0 ∧ (sq n (clipL n M) t).getD p 0 ≤ 100000000000000) := Lib.hid (fun t ht p => sq_bound ht p)
  have hln : Hid (∀ t, (sq n (clipL n M) t).length = sz n) := Lib.hid (fun t => sq_len (clip_len _ _) t)
  have hs0 : Hid (clipL n M = sq n (clipL n M) 0) := Lib.hid rfl
  clear hW1 hB hz h hM hl
  generalize refCloseL n M = R at *
  generalize hC : sq n (clipL n M) = Q at *
  generalize clipL n M = C0 at *
  clear hC
  go_enter Tryz.func116, Tryz.ntmps116
  go_wp2_with fail
  rw [← hW1'.out]
  refine hclip.out.mono ?_
  rintro e w3 ⟨v, rfl, hown, hb3⟩
  have hst : Hid (Made 3 .i64 W1 (Q 0) (.returned v) w3) := Lib.hid (by rw [← hs0.out]; exact ⟨v, rfl, hown, hb3⟩)
  clear hown hb3 hclip
  go_wp2
  go_loopw [5, 6] (fun v x wr => ∃ t : Nat, t ≤ 4 ∧ x = .int .i64 t ∧ Hid (Made 3 .i64 W1 (Q t) (.returned v) wr)) (fun _ x _ => 4 - (intOf x).toNat)
  case atStart => exact ⟨0, by omega, rfl, hst⟩
  case round =>
    clear hst
    obtain ⟨t, ht, rfl, hm⟩ := hrel
    by_cases hlt : t < 4
    · have hti : (t : Int) < 4 := by omega
      obtain ⟨a4, c4, he, s4, b4, -⟩ := made_parts hm.out
      injection he with he
      subst he
      have hle := hln.out t
      rw [hle]
      have htw := Lib.hid (twice_any n hn'.out a4 (Q t) (sz n) c4 hle.symm rfl (hbd.out t ht) wr s4)
      have b4' := Lib.hid b4
      clear hm s4 b4 hle
      go_wp2_with fail
      refine htw.out.mono ?_
      rintro e w5 ⟨v5, rfl, hown5, hb5⟩
      have hm5 : Hid (Made 3 .i64 W1 (Q (t + 1)) (.returned v5) w5) := Lib.hid (by
        rw [hnx.out]
        exact ⟨v5, rfl, own_from hown5 (fun k hk => by have := (hown5.lt k hk).1; have := b4'.out.size; omega), b4'.out.trans (hb5.mono b4'.out.size)⟩)
      clear hown5 hb5 htw
      go_wp2
      go_roundw
      case rel => exact ⟨t + 1, by omega, by go_num, hm5⟩
      case measure => simp [intOf]; omega
    · have hte : t = 4 := by omega
      subst hte
      have hm4 := hm.out
      obtain ⟨a4, c4, he, s4, b4, -⟩ := made_parts hm4
      injection he with he
      subst he
      have hle := hln.out 4
      have hz3 := hz'.out.below b4 hz'.out.lt
      obtain ⟨a5, c5, he5, -, hall⟩ := zone_end hB'.out (Nat.le_refl _) hz'.out hm4
      injection he5 with he5
      injection he5 with e1 _ e3
      subst e1 e3
      have hend := Lib.hid (hall n 0)
      have hnone := Lib.hid (zone_none (hB'.out.trans (b4.mono hB'.out.size)) (Nat.le_refl _) hz3 n 0)
      have k0 := hz3.cell 0
      have k1 := hz3.cell 1
      have f0 := hz3.free 0
      have f1 := hz3.free 1
      have s4' := Lib.hid s4
      have hle' := Lib.hid hle
      rw [hle] at hend ⊢
      clear hm hm4 s4 b4 hz3 hall hle
      generalize Q 4 = D at *
      go_wp2
      go_loop [7] (fun x => ∃ i : Nat, i ≤ n + 1 ∧ x = .int .i64 i ∧ Hid (∀ j, j < i → ¬ mat n D j j < 0)) (fun x => n + 1 - (intOf x).toNat)
      case atStart => exact ⟨0, by omega, rfl, Lib.hid (by intro j hj; omega)⟩
      case round =>
        obtain ⟨i, hin, rfl, hno⟩ := hrel
        by_cases hlt : i < n + 1
        · have hii : (i : Int) ≤ (n : Int) := by omega
          obtain ⟨p, q, w1, w2, w3, hq, hqs, -, -, -⟩ := place_wraps hn'.out (show i ≤ n by omega) (show i ≤ n by omega)
          obtain ⟨b, off, hae, -, hc⟩ := sees_at' s4'.out (i := q) (by have := hle'.out; omega)
          subst hae
          have hqi : (q : Int) < ((sz n : Nat) : Int) := by omega
          have hyes : Hid (D.getD q 0 < 0 → belowL n D = true) := Lib.hid (fun hlt0 => (belowL_iff n D).2 ⟨i, by omega, by unfold mat; rw [← hq]; exact hlt0⟩)
          have hnext : Hid (¬ D.getD q 0 < 0 → ∀ j, j < i + 1 → ¬ mat n D j j < 0) := Lib.hid (fun hlt0 j hj => by
            by_cases e : j = i
            · subst e; unfold mat; rw [← hq]; exact hlt0
            · exact hno.out j (by omega))
          clear hno hq hqs
          generalize D.getD q 0 = x at *
          by_cases hx : x < 0
          · have hr : Hid (R = []) := Lib.hid (by rw [hres.out, if_pos (hyes.out hx)])
            clear hyes hnext hend
            go_wp2
            rw [hr.out]
            exact zone_ret hnone.out.1 hnone.out.2.2 _ _ 4 rfl rfl rfl
          · have hn2 := Lib.hid (hnext.out hx)
            clear hyes hnext
            go_wp2
            go_round
            case rel => exact ⟨i + 1, by omega, by go_num, hn2⟩
            case measure => simp [intOf]; omega
        · have hie : i = n + 1 := by omega
          have hr : Hid (R = D) := Lib.hid (by
            rw [hres.out, if_neg]
            intro hb
            obtain ⟨i', hi', hl'⟩ := (belowL_iff n D).1 hb
            exact hno.out i' (by omega) hl')
          clear hno
          go_wp2
          rw [hr.out]
          exact zone_ret hend.out.1 hend.out.2.2 _ _ 4 rfl rfl rfl
end Go.Proofs.YtimgocfkogebmaaGreatDoor
namespace Go.Proofs.YtimgocfkogebmaaGreatDoor
open Go.RowKit
set_option linter.unusedVariables false
set_option linter.unusedSimpArgs false
set_option maxRecDepth 100000 in
set_option maxHeartbeats 1000000 in
theorem zrsame_any (n1 n2 : Int) (a1 a2 : Option Addr) (l1 l2 : List Int) (m1 m2 c1 c2 : Nat) (w : World) (h1 : SL w a1 m1 c1 l1) (h2 : SL w a2 m2 c2 l2) :
    Calls Tryz.prog 49 #[.agg #[.int .i64 n1, .slice a1 m1 c1], .agg #[.int .i64 n2, .slice a2 m2 c2]] w (Gives (.bool (decide (n1 = n2) && decide (l1 = l2))) w) := by
  obtain ⟨W1, hW1⟩ : ∃ W1, W1 = (w.alloc (.cells #[.int .i64 n1, .slice a1 m1 c1] 51)).alloc (.cells #[.int .i64 n2, .slice a2 m2 c2] 51) := ⟨_, rfl⟩
  have hB : Below w.heap.size w W1 := by rw [hW1]; exact box2_below _ _ _ _ _
  have g1 := h1.below hB
  have g2 := h2.below hB
  have z1 : ZH W1 w.heap.size (.int .i64 n1) (.slice a1 m1 c1) := by rw [hW1]; exact (Holds.new w _ _).alloc _
  have z2 : ZH W1 (w.heap.size + 1) (.int .i64 n2) (.slice a2 m2 c2) := by
    rw [hW1]
    have := Holds.new (w.alloc (.cells #[.int .i64 n1, .slice a1 m1 c1] 51)) 51 #[.int .i64 n2, .slice a2 m2 c2]
    simpa using this
  have k1 := z1.cell 1
  have k2 := z2.cell 1
  have hW1' := Lib.hid hW1
  have hB' := Lib.hid hB
  by_cases hn : n1 = n2
  · have e : decide (n1 = n2) = true := decide_eq_true hn
    rw [e, Bool.true_and]
    subst hn
    clear e
    by_cases hm : m1 = m2
    · subst hm
      have hmi : (m1 : Int) ≤ 9223372036854775807 := by have := h1.max; omega
      have h1' := Lib.hid g1
      have h2' := Lib.hid g2
      clear h1 h2 g1 g2 z1 z2 hB
      go_enter Tryz.func49, Tryz.ntmps49
      go_wp2
      rw [← hW1]
      clear hW1
      go_loopw [5] (fun x wr => ∃ k m : Nat, k ≤ m1 ∧ x = .int .i64 k ∧ Hid (∀ j, j < k → l1.getD j 0 = l2.getD j 0) ∧ wr = W1.drewN m) (fun x _ => m1 - (intOf x).toNat)
      case atStart => exact ⟨0, 0, Nat.zero_le _, rfl, Lib.hid (by intro j hj; omega), rfl⟩
      case round =>
        obtain ⟨k, m, hk, rfl, he, rfl⟩ := hrel
        by_cases hlt : k < m1
        · obtain ⟨b1, o1, rfl, -, e1⟩ := sees_at' h1'.out.sees (i := k) (by have := h1'.out.len; omega)
          obtain ⟨b2, o2, rfl, -, e2⟩ := sees_at' h2'.out.sees (i := k) (by have := h2'.out.len; omega)
          have hki : (k : Int) < (m1 : Int) := by omega
          have hyes : Hid (l1.getD k 0 = l2.getD k 0 → ∀ j, j < k + 1 → l1.getD j 0 = l2.getD j 0) := Lib.hid (fun hx j hj => by
            by_cases e : j = k
            · subst e; exact hx
            · exact he.out j (by omega))
          have hno : Hid (l1.getD k 0 ≠ l2.getD k 0 → decide (l1 = l2) = false) := Lib.hid (fun hx => decide_eq_false (fun e => hx (by rw [e])))
          clear he
          generalize l1.getD k 0 = x at *
          generalize l2.getD k 0 = y at *
          by_cases hxy : x = y
          · subst hxy
            have hy2 := Lib.hid (hyes.out rfl)
            clear hyes hno
            go_wp2
            go_quiet (fail)
            go_wp2
            go_roundw
            case rel => exact ⟨k + 1, m + nq, by omega, by go_num, hy2, by simp [World.drewN, Nat.add_assoc]⟩
            case measure => simp [intOf]; omega
          · have hr := Lib.hid (hno.out hxy)
            have hxy2 : (x == y) = false := by simpa using hxy
            have hxy3 : (x != y) = true := by simpa using hxy
            clear hyes hno
            go_wp2
            go_quiet (fail)
            go_wp2
            go_ret
            exact ⟨by rw [hr.out]; rfl, Below.drewN (Below.drewN hB'.out m) nq⟩
        · have hr : Hid (decide (l1 = l2) = true) := Lib.hid (decide_eq_true (by
            have q1 := h1'.out.len
            have q2 := h2'.out.len
            apply List.ext_getElem (by omega)
            intro j g1 g2
            have := he.out j (by omega)
            simpa [List.getD, g1, g2] using this))
          clear he
          go_wp2
          go_ret
          exact ⟨by rw [hr.out]; rfl, Below.drewN hB'.out m⟩
    · have hr : decide (l1 = l2) = false := decide_eq_false (fun e => hm (by rw [h1.len, h2.len, e]))
      rw [hr]
      have hi1 : (m1 : Int) ≠ (m2 : Int) := by omega
      have hi2 : ((m1 : Int) != (m2 : Int)) = true := by simpa using hi1
      clear h1 h2 hr hm g1 g2 z1 z2 hB hW1 k1 k2
      go_enter Tryz.func49, Tryz.ntmps49
      go_wp2
      go_ret
      rw [← hW1'.out]
      exact ⟨rfl, hB'.out⟩
  · have e : decide (n1 = n2) = false := decide_eq_false hn
    rw [e, Bool.false_and]
    have e2 : (n1 != n2) = true := by simpa using hn
    clear e h1 h2 g1 g2 z1 z2 hB hW1 k1 k2
    go_enter Tryz.func49, Tryz.ntmps49
    go_wp2
    go_ret
    rw [← hW1'.out]
    exact ⟨rfl, hB'.out⟩
/- What is closed stays so. -/
theorem clipL_fix {n : Nat} {D : List Int} (hl : D.length = (n + 1) * (n + 1)) (hc : Closed n (mat n D)) (hw : ∀ i j, i ≤ n → j ≤ n → mat n D i j ≤ widestF i j) : clipL n D = D := by
  refine mat_ext (clip_len _ _) hl (fun i j hi hj => ?_)
  unfold clipL
  rw [mat_matL _ hi hj]
  unfold clipF
  have h1 := hw i j hi hj
  have h2 := hw j i hj hi
  have h3 := hc.tri i i j hi hi hj
  rw [hc.zero i hi] at h3
  have h4 := widestF_le j i
  omega
theorem closedL_fix {n : Nat} {D : List Int} (hl : D.length = (n + 1) * (n + 1)) (hc : Closed n (mat n D)) (hw : ∀ i j, i ≤ n → j ≤ n → mat n D i j ≤ widestF i j) : closedL n D = D := by
  have hf := clipL_fix hl hc hw
  obtain ⟨h1, h2⟩ := closedL_max (M := D) hc (by rw [hf]; exact fun i j _ _ => Int.le_refl _)
  obtain ⟨h3, h4, h5⟩ := closedL_is (closedL_ne h1)
  rw [hf] at h5
  exact mat_ext h3 hl (fun i j hi hj => Int.le_antisymm (h5 i j hi hj) (h2 i j hi hj))
theorem closedL_widest {n : Nat} {M : List Int} (h : closedL n M ≠ []) {i j : Nat} (hi : i ≤ n) (hj : j ≤ n) : mat n (closedL n M) i j ≤ widestF i j := by
  obtain ⟨h3, h4, h5⟩ := closedL_is h
  have := h5 i j hi hj
  unfold clipL at this
  rw [mat_matL _ hi hj] at this
  have := widestF_le i j
  unfold clipF at *
  omega
theorem closedL_again {n : Nat} {M : List Int} (h : closedL n M ≠ []) : closedL n (closedL n M) = closedL n M := by
  obtain ⟨h3, h4, h5⟩ := closedL_is h
  exact closedL_fix h3 h4 (fun i j hi hj => closedL_widest h hi hj)
theorem widest_closed (n : Nat) : Closed n (mat n (allL n)) := by
  constructor
  · intro i hi
    unfold allL
    rw [mat_matL _ hi hi]
    unfold widestF
    rw [if_pos rfl]
  · intro i j k hi hj hk
    unfold allL
    rw [mat_matL _ hi hj, mat_matL _ hi hk, mat_matL _ hk hj]
    unfold widestF
    split <;> split <;> split <;> (try split) <;> (try split) <;> (try split) <;> omega
theorem all_closed (n : Nat) : closedL n (allL n) = allL n := closedL_fix (matL_len _ _) (widest_closed n) (fun i j hi hj => by unfold allL; rw [mat_matL _ hi hj]; exact Int.le_refl _)
theorem all_of (n : Nat) : closedL n (List.replicate (sz n) 4398046511104) = allL n := by
  have h1 : clipL n (List.replicate (sz n) 4398046511104) = clipL n (allL n) := by
    refine mat_ext (clip_len _ _) (clip_len _ _) (fun i j hi hj => ?_)
    unfold clipL
    rw [mat_matL _ hi hj, mat_matL _ hi hj]
    unfold clipF
    have h2 : mat n (List.replicate (sz n) 4398046511104) i j = 4398046511104 := by
      have := place_lt hi hj
      unfold mat sz
      simp [List.getD, this]
    have h3 : mat n (allL n) i j = widestF i j := mat_matL _ hi hj
    have h4 := widestF_le i j
    rw [h2, h3]
    omega
  unfold closedL
  rw [h1]
  exact all_closed n
theorem sees_other {k : IntKind} {B : Nat} {w : World} {a : Option Addr} {l : List Int} (h : Sees k B w a l) (g : Nat) (hg : ∀ p, a = some p → g ≠ p.block) (i : Nat) (v : Value) : Sees k B (w.setCell ⟨g, i, none⟩ v) a l := by
  rcases h with h | ⟨b, off, rfl, hB, hc⟩
  · exact .inl h
  · refine .inr ⟨b, off, rfl, hB, fun j hj => ?_⟩
    have hne : (⟨b, off + j, none⟩ : Addr).block ≠ g := fun e => hg _ rfl e.symm
    have := World.cell?_of_block (w := w) (w' := w.setCell ⟨g, i, none⟩ v) (a := ⟨b, off + j, none⟩) (Below.heap_setCell w ⟨g, i, none⟩ v b hne)
    rw [this]; exact hc j hj
set_option maxRecDepth 100000 in
theorem rall_any (n : Nat) (hn : n ≤ 8) (w : World) : Calls Tryz.prog 66 #[.int .i64 n] w (ZoneS n (allL n) w) := by
  obtain ⟨i0, hi, hz0, hz1, hz2⟩ := info_parts zinfoInt
  obtain ⟨W1, hW1⟩ : ∃ W1, W1 = w.alloc (.cells #[.int .i64 0, .slice none 0 0] 51) := ⟨_, rfl⟩
  obtain ⟨hB, hz⟩ : Below w.heap.size w W1 ∧ ZH W1 w.heap.size (.int .i64 0) (.slice none 0 0) := by rw [hW1]; exact zone_new
  have hrc := Lib.hid (fun a c W (h : Sees .i64 W.heap.size W a (List.replicate (sz n) 4398046511104)) => rclose_any n hn a (List.replicate (sz n) 4398046511104) (sz n) c (by simp) rfl W h)
  rw [all_of] at hrc
  have hB' := Lib.hid hB
  have hz' := Lib.hid hz
  have hW1' := Lib.hid hW1
  have hs81 := sz_le hn
  have hni : (n : Int) ≤ 8 := by omega
  have hw1 : IntKind.i64.wrap ((n : Int) + 1) = (n : Int) + 1 := wrap_small (by omega) (by omega)
  have hw2 : IntKind.i64.wrap (((n : Int) + 1) * ((n : Int) + 1)) = (sz n : Nat) := by rw [sz_int]; exact wrap_small (by omega) (by omega)
  clear hW1 hB hz
  generalize allL n = R at *
  generalize sz n = s at *
  go_enter Tryz.func66, Tryz.ntmps66
  go_wp2
  rw [← hW1'.out]
  go_loopw [3, 4] (fun v x wr => ∃ k : Nat, k ≤ s ∧ x = .int .i64 k ∧ Hid (wr.ownsRow W1.heap.size 3 1 v (List.replicate k (4398046511104 : Int)).length (nums .i64 (List.replicate k 4398046511104))) ∧ Hid (Below W1.heap.size W1 wr)) (fun _ x _ => s - (intOf x).toNat)
  case atStart => exact ⟨0, by omega, rfl, Lib.hid ⟨rfl, .inl ⟨rfl, rfl⟩⟩, Lib.hid (Below.refl _ _)⟩
  case round =>
    obtain ⟨k, hk, rfl, hown, hb⟩ := hrel
    by_cases hlt : k < s
    · have hki : (k : Int) < (s : Int) := by omega
      go_wp2_with (at_builtin; refine wpList_append1 _ rfl _ _ 49 rfl W1 3 i0 (.int .i64 0) 8 Tryz.underlying49 hi hz0 hz1 hz2 rfl .i64 4398046511104 _ _ hown.out hb.out rfl rfl (by simp; omega) (by omega) ?_; intro v' w' hown2 hb2; have hown2' := Lib.hid hown2; have hb2' := Lib.hid hb2; clear hown2 hb2)
      go_roundw
      case rel => exact ⟨k + 1, by omega, by go_num, by rw [List.replicate_succ']; exact hown2', hb2'⟩
      case measure => simp [intOf]; omega
    · have hke : k = s := by omega
      subst hke
      obtain ⟨a, c, rfl, -, hs⟩ := sees_own hown.out
      have hcall := Lib.hid (hrc.out a c wr hs)
      have hb' := Lib.hid hb.out
      have hz3 := hz'.out.below hb.out hz'.out.lt
      clear hown hb hs hrc
      simp only [List.length_replicate]
      go_wp2_with fail
      refine hcall.out.mono ?_
      rintro e w5 ⟨a5, c5, rfl, hc5, s5, b5, nw5⟩
      have hz5 := hz3.below b5 hz3.lt
      have k0 := hz5.cell 0
      have k1 := hz5.cell 1
      have f0 := hz5.free 0
      have f1 := hz5.free 1
      have hfin : Hid (ZH ((w5.setCell ⟨w.heap.size, 0, none⟩ (.int .i64 n)).setCell ⟨w.heap.size, 1, none⟩ (.slice a5 R.length c5)) w.heap.size (.int .i64 n) (.slice a5 R.length c5)) := Lib.hid (zh_set hz5 _ _)
      have hout : Hid (ZoneS n R w (.returned (.agg #[.int .i64 n, .slice a5 R.length c5])) ((w5.setCell ⟨w.heap.size, 0, none⟩ (.int .i64 n)).setCell ⟨w.heap.size, 1, none⟩ (.slice a5 R.length c5))) := Lib.hid (by
        have hne : ∀ p, a5 = some p → w.heap.size ≠ p.block := fun p hp => by have h1 := nw5 p hp; have h2 := hb'.out.size; have h3 := hz'.out.lt; omega
        have hbb : Below w.heap.size w w5 := (hB'.out.trans (hb'.out.mono hB'.out.size)).trans (b5.mono (by have h2 := hb'.out.size; have h3 := hB'.out.size; omega))
        refine ⟨a5, c5, rfl, hc5, ?_, (hbb.setCell (p := ⟨w.heap.size, 0, none⟩) (Nat.le_refl _) _).setCell (p := ⟨w.heap.size, 1, none⟩) (Nat.le_refl _) _, fun p hp => by have h1 := nw5 p hp; have h2 := hb'.out.size; have h3 := hB'.out.size; omega⟩
        have := sees_other (sees_other s5 w.heap.size hne 0 (.int .i64 n)) w.heap.size hne 1 (.slice a5 R.length c5)
        simpa using this)
      clear hz3 hz5 s5 b5
      go_wp2
      exact zone_ret hfin.out hout.out _ _ 2 rfl rfl rfl
end Go.Proofs.YtimgocfkogebmaaGreatDoor
namespace Go.Proofs.YtimgocfkogebmaaGreatDoor
open Go.RowKit
set_option linter.unusedVariables false
set_option linter.unusedSimpArgs false
def checkB (n : Int) (l : List Int) : Bool := mayB n && (decide (l = []) || decide (l.length = sz n.toNat) && decide (l = closedL n.toNat l))
def chk (n : Int) (l : List Int) : Int := if checkB n l = true then 0 else 80
theorem chk_or (n : Int) (l : List Int) : (checkB n l = true ∧ chk n l = 0) ∨ (checkB n l = false ∧ chk n l = 80) := by
  unfold chk
  cases h : checkB n l
  · right; simp
  · left; simp
theorem checkB_no {n : Int} {l : List Int} (h : mayB n = false) : checkB n l = false := by unfold checkB; rw [h, Bool.false_and]
theorem checkB_nil {n : Int} (h : mayB n = true) : checkB n [] = true := by unfold checkB; rw [h]; rfl
theorem checkB_len {n : Nat} {l : List Int} (h0 : l ≠ []) (hl : l.length ≠ sz n) : checkB n l = false := by
  unfold checkB
  rw [decide_eq_false h0, show ((n : Int)).toNat = n by omega, decide_eq_false hl]
  simp
theorem checkB_sz {n : Nat} (hn : n ≤ 8) {l : List Int} (h0 : l ≠ []) (hl : l.length = sz n) : checkB n l = decide (l = closedL n l) := by
  unfold checkB
  rw [decide_eq_false h0, show ((n : Int)).toNat = n by omega, decide_eq_true hl, mayB_nat hn]
  simp
theorem len_pos {m : Nat} {l : List Int} (h0 : l ≠ []) (h : m = l.length) : m ≠ 0 := by rw [h]; intro e; exact h0 (List.length_eq_zero_iff.1 e)
theorem dcheck_b (n : Int) (a : Option Addr) (m c : Nat) (l : List Int) (w : World) (h : SL w a m c l) (hno : mayB n = false) :
    Calls Tryz.prog 82 #[.agg #[.int .i64 n, .slice a m c]] w (Gives (.int .i64 80) w) := by
  have hmay := Lib.hid (fun W => may_any n W)
  rw [hno] at hmay
  have hB := box_below w #[.int .i64 n, .slice a m c] 51
  clear h hno
  go_enter Tryz.func82, Tryz.ntmps82
  go_wp2_with fail
  refine (hmay.out _).mono ?_
  rintro e w1 ⟨rfl, rfl⟩
  go_wp2
  go_ret
  exact ⟨rfl, hB⟩
theorem below_drew {B : Nat} {a w : World} (h : Below B a w) : Below B a w.drew := ⟨h.os, h.tape, h.output, h.size, h.block⟩
theorem box_facts (w : World) (x y : Value) : ∃ W1, W1 = w.alloc (.cells #[x, y] 51) ∧ Below w.heap.size w W1 ∧ (∀ W, Below W1.heap.size W1 W → W.cell? ⟨w.heap.size, 0, none⟩ = some x) ∧ (∀ W, Below W1.heap.size W1 W → W.cell? ⟨w.heap.size, 1, none⟩ = some y) := by
  refine ⟨_, rfl, box_below _ _ _, fun W hW => ?_, fun W hW => ?_⟩
  · have := ((Holds.new w 51 #[x, y]).below hW (by simp)).cell 0; simpa using this
  · have := ((Holds.new w 51 #[x, y]).below hW (by simp)).cell 1; simpa using this
set_option maxRecDepth 100000 in
set_option maxHeartbeats 1000000 in
theorem dcheck_nil (n : Nat) (hn : n ≤ 8) (a : Option Addr) (c : Nat) (w : World) :
    Calls Tryz.prog 82 #[.agg #[.int .i64 n, .slice a 0 c]] w (Gives (.int .i64 0) w) := by
  have hmay := Lib.hid (fun W => may_any n W)
  rw [mayB_nat hn] at hmay
  obtain ⟨W1, hW1, hB, hc0, hc1⟩ := box_facts w (.int .i64 n) (.slice a 0 c)
  have k0 := hc0 W1 (Below.refl _ _)
  have k1 := hc1 W1 (Below.refl _ _)
  have hW1' := Lib.hid hW1
  have hB' := Lib.hid hB
  clear hW1 hB
  go_enter Tryz.func82, Tryz.ntmps82
  go_wp2_with fail
  rw [← hW1'.out]
  refine (hmay.out _).mono ?_
  rintro e w1 ⟨rfl, rfl⟩
  clear hW1'
  go_wp2
  generalize w.heap.size = g at k0 k1 hc0 hc1 ⊢
  refine wp_drawn (by kernel_rfl) (fun hHeld => ?_)
  refine wT 0 (v := ?v1) rfl (by kernel_rfl) (fun _ _ _ h => h) ?h1 (by assumption) ?r1
  case h1 => (intro w hSw; (try dsimp only at hSw); go_simp; try with_reducible rfl)
  refine wT 1 (v := ?v2) rfl (by kernel_rfl) (fun _ _ _ h => h) ?h2 (by assumption) ?r2
  case h2 => (intro w hSw; (try dsimp only at hSw); go_simp; try with_reducible rfl)
  refine wT 2 (v := ?v3) rfl (by kernel_rfl) (fun _ _ _ h => h) ?h3 (by assumption) ?r3
  case h3 => (intro w hSw; (try dsimp only at hSw); go_simp; try with_reducible rfl)
  refine wT 3 (v := ?v4) rfl (by kernel_rfl) (fun _ _ _ h => h) ?h4 (by assumption) ?r4
  case h4 => (intro w hSw; (try dsimp only at hSw); go_simp; try with_reducible rfl)
  refine wT 4 (v := ?v5) rfl (by kernel_rfl) (fun _ _ _ h => h) ?h5 (by assumption) ?r5
  case h5 => (intro w hSw; (try dsimp only at hSw); go_simp; try with_reducible rfl)
  refine wS 5 rfl (by kernel_rfl) (fun _ _ _ h => h) (by assumption) ?_
  refine wS 6 rfl (by kernel_rfl) (fun _ _ _ h => h) (by assumption) ?_
  refine wS 7 rfl (by kernel_rfl) (fun _ _ _ h => h) (by assumption) ?_
  refine wS 8 rfl (by kernel_rfl) (fun _ _ _ h => h) (by assumption) ?_
  refine wS 9 rfl (by kernel_rfl) (fun _ _ _ h => h) (by assumption) ?_
  refine wS 10 rfl (by kernel_rfl) (fun _ _ _ h => h) (by assumption) ?_
  refine wS 11 rfl (by kernel_rfl) (fun _ _ _ h => h) (by assumption) ?_
  refine wS 12 rfl (by kernel_rfl) (fun _ _ _ h => h) (by assumption) ?_
  refine wS 13 rfl (by kernel_rfl) (fun _ _ _ h => h) (by assumption) ?_
  refine wS 14 rfl (by kernel_rfl) (fun _ _ _ h => h) (by assumption) ?_
  refine wS 15 rfl (by kernel_rfl) (fun _ _ _ h => h) (by assumption) ?_
  refine wS 16 rfl (by kernel_rfl) (fun _ _ _ h => h) (by assumption) ?_
  refine wS 17 rfl (by kernel_rfl) (fun _ _ _ h => h) (by assumption) ?_
  refine wS 18 rfl (by kernel_rfl) (fun _ _ _ h => h) (by assumption) ?_
  refine wS 19 rfl (by kernel_rfl) (fun _ _ _ h => h) (by assumption) ?_
  refine wS 20 rfl (by kernel_rfl) (fun _ _ _ h => h) (by assumption) ?_
  refine wS 21 rfl (by kernel_rfl) (fun _ _ _ h => h) (by assumption) ?_
  refine wS 22 rfl (by kernel_rfl) (fun _ _ _ h => h) (by assumption) ?_
  refine wT 23 (v := ?v24) rfl (by kernel_rfl) (fun _ _ _ h => h) ?h24 (by assumption) ?r24
  case h24 => (intro w hSw; (try dsimp only at hSw); go_simp; try with_reducible rfl)
  try simp only [Act.put, List.setIfInBounds_toArray, List.set_cons_zero, List.set_cons_succ]
  refine wpAnyH_done (by kernel_rfl) ?_ _
  go_wp2
  go_ret
  exact ⟨rfl, below_drew hB'.out⟩
set_option maxRecDepth 100000 in
set_option maxHeartbeats 1000000 in
theorem dcheck_len (n : Nat) (hn : n ≤ 8) (a : Option Addr) (m c : Nat) (h0 : m ≠ 0) (hm : m ≠ sz n) (hmx : m ≤ 9223372036854775807) (w : World) :
    Calls Tryz.prog 82 #[.agg #[.int .i64 n, .slice a m c]] w (Gives (.int .i64 80) w) := by
  have hmay := Lib.hid (fun W => may_any n W)
  rw [mayB_nat hn] at hmay
  have hsize := Lib.hid (fun W => zsize_any n hn W)
  have hs81 := sz_le hn
  generalize sz n = s at *
  obtain ⟨W1, hW1, hB, hc0, hc1⟩ := box_facts w (.int .i64 n) (.slice a m c)
  have k0 := hc0 W1 (Below.refl _ _)
  have k1 := hc1 W1 (Below.refl _ _)
  have hW1' := Lib.hid hW1
  have hB' := Lib.hid hB
  have e0 : ((m : Int) != 0) = true := by simp; omega
  have e1 : ((m : Int) != (s : Int)) = true := by simp; omega
  have e2 : ¬ (m : Int) = 0 := by omega
  have e3 : ¬ (m : Int) = (s : Int) := by omega
  clear hW1 hB
  go_enter Tryz.func82, Tryz.ntmps82
  go_wp2_with fail
  rw [← hW1'.out]
  refine (hmay.out _).mono ?_
  rintro e w1 ⟨rfl, rfl⟩
  clear hW1'
  go_wp2
  generalize w.heap.size = g at k0 k1 hc0 hc1 ⊢
  refine wp_drawn (by kernel_rfl) (fun hHeld => ?_)
  refine wT 0 (v := ?v25) rfl (by kernel_rfl) (fun _ _ _ h => h) ?h25 (by assumption) ?r25
  case h25 => (intro w hSw; (try dsimp only at hSw); go_simp; try with_reducible rfl)
  refine wT 1 (v := ?v26) rfl (by kernel_rfl) (fun _ _ _ h => h) ?h26 (by assumption) ?r26
  case h26 => (intro w hSw; (try dsimp only at hSw); go_simp; try with_reducible rfl)
  refine wT 2 (v := ?v27) rfl (by kernel_rfl) (fun _ _ _ h => h) ?h27 (by assumption) ?r27
  case h27 => (intro w hSw; (try dsimp only at hSw); go_simp; try with_reducible rfl)
  refine wT 3 (v := ?v28) rfl (by kernel_rfl) (fun _ _ _ h => h) ?h28 (by assumption) ?r28
  case h28 => (intro w hSw; (try dsimp only at hSw); go_simp; try with_reducible rfl)
  refine wT 4 (v := ?v29) rfl (by kernel_rfl) (fun _ _ _ h => h) ?h29 (by assumption) ?r29
  case h29 => (intro w hSw; (try dsimp only at hSw); go_simp; try with_reducible rfl)
  refine wT 5 (v := ?v30) rfl (by kernel_rfl) (fun _ _ _ h => h) ?h30 (by assumption) ?r30
  case h30 => (intro w hSw; (try dsimp only at hSw); go_simp; try with_reducible rfl)
  refine wT 6 (v := ?v31) rfl (by kernel_rfl) (fun _ _ _ h => h) ?h31 (by assumption) ?r31
  case h31 => (intro w hSw; (try dsimp only at hSw); go_simp; try with_reducible rfl)
  refine wT 7 (v := ?v32) rfl (by kernel_rfl) (fun _ _ _ h => h) ?h32 (by assumption) ?r32
  case h32 => (intro w hSw; (try dsimp only at hSw); go_simp; try with_reducible rfl)
  refine wT 8 (v := ?v33) rfl (by kernel_rfl) (fun _ _ _ h => h) ?h33 (by assumption) ?r33
  case h33 => (intro w hSw; (try dsimp only at hSw); go_simp; try with_reducible rfl)
  refine wT 9 (v := ?v34) rfl (by kernel_rfl) (fun _ _ _ h => h) ?h34 (by assumption) ?r34
  case h34 => (intro w hSw; (try dsimp only at hSw); go_simp; try with_reducible rfl)
  try simp only [Act.put, List.setIfInBounds_toArray, List.set_cons_zero, List.set_cons_succ]
  refine wpAnyH_ready (rs := [10]) (by kernel_rfl) (by simp) ?_
  refine AllReadyH.cons (o := ⟨_, _, _, _, _, _⟩) rfl (fun K hK => ?_) AllReadyH.nil
  go_simp
  refine (hsize.out _).mono ?_
  rintro e w1 ⟨rfl, rfl⟩
  go_simp
  refine hK.out _ _ (hHeld) (fun hHeld => ?_)
  clear hK K
  refine wT 11 (v := ?v35) rfl (by kernel_rfl) (fun _ _ _ h => h) ?h35 (by assumption) ?r35
  case h35 => (intro w hSw; (try dsimp only at hSw); go_simp; try with_reducible rfl)
  refine wT 12 (v := ?v36) rfl (by kernel_rfl) (fun _ _ _ h => h) ?h36 (by assumption) ?r36
  case h36 => (intro w hSw; (try dsimp only at hSw); go_simp; try with_reducible rfl)
  refine wS 13 rfl (by kernel_rfl) (fun _ _ _ h => h) (by assumption) ?_
  refine wS 14 rfl (by kernel_rfl) (fun _ _ _ h => h) (by assumption) ?_
  refine wS 15 rfl (by kernel_rfl) (fun _ _ _ h => h) (by assumption) ?_
  refine wS 16 rfl (by kernel_rfl) (fun _ _ _ h => h) (by assumption) ?_
  refine wS 17 rfl (by kernel_rfl) (fun _ _ _ h => h) (by assumption) ?_
  refine wS 18 rfl (by kernel_rfl) (fun _ _ _ h => h) (by assumption) ?_
  refine wS 19 rfl (by kernel_rfl) (fun _ _ _ h => h) (by assumption) ?_
  refine wS 20 rfl (by kernel_rfl) (fun _ _ _ h => h) (by assumption) ?_
  refine wS 21 rfl (by kernel_rfl) (fun _ _ _ h => h) (by assumption) ?_
  refine wT 22 (v := ?v46) rfl (by kernel_rfl) (fun _ _ _ h => h) ?h46 (by assumption) ?r46
  case h46 => (intro w hSw; (try dsimp only at hSw); go_simp; try with_reducible rfl)
  refine wT 23 (v := ?v47) rfl (by kernel_rfl) (fun _ _ _ h => h) ?h47 (by assumption) ?r47
  case h47 => (intro w hSw; (try dsimp only at hSw); go_simp; try with_reducible rfl)
  try simp only [Act.put, List.setIfInBounds_toArray, List.set_cons_zero, List.set_cons_succ]
  refine wpAnyH_done (by kernel_rfl) ?_ _
  go_wp2
  go_ret
  exact ⟨rfl, below_drew hB'.out⟩
set_option maxRecDepth 100000 in
set_option maxHeartbeats 1000000 in
theorem dcheck_sz (n : Nat) (hn : n ≤ 8) (a : Option Addr) (m c : Nat) (l : List Int) (hm : m = sz n) (w : World) (h : SL w a m c l) :
    Calls Tryz.prog 82 #[.agg #[.int .i64 n, .slice a m c]] w (Gives (.int .i64 (if decide (l = closedL n l) = true then 0 else 80)) w) := by
  have hmay := Lib.hid (fun W => may_any n W)
  rw [mayB_nat hn] at hmay
  have hsize := Lib.hid (fun W => zsize_any n hn W)
  rw [← hm] at hsize
  have hs81 := sz_le hn
  obtain ⟨W1, hW1, hB, hc0, hc1⟩ := box_facts w (.int .i64 n) (.slice a m c)
  have k0 := hc0 W1 (Below.refl _ _)
  have k1 := hc1 W1 (Below.refl _ _)
  have hW1' := Lib.hid hW1
  have hB' := Lib.hid hB
  have hsl := Lib.hid (h.below hB)
  have hclo := Lib.hid (fun W (hW : Below W1.heap.size W1 W) => closed_any n hn a l m c h.len hm W ((hsl.out.below hW).sees))
  have hpos := sz_pos n
  have e0 : ((m : Int) != 0) = true := by simp; omega
  have e2 : ¬ (m : Int) = 0 := by omega
  have hml := Lib.hid h.len
  have hmb : m ≤ 81 := by omega
  have hR : Hid (closedL n l = [] ∨ (closedL n l).length = sz n) := Lib.hid (by
    by_cases q : closedL n l = []
    · exact .inl q
    · exact .inr (closedL_is q).1)
  have hRl : (closedL n l).length ≤ 81 := by
    rcases hR.out with q | q
    · rw [q]; simp
    · omega
  clear hW1 hB h hm hpos hR
  generalize closedL n l = R at *
  generalize hd : decide (l = R) = d at *
  have hd' := Lib.hid hd
  clear hd
  generalize hE : (if d = true then (0 : Int) else 80) = E
  have hE' := Lib.hid hE
  clear hE
  go_enter Tryz.func82, Tryz.ntmps82
  go_wp2_with fail
  rw [← hW1'.out]
  refine (hmay.out _).mono ?_
  rintro e w1 ⟨rfl, rfl⟩
  clear hW1'
  go_wp2
  generalize w.heap.size = g at k0 k1 hc0 hc1 ⊢
  refine wp_drawn (by kernel_rfl) (fun hHeld => ?_)
  refine wT 0 (v := ?v48) rfl (by kernel_rfl) (fun _ _ _ h => h) ?h48 (by assumption) ?r48
  case h48 => (intro w hSw; (try dsimp only at hSw); go_simp; try with_reducible rfl)
  refine wT 1 (v := ?v49) rfl (by kernel_rfl) (fun _ _ _ h => h) ?h49 (by assumption) ?r49
  case h49 => (intro w hSw; (try dsimp only at hSw); go_simp; try with_reducible rfl)
  refine wT 2 (v := ?v50) rfl (by kernel_rfl) (fun _ _ _ h => h) ?h50 (by assumption) ?r50
  case h50 => (intro w hSw; (try dsimp only at hSw); go_simp; try with_reducible rfl)
  refine wT 3 (v := ?v51) rfl (by kernel_rfl) (fun _ _ _ h => h) ?h51 (by assumption) ?r51
  case h51 => (intro w hSw; (try dsimp only at hSw); go_simp; try with_reducible rfl)
  refine wT 4 (v := ?v52) rfl (by kernel_rfl) (fun _ _ _ h => h) ?h52 (by assumption) ?r52
  case h52 => (intro w hSw; (try dsimp only at hSw); go_simp; try with_reducible rfl)
  refine wT 5 (v := ?v53) rfl (by kernel_rfl) (fun _ _ _ h => h) ?h53 (by assumption) ?r53
  case h53 => (intro w hSw; (try dsimp only at hSw); go_simp; try with_reducible rfl)
  refine wT 6 (v := ?v54) rfl (by kernel_rfl) (fun _ _ _ h => h) ?h54 (by assumption) ?r54
  case h54 => (intro w hSw; (try dsimp only at hSw); go_simp; try with_reducible rfl)
  refine wT 7 (v := ?v55) rfl (by kernel_rfl) (fun _ _ _ h => h) ?h55 (by assumption) ?r55
  case h55 => (intro w hSw; (try dsimp only at hSw); go_simp; try with_reducible rfl)
  refine wT 8 (v := ?v56) rfl (by kernel_rfl) (fun _ _ _ h => h) ?h56 (by assumption) ?r56
  case h56 => (intro w hSw; (try dsimp only at hSw); go_simp; try with_reducible rfl)
  refine wT 9 (v := ?v57) rfl (by kernel_rfl) (fun _ _ _ h => h) ?h57 (by assumption) ?r57
  case h57 => (intro w hSw; (try dsimp only at hSw); go_simp; try with_reducible rfl)
  try simp only [Act.put, List.setIfInBounds_toArray, List.set_cons_zero, List.set_cons_succ]
  refine wpAnyH_ready (rs := [10]) (by kernel_rfl) (by simp) ?_
  refine AllReadyH.cons (o := ⟨_, _, _, _, _, _⟩) rfl (fun K hK => ?_) AllReadyH.nil
  go_simp
  refine (hsize.out _).mono ?_
  rintro e w1 ⟨rfl, rfl⟩
  go_simp
  refine hK.out _ _ (hHeld) (fun hHeld => ?_)
  clear hK K
  refine wT 11 (v := ?v58) rfl (by kernel_rfl) (fun _ _ _ h => h) ?h58 (by assumption) ?r58
  case h58 => (intro w hSw; (try dsimp only at hSw); go_simp; try with_reducible rfl)
  refine wT 12 (v := ?v59) rfl (by kernel_rfl) (fun _ _ _ h => h) ?h59 (by assumption) ?r59
  case h59 => (intro w hSw; (try dsimp only at hSw); go_simp; try with_reducible rfl)
  refine wT 13 (v := ?v60) rfl (by kernel_rfl) (fun _ _ _ h => h) ?h60 (by assumption) ?r60
  case h60 => (intro w hSw; (try dsimp only at hSw); go_simp; try with_reducible rfl)
  refine wT 14 (v := ?v61) rfl (by kernel_rfl) (fun _ _ _ h => h) ?h61 (by assumption) ?r61
  case h61 => (intro w hSw; (try dsimp only at hSw); go_simp; try with_reducible rfl)
  refine wT 15 (v := ?v62) rfl (by kernel_rfl) (fun _ _ _ h => h) ?h62 (by assumption) ?r62
  case h62 => (intro w hSw; (try dsimp only at hSw); go_simp; try with_reducible rfl)
  refine wT 16 (v := ?v63) rfl (by kernel_rfl) (fun _ _ _ h => h) ?h63 (by assumption) ?r63
  case h63 => (intro w hSw; (try dsimp only at hSw); go_simp; try with_reducible rfl)
  refine wT 17 (v := ?v64) rfl (by kernel_rfl) (fun _ _ _ h => h) ?h64 (by assumption) ?r64
  case h64 => (intro w hSw; (try dsimp only at hSw); go_simp; try with_reducible rfl)
  refine wT 18 (v := ?v65) rfl (by kernel_rfl) (fun _ _ _ h => h) ?h65 (by assumption) ?r65
  case h65 => (intro w hSw; (try dsimp only at hSw); go_simp; try with_reducible rfl)
  try simp only [Act.put, List.setIfInBounds_toArray, List.set_cons_zero, List.set_cons_succ]
  refine wpAnyH_ready (rs := [19]) (by kernel_rfl) (by simp) ?_
  refine AllReadyH.cons (o := ⟨_, _, _, _, _, _⟩) rfl (fun K hK => ?_) AllReadyH.nil
  go_simp
  refine (hclo.out _ hHeld).mono ?_
  intro e w3 hmd
  obtain ⟨a3, c3, rfl, s3, b3, -⟩ := made_parts hmd
  have hw2 : Below W1.heap.size W1 w3 := hHeld.trans (b3.mono hHeld.size)
  have heq := Lib.hid (fun W (hW : Below w3.heap.size w3 W) => zequal_any a a3 l R m R.length c c3 hml.out rfl (by omega) (by omega) W.heap.size W ((hsl.out.below hw2).below hW).sees ((s3.below hW).mono hW.size))
  clear hmd s3
  go_simp
  refine hK.out _ _ (hw2) (fun hHeld => ?_)
  clear hK K
  try simp only [Act.put, List.setIfInBounds_toArray, List.set_cons_zero, List.set_cons_succ]
  refine wpAnyH_now hHeld (fun hHeld => ?_)
  replace hc0 := rebase hc0 (hw2)
  replace hc1 := rebase hc1 (hw2)
  refine wpAnyH_ready (rs := [20]) (by kernel_rfl) (by simp) ?_
  refine AllReadyH.cons (o := ⟨_, _, _, _, _, _⟩) rfl (fun K hK => ?_) AllReadyH.nil
  go_simp
  refine (heq.out _ hHeld).mono ?_
  rintro e w5 ⟨rfl, m5, rfl⟩
  rw [hd'.out]
  go_simp
  refine hK.out _ _ (Below.drewN hHeld m5) (fun hHeld => ?_)
  clear hK K
  refine wT 21 (v := ?v66) rfl (by kernel_rfl) (fun _ _ _ h => h) ?h66 (by assumption) ?r66
  case h66 => (intro w hSw; (try dsimp only at hSw); go_simp; try with_reducible rfl)
  refine wT 22 (v := ?v67) rfl (by kernel_rfl) (fun _ _ _ h => h) ?h67 (by assumption) ?r67
  case h67 => (intro w hSw; (try dsimp only at hSw); go_simp; try with_reducible rfl)
  refine wT 23 (v := ?v68) rfl (by kernel_rfl) (fun _ _ _ h => h) ?h68 (by assumption) ?r68
  case h68 => (intro w hSw; (try dsimp only at hSw); go_simp; try with_reducible rfl)
  try simp only [Act.put, List.setIfInBounds_toArray, List.set_cons_zero, List.set_cons_succ]
  refine wpAnyH_done (by kernel_rfl) ?_ _
  cases d
  · have : E = 80 := hE'.out.symm
    subst this
    go_wp2
    go_ret
    exact ⟨rfl, Below.drewN (hB'.out.trans (hw2.mono hB'.out.size)) m5⟩
  · have : E = 0 := hE'.out.symm
    subst this
    go_wp2
    go_ret
    exact ⟨rfl, Below.drewN (hB'.out.trans (hw2.mono hB'.out.size)) m5⟩
theorem dcheck_any (n : Int) (a : Option Addr) (m c : Nat) (l : List Int) (w : World) (h : SL w a m c l) :
    Calls Tryz.prog 82 #[.agg #[.int .i64 n, .slice a m c]] w (Gives (.int .i64 (chk n l)) w) := by
  cases hm : mayB n
  · unfold chk
    rw [checkB_no hm]
    exact dcheck_b n a m c l w h hm
  · obtain ⟨k, rfl, hk⟩ := mayB_of hm
    by_cases h0 : l = []
    · subst h0
      have hm0 : m = 0 := h.len
      subst hm0
      unfold chk
      rw [checkB_nil hm]
      exact dcheck_nil k hk a c w
    · by_cases hl : m = sz k
      · have := dcheck_sz k hk a m c l hl w h
        unfold chk
        rw [checkB_sz hk h0 (by rw [← h.len, hl])]
        exact this
      · unfold chk
        rw [checkB_len h0 (by rw [← h.len]; exact hl)]
        exact dcheck_len k hk a m c (len_pos h0 h.len) hl h.max w
/- The document's Check. -/
theorem rcheck_b (n : Int) (a : Option Addr) (m c : Nat) (w : World) (hno : mayB n = false) :
    Calls Tryz.prog 96 #[.agg #[.int .i64 n, .slice a m c]] w (Gives (.bool false) w) := by
  have hmay := Lib.hid (fun W => vars_any n W)
  rw [hno] at hmay
  have hB := box_below w #[.int .i64 n, .slice a m c] 51
  clear hno
  go_enter Tryz.func96, Tryz.ntmps96
  go_wp2_with fail
  refine (hmay.out _).mono ?_
  rintro e w1 ⟨rfl, rfl⟩
  go_wp2
  go_ret
  exact ⟨rfl, hB⟩
set_option maxRecDepth 100000 in
set_option maxHeartbeats 1000000 in
theorem rcheck_nil (n : Nat) (hn : n ≤ 8) (a : Option Addr) (c : Nat) (w : World) :
    Calls Tryz.prog 96 #[.agg #[.int .i64 n, .slice a 0 c]] w (Gives (.bool true) w) := by
  have hmay := Lib.hid (fun W => vars_any n W)
  rw [mayB_nat hn] at hmay
  obtain ⟨W1, hW1, hB, hc0, hc1⟩ := box_facts w (.int .i64 n) (.slice a 0 c)
  have k0 := hc0 W1 (Below.refl _ _)
  have k1 := hc1 W1 (Below.refl _ _)
  have hW1' := Lib.hid hW1
  have hB' := Lib.hid hB
  clear hW1 hB
  go_enter Tryz.func96, Tryz.ntmps96
  go_wp2_with fail
  rw [← hW1'.out]
  refine (hmay.out _).mono ?_
  rintro e w1 ⟨rfl, rfl⟩
  clear hW1'
  go_wp2
  generalize w.heap.size = g at k0 k1 hc0 hc1 ⊢
  refine wp_drawn (by kernel_rfl) (fun hHeld => ?_)
  refine wT 0 (v := ?v69) rfl (by kernel_rfl) (fun _ _ _ h => h) ?h69 (by assumption) ?r69
  case h69 => (intro w hSw; (try dsimp only at hSw); go_simp; try with_reducible rfl)
  refine wT 1 (v := ?v70) rfl (by kernel_rfl) (fun _ _ _ h => h) ?h70 (by assumption) ?r70
  case h70 => (intro w hSw; (try dsimp only at hSw); go_simp; try with_reducible rfl)
  refine wT 2 (v := ?v71) rfl (by kernel_rfl) (fun _ _ _ h => h) ?h71 (by assumption) ?r71
  case h71 => (intro w hSw; (try dsimp only at hSw); go_simp; try with_reducible rfl)
  refine wT 3 (v := ?v72) rfl (by kernel_rfl) (fun _ _ _ h => h) ?h72 (by assumption) ?r72
  case h72 => (intro w hSw; (try dsimp only at hSw); go_simp; try with_reducible rfl)
  refine wT 4 (v := ?v73) rfl (by kernel_rfl) (fun _ _ _ h => h) ?h73 (by assumption) ?r73
  case h73 => (intro w hSw; (try dsimp only at hSw); go_simp; try with_reducible rfl)
  refine wS 5 rfl (by kernel_rfl) (fun _ _ _ h => h) (by assumption) ?_
  refine wS 6 rfl (by kernel_rfl) (fun _ _ _ h => h) (by assumption) ?_
  refine wS 7 rfl (by kernel_rfl) (fun _ _ _ h => h) (by assumption) ?_
  refine wS 8 rfl (by kernel_rfl) (fun _ _ _ h => h) (by assumption) ?_
  refine wS 9 rfl (by kernel_rfl) (fun _ _ _ h => h) (by assumption) ?_
  refine wS 10 rfl (by kernel_rfl) (fun _ _ _ h => h) (by assumption) ?_
  refine wS 11 rfl (by kernel_rfl) (fun _ _ _ h => h) (by assumption) ?_
  refine wS 12 rfl (by kernel_rfl) (fun _ _ _ h => h) (by assumption) ?_
  refine wS 13 rfl (by kernel_rfl) (fun _ _ _ h => h) (by assumption) ?_
  refine wS 14 rfl (by kernel_rfl) (fun _ _ _ h => h) (by assumption) ?_
  refine wS 15 rfl (by kernel_rfl) (fun _ _ _ h => h) (by assumption) ?_
  refine wS 16 rfl (by kernel_rfl) (fun _ _ _ h => h) (by assumption) ?_
  refine wS 17 rfl (by kernel_rfl) (fun _ _ _ h => h) (by assumption) ?_
  refine wS 18 rfl (by kernel_rfl) (fun _ _ _ h => h) (by assumption) ?_
  refine wS 19 rfl (by kernel_rfl) (fun _ _ _ h => h) (by assumption) ?_
  refine wS 20 rfl (by kernel_rfl) (fun _ _ _ h => h) (by assumption) ?_
  refine wS 21 rfl (by kernel_rfl) (fun _ _ _ h => h) (by assumption) ?_
  refine wS 22 rfl (by kernel_rfl) (fun _ _ _ h => h) (by assumption) ?_
  refine wS 23 rfl (by kernel_rfl) (fun _ _ _ h => h) (by assumption) ?_
  refine wS 24 rfl (by kernel_rfl) (fun _ _ _ h => h) (by assumption) ?_
  refine wT 25 (v := ?v94) rfl (by kernel_rfl) (fun _ _ _ h => h) ?h94 (by assumption) ?r94
  case h94 => (intro w hSw; (try dsimp only at hSw); go_simp; try with_reducible rfl)
  refine wT 26 (v := ?v95) rfl (by kernel_rfl) (fun _ _ _ h => h) ?h95 (by assumption) ?r95
  case h95 => (intro w hSw; (try dsimp only at hSw); go_simp; try with_reducible rfl)
  try simp only [Act.put, List.setIfInBounds_toArray, List.set_cons_zero, List.set_cons_succ]
  refine wpAnyH_done (by kernel_rfl) ?_ _
  go_wp2
  go_ret
  exact ⟨rfl, below_drew hB'.out⟩
set_option maxRecDepth 100000 in
set_option maxHeartbeats 1000000 in
theorem rcheck_len (n : Nat) (hn : n ≤ 8) (a : Option Addr) (m c : Nat) (h0 : m ≠ 0) (hm : m ≠ sz n) (hmx : m ≤ 9223372036854775807) (w : World) :
    Calls Tryz.prog 96 #[.agg #[.int .i64 n, .slice a m c]] w (Gives (.bool false) w) := by
  have hmay := Lib.hid (fun W => vars_any n W)
  rw [mayB_nat hn] at hmay
  have hs81 := sz_le hn
  have hni : (n : Int) ≤ 8 := by omega
  have v1 : IntKind.i64.wrap ((n : Int) + 1) = (n : Int) + 1 := wrap_small (by omega) (by omega)
  have v2 : IntKind.i64.wrap (((n : Int) + 1) * ((n : Int) + 1)) = (sz n : Nat) := by rw [sz_int]; exact wrap_small (by omega) (by omega)
  generalize sz n = s at *
  obtain ⟨W1, hW1, hB, hc0, hc1⟩ := box_facts w (.int .i64 n) (.slice a m c)
  have k0 := hc0 W1 (Below.refl _ _)
  have k1 := hc1 W1 (Below.refl _ _)
  have hW1' := Lib.hid hW1
  have hB' := Lib.hid hB
  have e0 : ((m : Int) == 0) = false := by simp; omega
  have e1 : ((m : Int) == (s : Int)) = false := by simp; omega
  have e2 : ¬ (m : Int) = 0 := by omega
  have e3 : ¬ (m : Int) = (s : Int) := by omega
  clear hW1 hB
  go_enter Tryz.func96, Tryz.ntmps96
  go_wp2_with fail
  rw [← hW1'.out]
  refine (hmay.out _).mono ?_
  rintro e w1 ⟨rfl, rfl⟩
  clear hW1'
  go_wp2
  generalize w.heap.size = g at k0 k1 hc0 hc1 ⊢
  refine wp_drawn (by kernel_rfl) (fun hHeld => ?_)
  refine wT 0 (v := ?v96) rfl (by kernel_rfl) (fun _ _ _ h => h) ?h96 (by assumption) ?r96
  case h96 => (intro w hSw; (try dsimp only at hSw); go_simp; try with_reducible rfl)
  refine wT 1 (v := ?v97) rfl (by kernel_rfl) (fun _ _ _ h => h) ?h97 (by assumption) ?r97
  case h97 => (intro w hSw; (try dsimp only at hSw); go_simp; try with_reducible rfl)
  refine wT 2 (v := ?v98) rfl (by kernel_rfl) (fun _ _ _ h => h) ?h98 (by assumption) ?r98
  case h98 => (intro w hSw; (try dsimp only at hSw); go_simp; try with_reducible rfl)
  refine wT 3 (v := ?v99) rfl (by kernel_rfl) (fun _ _ _ h => h) ?h99 (by assumption) ?r99
  case h99 => (intro w hSw; (try dsimp only at hSw); go_simp; try with_reducible rfl)
  refine wT 4 (v := ?v100) rfl (by kernel_rfl) (fun _ _ _ h => h) ?h100 (by assumption) ?r100
  case h100 => (intro w hSw; (try dsimp only at hSw); go_simp; try with_reducible rfl)
  refine wT 5 (v := ?v101) rfl (by kernel_rfl) (fun _ _ _ h => h) ?h101 (by assumption) ?r101
  case h101 => (intro w hSw; (try dsimp only at hSw); go_simp; try with_reducible rfl)
  refine wT 6 (v := ?v102) rfl (by kernel_rfl) (fun _ _ _ h => h) ?h102 (by assumption) ?r102
  case h102 => (intro w hSw; (try dsimp only at hSw); go_simp; try with_reducible rfl)
  refine wT 7 (v := ?v103) rfl (by kernel_rfl) (fun _ _ _ h => h) ?h103 (by assumption) ?r103
  case h103 => (intro w hSw; (try dsimp only at hSw); go_simp; try with_reducible rfl)
  refine wT 8 (v := ?v104) rfl (by kernel_rfl) (fun _ _ _ h => h) ?h104 (by assumption) ?r104
  case h104 => (intro w hSw; (try dsimp only at hSw); go_simp; try with_reducible rfl)
  refine wT 9 (v := ?v105) rfl (by kernel_rfl) (fun _ _ _ h => h) ?h105 (by assumption) ?r105
  case h105 => (intro w hSw; (try dsimp only at hSw); go_simp; try with_reducible rfl)
  refine wT 10 (v := ?v106) rfl (by kernel_rfl) (fun _ _ _ h => h) ?h106 (by assumption) ?r106
  case h106 => (intro w hSw; (try dsimp only at hSw); go_simp; try with_reducible rfl)
  refine wT 11 (v := ?v107) rfl (by kernel_rfl) (fun _ _ _ h => h) ?h107 (by assumption) ?r107
  case h107 => (intro w hSw; (try dsimp only at hSw); go_simp; try with_reducible rfl)
  refine wT 12 (v := ?v108) rfl (by kernel_rfl) (fun _ _ _ h => h) ?h108 (by assumption) ?r108
  case h108 => (intro w hSw; (try dsimp only at hSw); go_simp; try with_reducible rfl)
  refine wT 13 (v := ?v109) rfl (by kernel_rfl) (fun _ _ _ h => h) ?h109 (by assumption) ?r109
  case h109 => (intro w hSw; (try dsimp only at hSw); go_simp; try with_reducible rfl)
  refine wT 14 (v := ?v110) rfl (by kernel_rfl) (fun _ _ _ h => h) ?h110 (by assumption) ?r110
  case h110 => (intro w hSw; (try dsimp only at hSw); go_simp; try with_reducible rfl)
  refine wT 15 (v := ?v111) rfl (by kernel_rfl) (fun _ _ _ h => h) ?h111 (by assumption) ?r111
  case h111 => (intro w hSw; (try dsimp only at hSw); go_simp; try with_reducible rfl)
  refine wT 16 (v := ?v112) rfl (by kernel_rfl) (fun _ _ _ h => h) ?h112 (by assumption) ?r112
  case h112 => (intro w hSw; (try dsimp only at hSw); go_simp; try with_reducible rfl)
  refine wS 17 rfl (by kernel_rfl) (fun _ _ _ h => h) (by assumption) ?_
  refine wS 18 rfl (by kernel_rfl) (fun _ _ _ h => h) (by assumption) ?_
  refine wS 19 rfl (by kernel_rfl) (fun _ _ _ h => h) (by assumption) ?_
  refine wS 20 rfl (by kernel_rfl) (fun _ _ _ h => h) (by assumption) ?_
  refine wS 21 rfl (by kernel_rfl) (fun _ _ _ h => h) (by assumption) ?_
  refine wS 22 rfl (by kernel_rfl) (fun _ _ _ h => h) (by assumption) ?_
  refine wS 23 rfl (by kernel_rfl) (fun _ _ _ h => h) (by assumption) ?_
  refine wT 24 (v := ?v120) rfl (by kernel_rfl) (fun _ _ _ h => h) ?h120 (by assumption) ?r120
  case h120 => (intro w hSw; (try dsimp only at hSw); go_simp; try with_reducible rfl)
  refine wT 25 (v := ?v121) rfl (by kernel_rfl) (fun _ _ _ h => h) ?h121 (by assumption) ?r121
  case h121 => (intro w hSw; (try dsimp only at hSw); go_simp; try with_reducible rfl)
  refine wT 26 (v := ?v122) rfl (by kernel_rfl) (fun _ _ _ h => h) ?h122 (by assumption) ?r122
  case h122 => (intro w hSw; (try dsimp only at hSw); go_simp; try with_reducible rfl)
  try simp only [Act.put, List.setIfInBounds_toArray, List.set_cons_zero, List.set_cons_succ]
  refine wpAnyH_done (by kernel_rfl) ?_ _
  go_wp2
  go_ret
  exact ⟨rfl, below_drew hB'.out⟩
set_option maxRecDepth 100000 in
set_option maxHeartbeats 1000000 in
theorem rcheck_sz (n : Nat) (hn : n ≤ 8) (a : Option Addr) (m c : Nat) (l : List Int) (hm : m = sz n) (w : World) (h : SL w a m c l) :
    Calls Tryz.prog 96 #[.agg #[.int .i64 n, .slice a m c]] w (Gives (.bool (decide (l = closedL n l))) w) := by
  have hmay := Lib.hid (fun W => vars_any n W)
  rw [mayB_nat hn] at hmay
  have hs81 := sz_le hn
  have hni : (n : Int) ≤ 8 := by omega
  have v1 : IntKind.i64.wrap ((n : Int) + 1) = (n : Int) + 1 := wrap_small (by omega) (by omega)
  have v2 : IntKind.i64.wrap (((n : Int) + 1) * ((n : Int) + 1)) = (m : Int) := by rw [sz_int, hm]; exact wrap_small (by omega) (by omega)
  obtain ⟨W1, hW1, hB, hc0, hc1⟩ := box_facts w (.int .i64 n) (.slice a m c)
  have k0 := hc0 W1 (Below.refl _ _)
  have k1 := hc1 W1 (Below.refl _ _)
  have hW1' := Lib.hid hW1
  have hB' := Lib.hid hB
  have hsl := Lib.hid (h.below hB)
  have hclo := Lib.hid (fun W (hW : Below W1.heap.size W1 W) => rclose_any n hn a l m c h.len hm W ((hsl.out.below hW).sees))
  have hpos := sz_pos n
  have e0 : ((m : Int) == 0) = false := by simp; omega
  have e2 : ¬ (m : Int) = 0 := by omega
  have hmb : m ≤ 81 := by omega
  have hR : Hid (closedL n l = [] ∨ (closedL n l).length = sz n) := Lib.hid (by
    by_cases q : closedL n l = []
    · exact .inl q
    · exact .inr (closedL_is q).1)
  have hRl : (closedL n l).length ≤ 81 := by
    rcases hR.out with q | q
    · rw [q]; simp
    · omega
  clear hW1 hB h hm hpos hR
  generalize closedL n l = R at *
  generalize hd : decide (l = R) = d at *
  have hdd : Hid ((decide ((n : Int) = (n : Int)) && decide (R = l)) = d) := Lib.hid (by
    rw [← hd]
    by_cases q : R = l
    · subst q; simp
    · have q2 : ¬ l = R := fun e => q e.symm
      simp [q, q2])
  clear hd
  go_enter Tryz.func96, Tryz.ntmps96
  go_wp2_with fail
  rw [← hW1'.out]
  refine (hmay.out _).mono ?_
  rintro e w1 ⟨rfl, rfl⟩
  clear hW1'
  go_wp2
  generalize w.heap.size = g at k0 k1 hc0 hc1 ⊢
  refine wp_drawn (by kernel_rfl) (fun hHeld => ?_)
  refine wT 0 (v := ?v123) rfl (by kernel_rfl) (fun _ _ _ h => h) ?h123 (by assumption) ?r123
  case h123 => (intro w hSw; (try dsimp only at hSw); go_simp; try with_reducible rfl)
  refine wT 1 (v := ?v124) rfl (by kernel_rfl) (fun _ _ _ h => h) ?h124 (by assumption) ?r124
  case h124 => (intro w hSw; (try dsimp only at hSw); go_simp; try with_reducible rfl)
  refine wT 2 (v := ?v125) rfl (by kernel_rfl) (fun _ _ _ h => h) ?h125 (by assumption) ?r125
  case h125 => (intro w hSw; (try dsimp only at hSw); go_simp; try with_reducible rfl)
  refine wT 3 (v := ?v126) rfl (by kernel_rfl) (fun _ _ _ h => h) ?h126 (by assumption) ?r126
  case h126 => (intro w hSw; (try dsimp only at hSw); go_simp; try with_reducible rfl)
  refine wT 4 (v := ?v127) rfl (by kernel_rfl) (fun _ _ _ h => h) ?h127 (by assumption) ?r127
  case h127 => (intro w hSw; (try dsimp only at hSw); go_simp; try with_reducible rfl)
  refine wT 5 (v := ?v128) rfl (by kernel_rfl) (fun _ _ _ h => h) ?h128 (by assumption) ?r128
  case h128 => (intro w hSw; (try dsimp only at hSw); go_simp; try with_reducible rfl)
  refine wT 6 (v := ?v129) rfl (by kernel_rfl) (fun _ _ _ h => h) ?h129 (by assumption) ?r129
  case h129 => (intro w hSw; (try dsimp only at hSw); go_simp; try with_reducible rfl)
  refine wT 7 (v := ?v130) rfl (by kernel_rfl) (fun _ _ _ h => h) ?h130 (by assumption) ?r130
  case h130 => (intro w hSw; (try dsimp only at hSw); go_simp; try with_reducible rfl)
  refine wT 8 (v := ?v131) rfl (by kernel_rfl) (fun _ _ _ h => h) ?h131 (by assumption) ?r131
  case h131 => (intro w hSw; (try dsimp only at hSw); go_simp; try with_reducible rfl)
  refine wT 9 (v := ?v132) rfl (by kernel_rfl) (fun _ _ _ h => h) ?h132 (by assumption) ?r132
  case h132 => (intro w hSw; (try dsimp only at hSw); go_simp; try with_reducible rfl)
  refine wT 10 (v := ?v133) rfl (by kernel_rfl) (fun _ _ _ h => h) ?h133 (by assumption) ?r133
  case h133 => (intro w hSw; (try dsimp only at hSw); go_simp; try with_reducible rfl)
  refine wT 11 (v := ?v134) rfl (by kernel_rfl) (fun _ _ _ h => h) ?h134 (by assumption) ?r134
  case h134 => (intro w hSw; (try dsimp only at hSw); go_simp; try with_reducible rfl)
  refine wT 12 (v := ?v135) rfl (by kernel_rfl) (fun _ _ _ h => h) ?h135 (by assumption) ?r135
  case h135 => (intro w hSw; (try dsimp only at hSw); go_simp; try with_reducible rfl)
  refine wT 13 (v := ?v136) rfl (by kernel_rfl) (fun _ _ _ h => h) ?h136 (by assumption) ?r136
  case h136 => (intro w hSw; (try dsimp only at hSw); go_simp; try with_reducible rfl)
  refine wT 14 (v := ?v137) rfl (by kernel_rfl) (fun _ _ _ h => h) ?h137 (by assumption) ?r137
  case h137 => (intro w hSw; (try dsimp only at hSw); go_simp; try with_reducible rfl)
  refine wT 15 (v := ?v138) rfl (by kernel_rfl) (fun _ _ _ h => h) ?h138 (by assumption) ?r138
  case h138 => (intro w hSw; (try dsimp only at hSw); go_simp; try with_reducible rfl)
  refine wT 16 (v := ?v139) rfl (by kernel_rfl) (fun _ _ _ h => h) ?h139 (by assumption) ?r139
  case h139 => (intro w hSw; (try dsimp only at hSw); go_simp; try with_reducible rfl)
  refine wT 17 (v := ?v140) rfl (by kernel_rfl) (fun _ _ _ h => h) ?h140 (by assumption) ?r140
  case h140 => (intro w hSw; (try dsimp only at hSw); go_simp; try with_reducible rfl)
  refine wT 18 (v := ?v141) rfl (by kernel_rfl) (fun _ _ _ h => h) ?h141 (by assumption) ?r141
  case h141 => (intro w hSw; (try dsimp only at hSw); go_simp; try with_reducible rfl)
  refine wT 19 (v := ?v142) rfl (by kernel_rfl) (fun _ _ _ h => h) ?h142 (by assumption) ?r142
  case h142 => (intro w hSw; (try dsimp only at hSw); go_simp; try with_reducible rfl)
  refine wT 20 (v := ?v143) rfl (by kernel_rfl) (fun _ _ _ h => h) ?h143 (by assumption) ?r143
  case h143 => (intro w hSw; (try dsimp only at hSw); go_simp; try with_reducible rfl)
  refine wT 22 (v := ?v144) rfl (by kernel_rfl) (fun _ _ _ h => h) ?h144 (by assumption) ?r144
  case h144 => (intro w hSw; (try dsimp only at hSw); go_simp; try with_reducible rfl)
  try simp only [Act.put, List.setIfInBounds_toArray, List.set_cons_zero, List.set_cons_succ]
  refine wpAnyH_ready (rs := [21]) (by kernel_rfl) (by simp) ?_
  refine AllReadyH.cons (o := ⟨_, _, _, _, _, _⟩) rfl (fun K hK => ?_) AllReadyH.nil
  go_simp
  refine (hclo.out _ hHeld).mono ?_
  rintro e w3 ⟨a3, c3, rfl, hc3, s3, b3, -⟩
  have hw2 : Below W1.heap.size W1 w3 := hHeld.trans (b3.mono hHeld.size)
  have hsl3 : SL w3 a3 R.length c3 R := ⟨rfl, hc3, by omega, s3⟩
  have heq := Lib.hid (fun W (hW : Below w3.heap.size w3 W) => zrsame_any n n a3 a R l R.length m c3 c W (hsl3.below hW) ((hsl.out.below hw2).below hW))
  clear s3 hsl3
  go_simp
  refine hK.out _ _ (hw2) (fun hHeld => ?_)
  clear hK K
  try simp only [Act.put, List.setIfInBounds_toArray, List.set_cons_zero, List.set_cons_succ]
  refine wpAnyH_now hHeld (fun hHeld => ?_)
  replace hc0 := rebase hc0 (hw2)
  replace hc1 := rebase hc1 (hw2)
  refine wpAnyH_ready (rs := [23]) (by kernel_rfl) (by simp) ?_
  refine AllReadyH.cons (o := ⟨_, _, _, _, _, _⟩) rfl (fun K hK => ?_) AllReadyH.nil
  go_simp
  refine (heq.out _ hHeld).mono ?_
  rintro e w5 ⟨he5, b5⟩
  have he6 : e = .returned (.bool d) := he5.trans (ret_bool (by have := hdd.out; simpa using this))
  clear he5
  subst he6
  go_simp
  refine hK.out _ _ (hHeld.trans (b5.mono hHeld.size)) (fun hHeld => ?_)
  clear hK K
  refine wT 24 (v := ?v145) rfl (by kernel_rfl) (fun _ _ _ h => h) ?h145 (by assumption) ?r145
  case h145 => (intro w hSw; (try dsimp only at hSw); go_simp; try with_reducible rfl)
  refine wT 25 (v := ?v146) rfl (by kernel_rfl) (fun _ _ _ h => h) ?h146 (by assumption) ?r146
  case h146 => (intro w hSw; (try dsimp only at hSw); go_simp; try with_reducible rfl)
  refine wT 26 (v := ?v147) rfl (by kernel_rfl) (fun _ _ _ h => h) ?h147 (by assumption) ?r147
  case h147 => (intro w hSw; (try dsimp only at hSw); go_simp; try with_reducible rfl)
  try simp only [Act.put, List.setIfInBounds_toArray, List.set_cons_zero, List.set_cons_succ]
  refine wpAnyH_done (by kernel_rfl) ?_ _
  go_wp2
  go_ret
  exact ⟨rfl, hB'.out.trans ((hw2.trans (hHeld.mono hw2.size)).mono hB'.out.size)⟩
theorem zrcheck_any (n : Int) (a : Option Addr) (m c : Nat) (l : List Int) (w : World) (h : SL w a m c l) :
    Calls Tryz.prog 96 #[.agg #[.int .i64 n, .slice a m c]] w (Gives (.bool (checkB n l)) w) := by
  cases hm : mayB n
  · rw [checkB_no hm]
    exact rcheck_b n a m c w hm
  · obtain ⟨k, rfl, hk⟩ := mayB_of hm
    by_cases h0 : l = []
    · subst h0
      have hm0 : m = 0 := h.len
      subst hm0
      rw [checkB_nil hm]
      exact rcheck_nil k hk a c w
    · by_cases hl : m = sz k
      · have := rcheck_sz k hk a m c l hl w h
        rw [checkB_sz hk h0 (by rw [← h.len, hl])]
        exact this
      · rw [checkB_len h0 (by rw [← h.len]; exact hl)]
        exact rcheck_len k hk a m c (len_pos h0 h.len) hl h.max w
end Go.Proofs.YtimgocfkogebmaaGreatDoor
