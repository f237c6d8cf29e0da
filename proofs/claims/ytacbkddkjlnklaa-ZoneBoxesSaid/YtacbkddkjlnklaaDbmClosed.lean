/- Zones: closed. -/
import Derived.Test.YtacbkddkjlnklaaDbmLow
import Derived.Test.YtacbkddkjlnklaaDbmThr
namespace Go.Proofs.Ytacbkddkjlnklaa
open Go.RowKit
set_option linter.unusedVariables false
set_option linter.unusedSimpArgs false

theorem own_some {w : World} {base : Nat} {e : TypeId} {n : Nat} {v : Value} {xs : List Value} (h : w.ownsRow base e 1 v n xs) (hn : n ≠ 0) : ∃ g cap, v = .slice (some ⟨g, 0, none⟩) n cap ∧ base ≤ g := by
  rcases h.2 with ⟨rfl, h0⟩ | ⟨g, cap, cur, rfl, hb, _⟩
  · exact absurd h0 hn
  · exact ⟨g, cap, rfl, hb⟩
theorem sz_pos (n : Nat) : sz n ≠ 0 := by have := size_pos n; unfold sz; omega
set_option maxRecDepth 100000 in
set_option maxHeartbeats 4000000 in
theorem closed_any (n : Nat) (hn : n ≤ 8) (a : Option Addr) (M : List Int) (len c : Nat) (hM : len = M.length) (hl : len = sz n) (w : World) (h : Sees .i64 w.heap.size w a M) :
    Calls Try.prog 91 #[.int .i64 n, .slice a len c] w (Made 3 .i64 w (closedL n M)) := by
  obtain ⟨W1, hW1⟩ : ∃ W1, W1 = (w.alloc (.cells #[.int .i64 n] 3)).alloc (.cells #[.slice a len c] 22) := ⟨_, rfl⟩
  have hB : Below w.heap.size w W1 := by rw [hW1]; exact ((Below.refl _ _).alloc (Nat.le_refl _) _).alloc (by simp) _
  have hsz : W1.heap.size = w.heap.size + 2 := by rw [hW1]; simp
  have kn : W1.cell? ⟨w.heap.size, 0, none⟩ = some (.int .i64 n) := by rw [hW1]; simp [go_sem]
  have km : W1.cell? ⟨w.heap.size + 1, 0, none⟩ = some (.slice a len c) := by rw [hW1]; simp [go_sem]
  have h1 := h.below hB
  have heach := Lib.hid (each_clip n hn (w.heap.size + 1) w.heap.size (clipF n M) W1 (fun i j hi hj W hW => by
    have hc := clip_any (w.heap.size + 1) w.heap.size a M len c n hn hM hl i j hi hj w.heap.size W (h1.below (hW.mono (by omega))) ((hW.cell (p := ⟨w.heap.size + 1, 0, none⟩) (by show w.heap.size + 1 < W1.heap.size; omega)).trans km) ((hW.cell (p := ⟨w.heap.size, 0, none⟩) (by show w.heap.size < W1.heap.size; omega)).trans kn)
    exact hc))
  have kn' := Lib.hid kn
  have hB' := Lib.hid hB
  have hW1' := Lib.hid hW1
  have hsz' := Lib.hid hsz
  have hlen' : Hid ((matL n (clipF n M)).length = sz n) := Lib.hid (matL_len _ _)
  have hst : Hid (FwI n M 0 (matL n (clipF n M))) := Lib.hid (FwI.start n M)
  have hni : (n : Int) ≤ 8 := by omega
  have hpos := Lib.hid (sz_pos n)
  have hn' := Lib.hid hn
  clear hW1 hB hsz kn km h1 h hM hl
  generalize matL n (clipF n M) = D0 at *
  generalize hR : closedL n M = R
  have hR' := Lib.hid hR
  clear hR
  go_enter Try.func91, Try.ntmps91
  go_wp2_with fail
  rw [← hW1'.out]
  refine heach.out.mono ?_
  rintro e w3 ⟨v, rfl, hown, hb3⟩
  obtain ⟨g, cap, rfl, hg⟩ := own_some hown (by rw [hlen'.out]; exact hpos.out)
  have k3 : w3.cell? ⟨w.heap.size, 0, none⟩ = some (.int .i64 n) := (hb3.cell (p := ⟨w.heap.size, 0, none⟩) (by have := hsz'.out; show w.heap.size < W1.heap.size; omega)).trans kn'.out
  have hown2 : Hid (w3.ownsRow w.heap.size 3 1 (.slice (some ⟨g, 0, none⟩) (sz n) cap) (sz n) (nums .i64 D0)) := Lib.hid (by
    have := own_from (B := w.heap.size) hown (fun k hk => by have := hsz'.out; simp [Value.ownBlock] at hk; omega)
    rw [hlen'.out] at this
    exact this)
  have hbb : Hid (Below w.heap.size w w3) := Lib.hid (hB'.out.trans (hb3.mono (by have := hsz'.out; omega)))
  have hg' : Hid (w.heap.size + 2 ≤ g) := Lib.hid (by have := hsz'.out; omega)
  rw [hlen'.out]
  clear hown hb3 heach hlen' hg
  go_wp2
  go_loopw [12] (fun x wr => ∃ (k : Nat) (d : List Int), k ≤ n + 1 ∧ x = .int .i64 k ∧ Hid (FwI n M k d) ∧ Hid (wr.ownsRow w.heap.size 3 1 (.slice (some ⟨g, 0, none⟩) (sz n) cap) (sz n) (nums .i64 d)) ∧ Hid (Below w.heap.size w wr) ∧ Hid (wr.cell? ⟨w.heap.size, 0, none⟩ = some (.int .i64 n))) (fun x _ => n + 1 - (intOf x).toNat)
  case atStart => exact ⟨0, D0, by omega, rfl, hst, hown2, hbb, Lib.hid k3⟩
  case round =>
    clear hown2 hbb k3 hst
    obtain ⟨k, d, hkn, rfl, hI, hown, hb, kc⟩ := hrel
    by_cases hlt : k < n + 1
    · have hki : (k : Int) < (n : Int) + 1 := by omega
      have kc2 := kc.out
      have hthr := Lib.hid (through_any n k hn'.out (by omega) g cap w.heap.size d hI.out.len wr hown.out (hI.out.bounds hn'.out (by omega)))
      go_wp2_with fail
      refine hthr.out.mono ?_
      rintro e w5 ⟨rfl, hown5, hb5⟩
      have hk5 : w5.cell? ⟨w.heap.size, 0, none⟩ = some (.int .i64 n) := (hb5.cell (p := ⟨w.heap.size, 0, none⟩) (World.block_lt_of_cell? _ _ kc.out) (by have := hg'.out; simp; omega)).trans kc.out
      have hbn : Hid (Below w.heap.size w w5) := Lib.hid (hb.out.trans (BelowE.none ((hb5.mono (hb.out.size)).less (by intro x hx hlt; simp at hx; have := hg'.out; omega))))
      have hlen5 : (thrAll n k d).length = sz n := by unfold thrAll; rw [thr_len, hI.out.len]; rfl
      obtain ⟨a5, c5, hv5, -, s5⟩ := sees_own hown5
      have ha5 : a5 = some ⟨g, 0, none⟩ := by injection hv5 with e1 _ _; exact e1.symm
      subst ha5
      have hbel := Lib.hid (below_any n hn'.out (some ⟨g, 0, none⟩) (thrAll n k d) (sz n) cap hlen5.symm rfl w5.heap.size w5 s5)
      have hown5' := Lib.hid hown5
      have hout := Lib.hid (hI.out.out (k := k) (by omega))
      have hnext := Lib.hid (hI.out.next (k := k) (by omega))
      clear hthr hown hb hI kc hown5 hb5 hlen5 hv5 s5 kc2
      generalize thrAll n k d = d2 at *
      go_wp2_with fail
      refine hbel.out.mono ?_
      rintro e w6 ⟨rfl, rfl⟩
      clear hbel
      cases hbo : belowL n d2
      · have hI2 := Lib.hid (hnext.out hbo)
        clear hnext hout
        go_wp2
        go_roundw
        case rel => exact ⟨k + 1, d2, by omega, by go_num, hI2, hown5', hbn, Lib.hid hk5⟩
        case measure => simp [intOf]; omega
      · have he := Lib.hid (hout.out hbo)
        clear hnext hout
        go_wp2
        go_ret
        have : R = [] := by rw [← hR'.out, he.out]
        rw [this]
        exact ⟨_, rfl, ⟨rfl, .inl ⟨rfl, rfl⟩⟩, hbn.out⟩
    · have hke : k = n + 1 := by omega
      have hfin : Hid (d = R) := Lib.hid (by
        have := hI.out
        rw [hke] at this
        rw [this.end_, hR'.out])
      have hlen : Hid (d.length = sz n) := Lib.hid hI.out.len
      clear hI
      go_wp2
      go_ret
      rw [← hfin.out, ]
      refine ⟨_, rfl, ?_, hb.out⟩
      rw [hlen.out]
      exact hown.out
end Go.Proofs.Ytacbkddkjlnklaa
