/- strs.Get. -/
import Derived.Test.YtkfgfbdlbiahkaaStrsRead
import Derived.Test.YtkfgfbdlbiahkaaStrsOf
namespace Go.Proofs.Ytkfgfbdlbiahkaa
open Go.RowKit
set_option linter.unusedVariables false
set_option linter.unusedSimpArgs false

/-- What strs.Get hands back. -/
def GetsT (R : List ByteArray × Nat × Int) (w : World) (e : Ending) (w' : World) : Prop :=
  Below w.heap.size w w' ∧ ∃ (a : Option Addr) (c : Nat), e = .returned (.tuple #[.slice a R.1.length c, .int .i64 (R.2.1 : Nat), .int .i64 R.2.2]) ∧ TT w' a R.1.length c R.1
variable {W0 w w1 : World} {h r : Nat} {a : Option Addr} {cap : Nat} {bs : List Int} {p f : Nat} {e : Int}
theorem StR.grown {row : Option Nat} (s : StR W0 h r a cap bs w p e f) (C : CtxR W0 h r a cap bs) (hg : w.grownBy w1 row) (hr : ∀ k, row = some k → W0.heap.size ≤ k) : StR W0 h r a cap bs w1 p e f :=
  ⟨(hg.block r s.rd.lt (fun e => absurd (hr r e.symm) (by have := C.lr; omega))).trans s.rd, (hg.block h s.hb.lt (fun e => absurd (hr h e.symm) (by have := C.lh; omega))).trans s.hb, s.bl.grown hg s.bl.size (fun k hk hlt => absurd (hr k hk) (by omega)), s.at_⟩
theorem StR.left (s : StR W0 h r a cap bs w p e f) (C : CtxR W0 h r a cap bs) :
    Calls Try.prog 31 #[.pointer (some ⟨r, 0, none⟩)] w fun e' w' => e' = .returned (.int .i64 (leftO bs p e)) ∧ ∃ m, w' = w.drewN m := left_any r a cap bs p e w (s.rdr C)
theorem see_more {X : List Nat} {w : World} {a : Option Addr} {l : List Int} {B h : Nat} (hs : SeesE X .u8 B w a l) (hh : B ≤ h) : SeesE (X ++ [h]) .u8 B w a l := by
  rcases hs with h | ⟨b, off, h1, h2, h3, h4⟩
  · exact .inl h
  · exact .inr ⟨b, off, h1, h2, by simp; exact ⟨h3, by omega⟩, h4⟩
set_option maxRecDepth 100000 in
set_option maxHeartbeats 4000000 in
theorem tget_any (aB : Option Addr) (bs : List Int) (nB cB : Nat) (hnB : nB = bs.length) (hBl : nB ≤ 100000000) (hB : Bs bs) (w : World) (hs : Sees .u8 w.heap.size w aB bs) :
    Calls Try.prog 11 #[.slice aB nB cB] w (GetsT (getT bs) w) := by
  obtain ⟨i0, hi, hz0, hz1, hz2⟩ := info_parts infoStr
  have hfr := Lib.hid (from_any aB bs nB cB hnB w.heap.size w (by omega) hB hs)
  have hlen : bs.length ≤ 100000000 := by omega
  have hlen' := Lib.hid hlen
  have hBs := Lib.hid hB
  clear hnB hs hB hBl
  go_enter Try.func11, Try.ntmps11
  go_wp2_with fail
  refine hfr.out.mono ?_
  rintro en w1 ⟨r, a, cap, rfl, hrd, hb1, hr⟩
  obtain ⟨h, hh⟩ : ∃ h, h = w1.heap.size := ⟨_, rfl⟩
  obtain ⟨W0, hW0⟩ : ∃ W0, W0 = w1.alloc (.cells #[.pointer (some ⟨r, 0, none⟩), .int .i64 0] 51) := ⟨_, rfl⟩
  have hbx : Below w1.heap.size w1 W0 := by rw [hW0]; exact below_box _ _ _
  have hsz : W0.heap.size = w1.heap.size + 1 := by rw [hW0]; simp
  have hrl := hrd.blk.lt
  have C : CtxR W0 h r a cap bs := ⟨((see_more hrd.sees (by omega : w1.heap.size ≤ h)).belowE (.of hbx)).mono hbx.size, by omega, by omega, by omega, hrd.byt, hrd.len, hrd.cap⟩
  have s0 : StR W0 h r a cap bs W0 0 0 0 := ⟨hrd.blk.below hbx hrl, by rw [hW0, hh]; exact Holds.new _ _ _, BelowE.refl _ _ _, Nat.zero_le _⟩
  have hBw : Hid (Below w.heap.size w W0) := Lib.hid (hb1.trans (hbx.mono hb1.size))
  have hnew : Hid (w.heap.size ≤ r ∧ w.heap.size ≤ h) := Lib.hid ⟨hr, by have := hb1.size; omega⟩
  have hrc := Lib.hid (read_int C s0 4096 (by omega))
  have hcn : Hid ((countO 4096 bs 0 0).2.2 = 0 → 0 ≤ (countO 4096 bs 0 0).1 ∧ (countO 4096 bs 0 0).1 ≤ 4096) := Lib.hid (fun h => countO_in hBs.out (Nat.zero_le _) (by omega) h)
  have hcz : Hid ((countO 4096 bs 0 0).2.2 ≠ 0 → (countO 4096 bs 0 0).1 = 0) := Lib.hid (fun h => by
    rcases uO_cases hBs.out (Nat.zero_le bs.length) with ⟨hs, _⟩ | ⟨hs, _⟩ | ⟨n, j, hs, _, h0, h1, _⟩
    · simp [countO, hs]
    · simp [countO, hs]
    · by_cases hl : 4096 < n
      · simp [countO, hs, hl]
      · exact absurd (by simp [countO, hs, hl] : (countO 4096 bs 0 0).2.2 = 0) h)
  have hg1 : Hid ((countO 4096 bs 0 0).2.2 ≠ 0 → getT bs = ([], 0, (countO 4096 bs 0 0).2.2)) := Lib.hid (fun h => by unfold getT; rw [if_pos h])
  have hg2 : Hid ((countO 4096 bs 0 0).2.2 = 0 → getT bs = endT bs (goT bs (countO 4096 bs 0 0).1.toNat [] (countO 4096 bs 0 0).2.1)) := Lib.hid (fun h => by unfold getT; rw [if_neg (by rw [h]; simp)])
  have hleft := Lib.hid (fun (w : World) (p f : Nat) (e : Int) (s : StR W0 h r a cap bs w p e f) => s.left C)
  have C' := Lib.hid C
  have hh' := Lib.hid hh
  have hW0' := Lib.hid hW0
  have k0 := s0.ptr
  clear hb1 hr hrd hbx hsz hrl C hh s0 hlen
  generalize countO 4096 bs 0 0 = cO at *
  obtain ⟨n, p0, e0'⟩ := cO
  simp only at hcn hcz hg1 hg2 hrc
  go_wp2_with fail
  rw [← hW0'.out, ← hh'.out]
  refine hrc.out.mono ?_
  rintro en w2 ⟨rfl, s2, b2⟩
  have s2' := Lib.hid s2
  have hBw2 : Hid (Below w.heap.size w w2) := Lib.hid (hBw.out.trans ((b2.mono hBw.out.size).toBelow (by intro x hx; simp at hx; rcases hx with rfl | rfl; exact hnew.out.1; exact hnew.out.2)))
  obtain ⟨N, hN⟩ : ∃ N : Nat, n = N := ⟨n.toNat, by
    by_cases hz : e0' = 0
    · have := hcn.out hz; omega
    · have := hcz.out hz; omega⟩
  have hN4 : N ≤ 4096 := by
    by_cases hz : e0' = 0
    · have := hcn.out hz; omega
    · have := hcz.out hz; omega
  subst hN
  have hNi : (N : Int) ≤ 4096 := by omega
  clear s2 b2 hrc hW0 k0
  go_wp2
  go_loopw [7, 8, 9] (fun v z i wr => ∃ (acc : List ByteArray) (k : Nat) (zs : ByteArray) (p f : Nat) (e : Int), k ≤ N ∧ i = .int .i64 k ∧ z = .string zs ∧ zs.size ≤ 1000 ∧ acc.length ≤ k ∧ Hid (StR W0 h r a cap bs wr p e f) ∧ Hid (wr.ownsRow W0.heap.size 9 1 v acc.length (txts acc)) ∧ Hid (Below w.heap.size w wr) ∧
      Hid ((e = 0 ∧ zs = lastT acc ∧ acc.length = k ∧ getT bs = endT bs (goT bs (N - k) acc p)) ∨ (e ≠ 0 ∧ getT bs = ([], f, e)))) (fun _ _ i _ => N - (intOf i).toNat)
  case atStart =>
    refine ⟨[], 0, e0, p0, 0, e0', Nat.zero_le _, rfl, rfl, by simp [ByteArray.size], Nat.zero_le _, s2', Lib.hid ⟨rfl, .inl ⟨rfl, rfl⟩⟩, hBw2, Lib.hid ?_⟩
    by_cases hz : e0' = 0
    · left
      refine ⟨hz, rfl, rfl, ?_⟩
      have := hg2.out hz
      simpa using this
    · exact .inr ⟨hz, hg1.out hz⟩
  case round =>
    obtain ⟨acc, k, zs, p, f, e, hk, rfl, rfl, hzs, hak, s, hrow, hB, hst⟩ := hrel
    have k0 := s.out.ptr
    have herr := Lib.hid (err_any r e wr s.out.err)
    by_cases he : e = 0
    · subst he
      obtain ⟨rfl, hacc, hg⟩ : zs = lastT acc ∧ acc.length = k ∧ getT bs = endT bs (goT bs (N - k) acc p) := by
        rcases hst.out with h | h
        · exact ⟨h.2.1, h.2.2.1, h.2.2.2⟩
        · exact absurd rfl h.1
      clear hst
      by_cases hlt : k < N
      · have hki : (k : Int) < (N : Int) := by omega
        obtain ⟨fb, hfb⟩ : ∃ fb, fb = decide (acc.length = 0) := ⟨_, rfl⟩
        have hfb2 : ((k : Int) == 0) = fb := by rw [hfb, hacc, Bool.eq_iff_iff, beq_iff_eq, decide_eq_true_iff]; omega
        have htx := Lib.hid (text_any' C'.out s.out fb (lastT acc) hzs)
        have hgood : Hid (tE fb (lastT acc) bs p = 0 → getT bs = endT bs (goT bs (N - (k + 1)) (acc ++ [tS (lastT acc) bs p]) (tX bs p).2.1)) := Lib.hid (fun h => by
          rw [hg, show N - k = (N - (k + 1)) + 1 by omega, goT, ← hfb, if_pos h])
        have hbad : Hid (tE fb (lastT acc) bs p ≠ 0 → getT bs = ([], tP bs p, tE fb (lastT acc) bs p)) := Lib.hid (fun h => by
          rw [hg, show N - k = (N - (k + 1)) + 1 by omega, goT, ← hfb, if_neg h, endT, if_pos h])
        have hak' := Lib.hid hacc
        clear hg hfb hacc hcn hcz hg1 hg2
        unfold TextR at htx
        generalize tE fb (lastT acc) bs p = e2 at *
        generalize tS (lastT acc) bs p = S at *
        generalize tP bs p = f2 at *
        generalize (tX bs p).2.1 = q2 at *
        generalize lastT acc = la at *
        go_wp2_with fail
        refine herr.out.mono ?_
        rintro en w3 ⟨rfl, rfl⟩
        clear herr
        go_wp2_with fail
        refine htx.out.mono ?_
        rintro en w4 ⟨⟨z, rfl, hz, hze⟩, s4, b4⟩
        have hze' := Lib.hid hze
        have s4' := Lib.hid (s4.below (.of (below_box w4 #[.string z] 9)))
        have hBs4 : Hid (Below w.heap.size w w4) := Lib.hid (hB.out.trans ((b4.mono hB.out.size).toBelow (by intro x hx; simp at hx; rcases hx with rfl | rfl; exact hnew.out.1; exact hnew.out.2)))
        have hB4' := Lib.hid (hBs4.out.trans ((below_box w4 #[.string z] 9).mono hBs4.out.size))
        have hrow4 : Hid ((w4.alloc (.cells #[.string z] 9)).ownsRow W0.heap.size 9 1 u7 acc.length (txts acc)) := Lib.hid (own_below (own_belowE hrow.out b4 (by
          intro k hk hm
          have q1 := (hrow.out.lt k hk).1
          have q2 := C'.out.lr
          have q3 := C'.out.lh
          simp at hm
          rcases hm with rfl | rfl <;> omega)) (below_box w4 #[.string z] 9))
        clear hze s4 b4 htx hrow hB hBs4 s
        go_wp2_with (at_builtin; refine wpList_append_text _ rfl (.tmp 40) (.tmp 42) 22 rfl 9 i0 (.string ⟨#[]⟩) 16 Try.underlying22 hi hz0 hz1 hz2 rfl u7 acc (own_zero hrow4.out) _ z 1 (by simp [go_sem]) rfl rfl (by simp [maxLen]; omega) (by omega) ?_; intro v5 w5 own5 grow5 blk5; have own5' := Lib.hid own5; have grow5' := Lib.hid grow5; have blk5' := Lib.hid blk5; clear own5 grow5 blk5)
        have hnb : ∀ k, u7.ownBlock = some k → W0.heap.size ≤ k := fun k hk => (hrow4.out.lt k hk).1
        have s5 := Lib.hid (s4'.out.grown C'.out grow5'.out hnb)
        have B5 := Lib.hid (hB4'.out.grown grow5'.out hB4'.out.size (fun k hk => Nat.le_trans hBw.out.size (hnb k hk)))
        have own6 : Hid (w5.ownsRow W0.heap.size 9 1 v5 (acc ++ [z]).length (txts (acc ++ [z]))) := Lib.hid (own_from own5'.out (fun k hk => by
          rcases blk5'.out with h | h
          · exact hnb k (by rw [← h, hk])
          · rw [h] at hk; injection hk with hk; have := s4'.out.bl.size; omega))
        clear own5' grow5' blk5' hnb
        go_roundw
        case rel =>
          refine ⟨acc ++ [z], k + 1, z, q2, f2, e2, by omega, by go_num, rfl, hz, by simp; omega, s5, own6, B5, Lib.hid ?_⟩
          by_cases h2 : e2 = 0
          · have := hze'.out h2
            subst this
            exact .inl ⟨h2, by simp [lastT], by simp; exact hak'.out, hgood.out h2⟩
          · exact .inr ⟨h2, hbad.out h2⟩
        case measure => simp [intOf]; omega
      · have hki : ¬ (k : Int) < (N : Int) := by omega
        have hg' : Hid (getT bs = endT bs (acc, p, 0)) := Lib.hid (by rw [hg, show N - k = 0 by omega, goT])
        obtain ⟨al, cl, rfl, -, hsl⟩ := sees_ownT hrow.out
        have hat := s.out.at_
        clear hg hlt hk hcn hcz hg1 hg2 herr hacc
        by_cases hpl : p < bs.length
        · have hR : Hid (getT bs = ([], p, 3)) := Lib.hid (by rw [hg'.out]; simp [endT, hpl])
          have hlo : leftO bs p 0 = (bs.length : Int) - p := by simp [leftO]
          have hl2 := Lib.hid (hleft.out _ _ _ _ s.out)
          rw [hlo] at hl2
          have hpos : (0 : Int) < (bs.length : Int) - p := by omega
          clear hlo hg'
          go_wp2_with fail
          refine hl2.out.mono ?_
          rintro en w6 ⟨rfl, m6, rfl⟩
          have s6 := Lib.hid (s.out.drewN m6)
          have B6 := Lib.hid (Below.drewN hB.out m6)
          have k1 := s6.out.ptr
          have k2 := s6.out.from_
          have k3 := s6.out.free1
          have hat2 := Lib.hid (at_any r p _ s6.out.at1)
          clear hl2 hleft
          go_wp2_with fail
          refine hat2.out.mono ?_
          rintro en w7 ⟨rfl, rfl⟩
          have s7 := Lib.hid (s6.out.set C'.out p)
          have B7 := Lib.hid (B6.out.setCell (p := ⟨h, 1, none⟩) hnew.out.2 (.int .i64 (p : Nat)))
          have k4 := s7.out.ptr
          have hend := Lib.hid (end_any r a cap bs p 0 _ (s7.out.rdr C'.out))
          rw [show endO bs p 0 = 3 by simp [endO, hpl]] at hend
          clear s6 B6 hat2
          go_wp2_with fail
          refine hend.out.mono ?_
          rintro en w8 ⟨rfl, hm8⟩
          have s8 := Lib.hid (s7.out.moved C'.out hm8 hat)
          have B8 := Lib.hid (B7.out.trans ((hm8.2.mono B7.out.size).toBelow (by intro x hx; simp at hx; rw [hx]; exact hnew.out.1)))
          have k5 := s8.out.ptr
          have k6 := s8.out.from_
          have herr2 := Lib.hid (err_any r _ _ s8.out.err)
          have hfin : Hid (∀ nq, GetsT (getT bs) w (.returned (.tuple #[.slice none 0 0, .int .i64 (p : Nat), .int .i64 3])) (w8.drewN nq)) := Lib.hid (fun nq => by
            rw [hR.out]
            exact ⟨Below.drewN B8.out nq, none, 0, rfl, rfl, Nat.le_refl _, by simp, .inl rfl⟩)
          clear hm8 hend s7 B7
          go_wp2_with fail
          refine herr2.out.mono ?_
          rintro en w9 ⟨rfl, rfl⟩
          go_wp2
          go_quiet (fail)
          go_wp2
          go_ret3
          exact hfin.out nq
        · have hpe : p = bs.length := by omega
          have hR : Hid (getT bs = (acc, p, 0)) := Lib.hid (by rw [hg'.out]; simp [endT, hpl])
          have hlo : leftO bs p 0 = 0 := by simp [leftO]; omega
          have hl2 := Lib.hid (hleft.out _ _ _ _ s.out)
          rw [hlo] at hl2
          clear hlo hg' hpe
          go_wp2_with fail
          refine hl2.out.mono ?_
          rintro en w6 ⟨rfl, m6, rfl⟩
          have s6 := Lib.hid (s.out.drewN m6)
          have k1 := s6.out.ptr
          have herr2 := Lib.hid (err_any r _ _ s6.out.err)
          have hat2 := Lib.hid (at_any r p _ s6.out.at1)
          have hfin : Hid (GetsT (getT bs) w (.returned (.tuple #[.slice al acc.length cl, .int .i64 (p : Nat), .int .i64 0])) (wr.drewN m6)) := Lib.hid (by
            rw [hR.out]
            exact ⟨Below.drewN hB.out m6, al, cl, rfl, (tt_own hrow.out).drewN m6⟩)
          clear hl2 hleft hsl
          go_wp2_with fail
          refine herr2.out.mono ?_
          rintro en w7 ⟨rfl, rfl⟩
          go_wp2_with fail
          refine hat2.out.mono ?_
          rintro en w8 ⟨rfl, rfl⟩
          go_wp2
          go_ret3
          exact hfin.out
    · have hR : Hid (getT bs = ([], f, e)) := Lib.hid (by
        rcases hst.out with h | h
        · exact absurd h.1 he
        · exact h.2)
      have hlo : leftO bs p e = 0 := by simp [leftO, he]
      have he1 : (e == 0) = false := by simpa using he
      have he2 : (e != 0) = true := by simpa using he
      have hleft2 := Lib.hid (hleft.out _ _ _ _ s.out)
      rw [hlo] at hleft2
      clear hst hcn hcz hg1 hg2 hlo he hleft
      by_cases hlt : k < N
      · have hki : (k : Int) < (N : Int) := by omega
        go_wp2_with fail
        refine herr.out.mono ?_
        rintro en w3 ⟨rfl, rfl⟩
        clear herr
        go_wp2_with fail
        refine hleft2.out.mono ?_
        rintro en w6 ⟨rfl, m6, rfl⟩
        have herr2 := Lib.hid (err_any r _ (wr.drewN m6) (s.out.drewN m6).err)
        have k7 := s.out.from_
        have hfin : Hid (∀ nq, GetsT (getT bs) w (.returned (.tuple #[.slice none 0 0, .int .i64 (f : Nat), .int .i64 e])) ((wr.drewN m6).drewN nq)) := Lib.hid (fun nq => by
          rw [hR.out]
          exact ⟨Below.drewN (Below.drewN hB.out m6) nq, none, 0, rfl, rfl, Nat.le_refl _, by simp, .inl rfl⟩)
        have k6 := (s.out.drewN m6).ptr
        clear hleft2 hR
        go_wp2_with fail
        refine herr2.out.mono ?_
        rintro en w7 ⟨rfl, rfl⟩
        go_wp2
        go_quiet (fail)
        go_wp2
        go_ret3
        exact hfin.out nq
      · have hki : ¬ (k : Int) < (N : Int) := by omega
        clear herr
        go_wp2_with fail
        refine hleft2.out.mono ?_
        rintro en w6 ⟨rfl, m6, rfl⟩
        have herr2 := Lib.hid (err_any r _ (wr.drewN m6) (s.out.drewN m6).err)
        have k7 := s.out.from_
        have hfin : Hid (∀ nq, GetsT (getT bs) w (.returned (.tuple #[.slice none 0 0, .int .i64 (f : Nat), .int .i64 e])) ((wr.drewN m6).drewN nq)) := Lib.hid (fun nq => by
          rw [hR.out]
          exact ⟨Below.drewN (Below.drewN hB.out m6) nq, none, 0, rfl, rfl, Nat.le_refl _, by simp, .inl rfl⟩)
        have k6 := (s.out.drewN m6).ptr
        clear hleft2 hR
        go_wp2_with fail
        refine herr2.out.mono ?_
        rintro en w7 ⟨rfl, rfl⟩
        go_wp2
        go_quiet (fail)
        go_wp2
        go_ret3
        exact hfin.out nq
end Go.Proofs.Ytkfgfbdlbiahkaa
