/- DbmTight: the walk of the statement's function. -/
import Derived.Test.YtmfdkffekgodgaaDbmLawCloses
namespace Go.Proofs.Ytmfdkffekgodgaa
open Go.RowKit
set_option linter.unusedVariables false
set_option linter.unusedSimpArgs false

theorem bound_full {n : Nat} {l : List Int} (hF : Full n l) {i j : Nat} (hi : i ≤ n) (hj : j ≤ n) (a : Option Addr) (m c : Nat) (w : World) (h : SL w a m c l) :
    Calls Try.prog 18 #[.agg #[.int .i64 n, .slice a m c], .int .i64 i, .int .i64 j] w (Gives (.tuple #[.int .i64 (mat n l i j), .bool true]) w) := by
  have hb := bound_any n a m c l i j w h
  have e0 : (fullB n l && inB ((n : Int)).toNat i && inB ((n : Int)).toNat j) = true := by
    rw [hF.is, show ((n : Int)).toNat = n by omega, inB_nat hi, inB_nat hj]; rfl
  have e1 : bndV n l i j = mat n l i j := by
    unfold bndV mat
    rw [e0, show ((n : Int)).toNat = n by omega, show ((i : Int)).toNat = i by omega, show ((j : Int)).toNat = j by omega]
    rfl
  have e2 : bndB n l i j = true := by unfold bndB; exact e0
  rwa [e1, e2] at hb
theorem point_at {n : Nat} {l : List Int} (hF : Full n l) {i j : Nat} (hi : i ≤ n) (hj : j ≤ n) : valF (pointL n l j) i = mat n l i j - mat n l 0 j := by
  unfold valF mat
  split
  · rename_i e; subst e; simp
  · have h : i - 1 < n := by omega
    unfold pointL
    simp [List.getD, h]
    rw [show i - 1 + 1 = i by omega]
theorem point_len (n : Nat) (l : List Int) (j : Nat) : (pointL n l j).length = n := by simp [pointL]
theorem point_near {n : Nat} {l : List Int} (hF : Full n l) {j : Nat} (hj : j ≤ n) : (pointL n l j).any farB = false := by
  rw [List.any_eq_false]
  intro x hx
  obtain ⟨k, hk, rfl⟩ := List.getElem_of_mem hx
  rw [point_len] at hk
  have h1 := point_at hF (i := k + 1) (by omega) hj
  unfold valF at h1
  rw [if_neg (by omega)] at h1
  have h2 : (pointL n l j)[k]'(by rw [point_len]; exact hk) = mat n l (k + 1) j - mat n l 0 j := by
    simpa [List.getD, point_len, hk] using h1
  rw [h2]
  have t1 := hF.closed.tri (k + 1) j 0 (by omega) hj (by omega)
  have t2 := hF.closed.tri 0 j (k + 1) (by omega) hj (by omega)
  have u1 := hF.up (i := k + 1) (j := 0) (by omega) (by omega)
  have u2 := hF.up (i := 0) (j := k + 1) (by omega) (by omega)
  have e1 : widestF (k + 1) 0 = 1099511627776 := by unfold widestF; rw [if_neg (by omega), if_pos (.inr rfl)]
  have e2 : widestF 0 (k + 1) = 1099511627776 := by unfold widestF; rw [if_neg (by omega), if_pos (.inl rfl)]
  unfold farB
  simp
  omega
theorem point_has {n : Nat} {l : List Int} (hF : Full n l) {j : Nat} (hj : j ≤ n) : hasB n l (pointL n l j) = true := by
  have ht : (((n : Nat) : Int)).toNat = n := by omega
  unfold hasB
  rw [hF.is, point_len, ht, point_near hF hj, decide_eq_true rfl, Bool.true_and, Bool.true_and, Bool.not_false, Bool.true_and, cells_iff]
  intro a b ha hb
  unfold difF
  rw [point_at hF ha hj, point_at hF hb hj]
  have := hF.closed.tri a j b ha hj hb
  omega
theorem point_holds {n : Nat} (hn : n ≤ 8) {m : List Int} (hm : m.length = sz n) {j : Nat} (hj : j ≤ n) (hR : closedL n m ≠ []) : holdsB m (pointL n (closedL n m) j) = true := by
  have hF := closed_full hn hR
  have h1 := has_holds (m := m) (v := pointL n (closedL n m) j) (by rw [point_len]; exact hn) (by rw [point_len]; exact hm)
  rw [point_len] at h1
  rw [← h1]
  exact point_has hF hj
/-- What the loops of DbmTight find. -/
structure Tg (w W : World) (g : Nat) (n : Nat) (a : Option Addr) (m c : Nat) (R : List Int) (aq : Option Addr) (nq cq : Nat) (Q : List Int) : Prop where
  bl : Below w.heap.size w W
  z : ZH W g (.int .i64 n) (.slice a m c)
  s : SL W a m c R
  q : SL W aq nq cq Q
theorem Tg.on {w W W' : World} {g n : Nat} {a : Option Addr} {m c : Nat} {R : List Int} {aq : Option Addr} {nq cq : Nat} {Q : List Int} (h : Tg w W g n a m c R aq nq cq Q) (hb : Below W.heap.size W W') : Tg w W' g n a m c R aq nq cq Q :=
  ⟨h.bl.trans (hb.mono h.bl.size), h.z.below hb h.z.lt, h.s.below hb, h.q.below hb⟩
theorem gives_of_reads {v : Value} {w : World} {e : Ending} {w' : World} (h : ReadsV v w e w') : Gives v w e w' := by
  obtain ⟨he, m, rfl⟩ := h
  exact ⟨he, Below.drewN (Below.refl _ _) m⟩
set_option maxRecDepth 100000 in
set_option maxHeartbeats 4000000 in
theorem tight_full (n : Nat) (hn : n ≤ 8) (w : World) (a0 : Option Addr) (n0 c0 : Nat) (l0 : List Int) (S0 : SL w a0 n0 c0 l0) (j : Nat) (hj : j ≤ n) (hl : ¬ 200 < n0) (hsz : n0 = sz n) (hR : closedL n l0 ≠ []) :
    Calls Try.prog 6 #[.int .i64 n, .slice a0 n0 c0, .int .i64 j] w (Gives (.bool true) w) := by
  obtain ⟨i0, hi, hz0, hz1, hz2⟩ := info_parts infoInt
  have hlg := Lib.hid (large_any a0 n0 c0 S0.max w)
  have e : decide (200 < (n0 : Int)) = false := decide_eq_false (by omega)
  rw [e] at hlg
  clear e
  have hmay := Lib.hid (fun W => vars_any n W)
  rw [mayB_nat hn] at hmay
  have hni : (n : Int) ≤ 8 := by omega
  have hji : (j : Int) ≤ (n : Int) := by omega
  have v1 : IntKind.i64.wrap ((n : Int) + 1) = (n : Int) + 1 := wrap_small (by omega) (by omega)
  have v2 : IntKind.i64.wrap (((n : Int) + 1) * ((n : Int) + 1)) = (n0 : Int) := by have := sz_le hn; rw [sz_int, hsz]; exact wrap_small (by omega) (by omega)
  have hm1 := closed_small hn l0
  have hcl := Lib.hid ((dclose_ok n hn a0 l0 n0 c0 S0.len hsz w S0.sees).mono (fun e w' h => ends_of (m := (closedL n l0).length) rfl (by omega) h))
  have hF := Lib.hid (closed_full hn hR)
  have hpt := Lib.hid (fun W a c (h : SL W a (closedL n l0).length c (closedL n l0)) => (point_ok n a (closedL n l0).length c (closedL n l0) j hj hF.out W h).mono (R' := EndsP n (pointL n (closedL n l0) j) W) (by rintro e w' ⟨a2, c2, rfl, hc2, hs, hb⟩; exact ⟨a2, c2, rfl, ⟨(point_len _ _ _).symm, hc2, by omega, hs⟩, hb⟩))
  have hem := Lib.hid (fun W a c (h : SL W a (closedL n l0).length c (closedL n l0)) => empty_any n a (closedL n l0).length c (closedL n l0) W h)
  rw [(closed_chk hn l0).2, decide_eq_false hR] at hem
  have hhas := Lib.hid (fun W a c ap cp (h : SL W a (closedL n l0).length c (closedL n l0)) (h2 : SL W ap n cp (pointL n (closedL n l0) j)) => has_any n a (closedL n l0).length c (closedL n l0) ap n cp (pointL n (closedL n l0) j) W h h2)
  rw [point_has hF.out hj] at hhas
  have hhol := Lib.hid (fun W ap cp (h : SL W a0 n0 c0 l0) (h2 : SL W ap n cp (pointL n (closedL n l0) j)) => (holds_any a0 n0 c0 l0 ap n cp (pointL n (closedL n l0) j) hn W h h2).mono (fun e w' h => gives_of_reads h))
  rw [point_holds hn (by rw [← S0.len]; exact hsz) hj hR] at hhol
  have hbd := Lib.hid (fun W a c i k (hi : i ≤ n) (hk : k ≤ n) (h : SL W a (closedL n l0).length c (closedL n l0)) => bound_full hF.out hi hk a (closedL n l0).length c W h)
  have hq : Hid (∀ i, i ≤ n → ((0 : Int) :: pointL n (closedL n l0) j).getD i 0 = mat n (closedL n l0) i j - mat n (closedL n l0) 0 j) := Lib.hid (fun i hi => by
    rw [← point_at hF.out hi hj]
    unfold valF
    cases i with
    | zero => rfl
    | succ i => simp [List.getD])
  have hpl : Hid ((pointL n (closedL n l0) j).length = n) := Lib.hid (point_len _ _ _)
  have hS0 := Lib.hid S0
  have hn' := Lib.hid hn
  clear S0 hl hsz hR hn
  generalize pointL n (closedL n l0) j = P at *
  generalize hmm : (closedL n l0).length = m1 at *
  clear hmm
  generalize closedL n l0 = R at *
  go_enter Try.func6, Try.ntmps6
  go_wp2_with fail
  refine hlg.out.mono ?_
  rintro e w1 ⟨rfl, rfl⟩
  go_wp2_with fail
  refine (hmay.out _).mono ?_
  rintro e w1 ⟨rfl, rfl⟩
  go_wp2_with fail
  refine hcl.out.mono ?_
  rintro e w1 ⟨a1, c1, rfl, s1, b1⟩
  have B1 := b1.trans ((box_below w1 #[.int .i64 n, .slice a1 m1 c1] 26).mono b1.size)
  have Z1 := Lib.hid (Holds.new w1 26 #[.int .i64 n, .slice a1 m1 c1])
  have S1 := Lib.hid (s1.below (box_below w1 #[.int .i64 n, .slice a1 m1 c1] 26))
  have B1' := Lib.hid B1
  have hp1 := Lib.hid (hpt.out _ a1 c1 S1.out)
  clear b1 s1 B1 hcl hlg hmay hpt
  go_wp2_with fail
  refine hp1.out.mono ?_
  rintro e w2 ⟨ap, cp, rfl, sp, b2⟩
  have Z2 := Lib.hid (Z1.out.below b2 Z1.out.lt)
  have S2 := Lib.hid (S1.out.below b2)
  have P2 : Hid (SL w2 ap n cp P) := Lib.hid sp
  have hlv := Lib.hid (livesAt w w2 (B1'.out.trans (b2.mono B1'.out.size)))
  clear hp1 sp b2 Z1 S1 B1'
  go_wp2_with fail
  refine hlv.out.mono ?_
  rintro e w3 ⟨rfl, b3, bw3⟩
  have Z3 := Lib.hid (Z2.out.below b3 Z2.out.lt)
  have S3 := Lib.hid (S2.out.below b3)
  have P3 := Lib.hid (P2.out.below b3)
  have bw3' := Lib.hid bw3
  have k0 := Z3.out.cell 0
  have k1 := Z3.out.cell 1
  have he3 := Lib.hid (hem.out _ a1 c1 S3.out)
  clear hlv b3 bw3 Z2 S2 P2 hem
  go_wp2_with fail
  refine he3.out.mono ?_
  rintro e w4 ⟨rfl, b4⟩
  have Z4 := Lib.hid (Z3.out.below b4 Z3.out.lt)
  have S4 := Lib.hid (S3.out.below b4)
  have P4 := Lib.hid (P3.out.below b4)
  have bw4 := Lib.hid (bw3'.out.trans (b4.mono bw3'.out.size))
  clear k0 k1 he3 b4 Z3 S3 P3 bw3'
  have k0 := Z4.out.cell 0
  have k1 := Z4.out.cell 1
  have hh4 := Lib.hid (hhas.out _ a1 c1 ap cp S4.out P4.out)
  clear hhas
  go_wp2_with fail
  refine hh4.out.mono ?_
  rintro e w5 ⟨rfl, b5⟩
  have Z5 := Lib.hid (Z4.out.below b5 Z4.out.lt)
  have S5 := Lib.hid (S4.out.below b5)
  have P5 := Lib.hid (P4.out.below b5)
  have bw5 := Lib.hid (bw4.out.trans (b5.mono bw4.out.size))
  clear k0 k1 hh4 b5 Z4 S4 P4 bw4
  have hh5 := Lib.hid (hhol.out _ ap cp (hS0.out.below bw5.out) P5.out)
  clear hhol
  go_wp2_with fail
  refine hh5.out.mono ?_
  rintro e w6 ⟨rfl, b6⟩
  have Z6 := Lib.hid (Z5.out.below b6 Z5.out.lt)
  have S6 := Lib.hid (S5.out.below b6)
  have P6 := Lib.hid (P5.out.below b6)
  have bw6 := Lib.hid (bw5.out.trans (b6.mono bw5.out.size))
  have hlit := Lib.hid (own_lit w6 3 .i64 [0] #[.int .i64 0] rfl (by simp [maxLen]) 1 rfl)
  clear hh5 b6 Z5 S5 P5 bw5
  go_wp2_with (at_builtin; refine wpList_append_sees _ rfl (.tmp 93) (.tmp 94) 22 rfl w6 3 i0 (.int .i64 0) 8 Try.underlying22 hi hz0 hz1 hz2 rfl .i64 _ [0] (by exact hlit.out) (by exact (Below.refl _ w6).alloc (Nat.le_refl _) _) w6.heap.size ap P (by exact P6.out.sees.below ((Below.refl _ w6).alloc (Nat.le_refl _) _)) n cp P6.out.len rfl rfl (by have := P6.out.len; simp; omega) (by omega) ?_; intro v7 w7 hown7 hb7)
  obtain ⟨aq, cq, rfl, -, sq⟩ := sees_own hown7
  have hcq := own_cap hown7
  have hql : ([0] ++ P).length = n + 1 := by simp [hpl.out]
  rw [hql] at hcq ⊢
  have T7 : Hid (Tg w w7 w1.heap.size n a1 m1 c1 R aq (n + 1) cq (0 :: P)) := Lib.hid ⟨bw6.out.trans (hb7.mono bw6.out.size), Z6.out.below hb7 Z6.out.lt, S6.out.below hb7, ⟨hql.symm, hcq, by omega, sq⟩⟩
  clear hown7 hb7 sq hcq hql hlit Z6 S6 P6 bw6
  have hcells : Hid (∀ W, Tg w W w1.heap.size n a1 m1 c1 R aq (n + 1) cq (0 :: P) → W.cell? ⟨w1.heap.size, 0, none⟩ = some (.int .i64 n) ∧ W.cell? ⟨w1.heap.size, 1, none⟩ = some (.slice a1 m1 c1)) := Lib.hid (fun W h => ⟨h.z.cell 0, h.z.cell 1⟩)
  have hqat : Hid (∀ W i, i ≤ n → Tg w W w1.heap.size n a1 m1 c1 R aq (n + 1) cq (0 :: P) → ∃ b off, aq = some ⟨b, off, none⟩ ∧ W.cell? ⟨b, off + i, none⟩ = some (.int .i64 (mat n R i j - mat n R 0 j))) := Lib.hid (fun W i hi h => by
    obtain ⟨b, off, e1, -, e2⟩ := sees_at' h.q.sees (i := i) (by have := h.q.len; omega)
    rw [hq.out i hi] at e2
    exact ⟨b, off, e1, e2⟩)
  have hin : Hid (∀ i k, i ≤ n → k ≤ n → -2199023255552 ≤ mat n R i k ∧ mat n R i k ≤ 2199023255552) := Lib.hid (fun i k h1 h2 => full_at hF.out (place_lt h1 h2))
  have htri : Hid (∀ i k, i ≤ n → k ≤ n → mat n R i j ≤ mat n R i k + mat n R k j) := Lib.hid (fun i k h1 h2 => hF.out.closed.tri i j k h1 hj h2)
  have hz : Hid (mat n R j j = 0) := Lib.hid (hF.out.closed.zero j hj)
  clear hq hpl
  go_wp2
  go_loopw [12] (fun x wr => ∃ i : Nat, i ≤ n + 1 ∧ x = .int .i64 i ∧ Hid (Tg w wr w1.heap.size n a1 m1 c1 R aq (n + 1) cq (0 :: P))) (fun x _ => n + 1 - (intOf x).toNat)
  case atStart => exact ⟨0, by omega, rfl, T7⟩
  case round =>
    clear T7
    obtain ⟨i, hin1, rfl, T⟩ := hrel
    by_cases hlt : i < n + 1
    · have hii : (i : Int) ≤ (n : Int) := by omega
      obtain ⟨k0, k1⟩ := hcells.out _ T.out
      have hb1 := Lib.hid (hbd.out wr a1 c1 i j (by omega) hj T.out.s)
      obtain ⟨bq, oq, rfl, -⟩ := hqat.out _ i (by omega) T.out
      go_wp2_with fail
      refine hb1.out.mono ?_
      rintro e w8 ⟨rfl, b8⟩
      have T8 := Lib.hid (T.out.on b8)
      obtain ⟨b1, o1, he1, ei⟩ := hqat.out _ i (by omega) T8.out
      obtain ⟨b2, o2, he2, ej⟩ := hqat.out _ j hj T8.out
      injection he1 with he1
      injection he1 with u1 u2 _
      subst u1 u2
      injection he2 with he2
      injection he2 with u1 u2 _
      subst u1 u2
      have r1 := hin.out i j (by omega) hj
      have r2 := hin.out 0 j (by omega) hj
      have r3 := hz.out
      rw [r3] at ej
      clear b8 hb1 T k0 k1
      have htr := Lib.hid (fun k (hk : k ≤ n) => htri.out i k (by omega) hk)
      have hiq : (i : Int) < (n : Int) + 1 := by omega
      have hjq : (j : Int) < (n : Int) + 1 := by omega
      obtain ⟨xi, hxi⟩ : ∃ xi, xi = mat n R i j - mat n R 0 j := ⟨_, rfl⟩
      obtain ⟨xj, hxj⟩ : ∃ xj, xj = 0 - mat n R 0 j := ⟨_, rfl⟩
      have hx : mat n R i j = xi - xj := by omega
      rw [← hxi] at ei
      rw [← hxj] at ej
      rw [hx]
      have hw : IntKind.i64.wrap (xi - xj) = xi - xj := wrap_small (by omega) (by omega)
      have q1 : -9000000000000 ≤ xi ∧ xi ≤ 9000000000000 := by omega
      have q2 : -9000000000000 ≤ xj ∧ xj ≤ 9000000000000 := by omega
      have htr2 : Hid (∀ k, k ≤ n → ¬ mat n R i k + mat n R k j < xi - xj) := Lib.hid (fun k hk => by have := htr.out k hk; omega)
      clear hxi hxj hx r1 r2 r3 htr
      go_wp2
      go_quiet (fail)
      go_wp2
      go_loopw [15] (fun x wr => ∃ k : Nat, k ≤ n + 1 ∧ x = .int .i64 k ∧ Hid (Tg w wr w1.heap.size n a1 m1 c1 R (some ⟨bq, oq, none⟩) (n + 1) cq (0 :: P))) (fun x _ => n + 1 - (intOf x).toNat)
      case atStart => exact ⟨0, by omega, rfl, Lib.hid (T8.out.on (Below.drewN (Below.refl _ _) nq))⟩
      case round =>
        clear T8 ei ej
        obtain ⟨k, hkn, rfl, T⟩ := hrel
        by_cases hkt : k < n + 1
        · have hki : (k : Int) ≤ (n : Int) := by omega
          obtain ⟨k0, k1⟩ := hcells.out _ T.out
          have hb1 := Lib.hid (hbd.out wr a1 c1 i k (by omega) (by omega) T.out.s)
          go_wp2_with fail
          refine hb1.out.mono ?_
          rintro e w9 ⟨rfl, b9⟩
          have T9 := Lib.hid (T.out.on b9)
          clear b9 hb1 T k0 k1
          obtain ⟨k0, k1⟩ := hcells.out _ T9.out
          have hb2 := Lib.hid (hbd.out w9 a1 c1 k j (by omega) hj T9.out.s)
          go_wp2_with fail
          refine hb2.out.mono ?_
          rintro e w10 ⟨rfl, b10⟩
          have T10 := Lib.hid (T9.out.on b10)
          clear b10 hb2 T9 k0 k1
          have r1 := hin.out i k (by omega) (by omega)
          have r2 := hin.out k j (by omega) hj
          have hno := htr2.out k (by omega)
          generalize mat n R i k = x at *
          generalize mat n R k j = y at *
          have hwx : IntKind.i64.wrap (x + y) = x + y := wrap_small (by omega) (by omega)
          go_wp2
          go_roundw
          case rel => exact ⟨k + 1, by omega, by go_num, T10⟩
          case measure => simp [intOf]; omega
        · go_wp2
          go_roundw
          case rel => exact ⟨i + 1, by omega, by go_num, T⟩
          case measure => simp [intOf]; omega
    · go_wp2
      go_ret
      exact ⟨rfl, T.out.bl⟩
end Go.Proofs.Ytmfdkffekgodgaa
