/- wto: Heads, In. -/
import Derived.Test.YtpbminoefmpmpaaDoorWtoPlace
namespace Go.Proofs.YtpbminoefmpmpaaDoor
open Go.RowKit
set_option linter.unusedVariables false
set_option linter.unusedSimpArgs false

/-- The points at places. -/
def ptsL (P : List Int) (h : List Nat) : List Int := h.map fun k => P.getD k 0
theorem ptsL_len (P : List Int) (h : List Nat) : (ptsL P h).length = h.length := by simp [ptsL]
theorem ptsL_next (P : List Int) (h : List Nat) (j : Nat) (hj : j < h.length) : (ptsL P h).take (j + 1) = (ptsL P h).take j ++ [P.getD (h.getD j 0) 0] := by
  rw [List.take_succ_eq_append_getElem (by rw [ptsL_len]; exact hj)]
  simp [ptsL, List.getD, hj]
/-- What Heads has found of the entries ahead of k: its own blocks, and what was handed over. -/
structure InvH (P S : List Int) (p : Nat) (gp gm gw : Nat) (z : Array Value) (a1 : Option Addr) (B : Nat) (k : Nat) (q : Option Nat) (w : World) : Prop where
  place : Holds w gp 3 #[.int .i64 p]
  box : Holds w gw 24 z
  pts : SeesE [gm] .i64 B w a1 P
  low : B ≤ w.heap.size
  early : k ≤ p → Holds w gm 22 #[.slice none 0 0]
  late : p < k → ∃ a n c, Holds w gm 22 #[.slice a n c] ∧ n = (hds S p).length ∧ n ≤ c ∧ n ≤ 9223372036854775807 ∧ SeesE q.toList .i64 w.heap.size w a (ptsL P (hds S p))
theorem invH_scan {P S : List Int} {p gp gm gw : Nat} {z : Array Value} {a1 : Option Addr} {w : World} (h1 : gp < w.heap.size) (h2 : gm < w.heap.size) (h3 : gw < w.heap.size) : ScanH (InvH P S p gp gm gw z a1 w.heap.size) [gm] w :=
  ⟨by simpa using h2, fun k q q' W W' h hb hq hl hw => by
    have out : ∀ g, g < w.heap.size → g ∉ q.toList := fun g hg hx => by
      have := (hl g (by simpa using hx)).1
      omega
    have keep : ∀ {g t cs}, Holds W g t cs → g < w.heap.size → Holds W' g t cs := fun hh hg => hh.belowE hb hh.lt (out _ hg)
    refine ⟨keep h.place h1, keep h.box h3, ?_, Nat.le_trans h.low hb.size, fun hk => keep (h.early hk) h2, fun hk => ?_⟩
    · rcases h.pts with e | ⟨b, off, e, hB, hx, hc⟩
      · exact .inl e
      · exact .inr ⟨b, off, e, hB, hx, fun i hi => (hb.cell (p := ⟨b, off + i, none⟩) (by show b < _; omega) (out b hB)).trans (hc i hi)⟩
    · obtain ⟨a, n, c, e1, e2, e3, e4, e5⟩ := h.late hk
      refine ⟨a, n, c, keep e1 h2, e2, e3, e4, ?_⟩
      have s := e5.belowE hb
      rcases hq with rfl | rfl
      · exact s.mono hb.size
      · exact (s.fewer (Y := (some W.heap.size).toList) (fun y hy hlt => by
          have : y = W.heap.size := by simpa using hy
          omega)).mono hb.size⟩
/-- One more point behind what was found. -/
theorem heads_step {w wr V w1 : World} {gm m cv : Nat} {av : Option Addr} {xs : List Int} {y : Int} {v' : Value} (M : Holds wr gm 22 #[.slice av m cv]) (O : wr.ownsRow w.heap.size 3 1 (.slice av m cv) m (nums .i64 xs)) (BE : BelowE [gm] w.heap.size w wr) (hgm : gm < w.heap.size) (hV : Below wr.heap.size wr V)
    (own1 : w1.ownsRow 0 3 1 v' (xs ++ [y]).length (nums .i64 (xs ++ [y]))) (grow1 : V.grownBy w1 (Value.slice av m cv).ownBlock) (blk1 : v'.ownBlock = (Value.slice av m cv).ownBlock ∨ v'.ownBlock = some V.heap.size) :
    ∃ a' c', v' = .slice a' (m + 1) c' ∧ Holds (w1.setCell ⟨gm, 0, none⟩ v') gm 22 #[v'] ∧ (w1.setCell ⟨gm, 0, none⟩ v').ownsRow w.heap.size 3 1 v' (m + 1) (nums .i64 (xs ++ [y])) ∧ BelowE [gm] w.heap.size w (w1.setCell ⟨gm, 0, none⟩ v') ∧ Holds w1 gm 22 #[.slice av m cv] := by
  have hm : m = xs.length := by have := O.1; simp [nums] at this; omega
  have hlen : (xs ++ [y]).length = m + 1 := by simp [hm]
  rw [hlen] at own1
  have hne : ∀ b, (Value.slice av m cv).ownBlock = some b → w.heap.size ≤ b ∧ b < wr.heap.size := fun b hb => O.lt b hb
  have M1 : Holds w1 gm 22 #[.slice av m cv] := (grow1.block gm (by have := M.lt; have := hV.size; omega) (fun e => by have := (hne gm e.symm).1; omega)).trans (M.below hV M.lt)
  have own2 : w1.ownsRow w.heap.size 3 1 v' (m + 1) (nums .i64 (xs ++ [y])) := own_from own1 (fun b hb => by
    rcases blk1 with e | e
    · rw [e] at hb; exact (hne b hb).1
    · rw [e] at hb; obtain rfl := Option.some.inj hb; exact Nat.le_trans BE.size hV.size)
  obtain ⟨a', c', e, -, -⟩ := sees_own (l := xs ++ [y]) own2
  rw [hlen] at e
  refine ⟨a', c', e, ?_, ?_, ?_, M1⟩
  · have := M1.set 0 v'
    simpa using this
  · exact own_belowE own2 ((BelowE.refl [gm] _ _).setIn (p := ⟨gm, 0, none⟩) (by simp) _) (fun b hb hx => by
      have : b = gm := by simpa using hx
      have := (own2.lt b hb).1
      omega)
  · refine BelowE.setIn ?_ (p := ⟨gm, 0, none⟩) (by simp) _
    have h1 : BelowE [gm] w.heap.size w V := BE.trans ((BelowE.of hV).mono BE.size)
    exact h1.grown grow1 (Nat.le_trans BE.size hV.size) (fun b hb hlt => by have := (hne b hb).1; omega)
set_option maxRecDepth 100000 in
set_option maxHeartbeats 4000000 in
theorem clo_heads (P S : List Int) (p gp gm gw : Nat) (a1 a2 : Option Addr) (n1 c1 n2 c2 B k n c : Nat) (a : Option Addr) (w : World) (h : InvH P S p gp gm gw #[.slice a1 n1 c1, .slice a2 n2 c2] a1 B k (Value.slice a n c).ownBlock w)
    (hlen : n1 = P.length) (hS : P.length = S.length) (hk : k < S.length) (h128 : S.length ≤ 128) (hB : gp < B ∧ gm < B ∧ gw < B) (hne : gp ≠ gm ∧ gw ≠ gm) (hB2 : B < w.heap.size) (ho : w.ownsRow B 3 1 (.slice a n c) n (nums .i64 (intsN (hds S k)))) :
    Calls Tryd.prog 28 #[.int .i64 k, .slice a n c, .pointer (some ⟨gp, 0, none⟩), .pointer (some ⟨gm, 0, none⟩), .pointer (some ⟨gw, 0, none⟩)] w (CloS (InvH P S p gp gm gw #[.slice a1 n1 c1, .slice a2 n2 c2] a1 B) [gm] k (Value.slice a n c).ownBlock w) := by
  have kp := h.place.cell 0
  by_cases hkp : k = p
  case neg =>
    have e1 : ((k : Int) != (p : Int)) = true := by simp; omega
    have hfin : Hid (CloS (InvH P S p gp gm gw #[.slice a1 n1 c1, .slice a2 n2 c2] a1 B) [gm] k (Value.slice a n c).ownBlock w (.returned (.tuple #[])) w) :=
      Lib.hid ⟨rfl, ⟨h.place, h.box, h.pts, h.low, fun hh => h.early (by omega), fun hh => h.late (by omega)⟩, BelowE.refl _ _ _⟩
    clear h ho hkp hlen hS
    go_enter Tryd.func28, Tryd.ntmps28
    go_wp2
    go_end0
    exact hfin.out
  subst hkp
  have hn : n = (hds S k).length := by have := ho.1; simp [nums, intsN] at this; omega
  have hsl : Hid (SeesE [gm] .i64 w.heap.size w a (intsN (hds S k))) := Lib.hid (by
    obtain ⟨a', c', e, -, s⟩ := sees_own ho
    injection e with e1
    subst e1
    rcases s with s | ⟨b, off, rfl, hb, hc⟩
    · exact .inl s
    · refine .inr ⟨b, off, rfl, hb, ?_, hc⟩
      have := (ho.lt b rfl).1
      simp; omega)
  have hn' := Lib.hid hn
  have hcap : n ≤ 129 := by have := hds_le S k; omega
  have hni : (n : Int) ≤ 129 := by omega
  have H := Lib.hid h
  have M0 := Lib.hid (h.early (Nat.le_refl _))
  have hmem : Hid (∀ j, j < n → (hds S k).getD j 0 < P.length) := Lib.hid (fun j hj => by
    have : (hds S k).getD j 0 ∈ hds S k := by rw [show (hds S k).getD j 0 = (hds S k)[j]'(by omega) by simp [List.getD, show j < (hds S k).length by omega]]; exact List.getElem_mem _
    have := (mem_hds.1 this).1
    omega)
  have hat : Hid (∀ j, j < n → (intsN (hds S k)).getD j 0 = (((hds S k).getD j 0 : Nat) : Int)) := Lib.hid (fun j hj => intsN_at _ _ (by omega))
  have hnx : Hid (∀ j, j < n → (ptsL P (hds S k)).take (j + 1) = (ptsL P (hds S k)).take j ++ [P.getD ((hds S k).getD j 0) 0]) := Lib.hid (fun j hj => ptsL_next P _ j (by omega))
  have hplen : Hid ((ptsL P (hds S k)).length = n) := Lib.hid (by rw [ptsL_len, ← hn])
  have hil : Hid ((intsN (hds S k)).length = n) := Lib.hid (by rw [intsN_len, ← hn])
  have hl1 := Lib.hid hlen
  have hwz := Lib.hid hB2
  obtain ⟨i0, hi, hz0, hz1, hz2⟩ := info_parts infoInt
  have hend : Hid (∀ (W : World) (av : Option Addr) (cv : Nat), Holds W gm 22 #[.slice av n cv] → W.ownsRow w.heap.size 3 1 (.slice av n cv) n (nums .i64 (ptsL P (hds S k))) → BelowE [gm] w.heap.size w W → CloS (InvH P S k gp gm gw #[.slice a1 n1 c1, .slice a2 n2 c2] a1 B) [gm] k (Value.slice a n c).ownBlock w (.returned (.tuple #[])) W) := Lib.hid (fun W av cv q1 q2 q3 => by
    refine ⟨rfl, ⟨h.place.belowE q3 h.place.lt (by simpa using hne.1), h.box.belowE q3 h.box.lt (by simpa using hne.2), ?_, Nat.le_trans h.low q3.size, fun hh => by omega, fun _ => ⟨av, n, cv, q1, hn, own_cap q2, by omega, ?_⟩⟩, q3⟩
    · rcases h.pts with e | ⟨b, off, e, hb, hx, hc⟩
      · exact .inl e
      · exact .inr ⟨b, off, e, hb, hx, fun i hi => (q3.cell (p := ⟨b, off + i, none⟩) (by show b < _; omega) hx).trans (hc i hi)⟩
    · obtain ⟨a', c', e, -, s⟩ := sees_own q2
      injection e with e1
      subst e1
      rcases s with s | ⟨b, off, rfl, hb, hc⟩
      · exact .inl s
      · refine .inr ⟨b, off, rfl, hb, fun hx => ?_, hc⟩
        have l1 := (q2.lt b rfl).1
        have l2 := (ho.lt b (by simpa using hx)).2
        omega)
  clear h ho hlen hn hB2
  go_enter Tryd.func28, Tryd.ntmps28
  go_wp2
  go_loopw [14] (fun x wr => ∃ (j : Nat) (av : Option Addr) (m cv : Nat), j ≤ n ∧ m = j ∧ x = .int .i64 j ∧ Hid (Holds wr gm 22 #[.slice av m cv]) ∧ Hid (wr.ownsRow w.heap.size 3 1 (.slice av m cv) m (nums .i64 ((ptsL P (hds S k)).take j))) ∧ Hid (BelowE [gm] w.heap.size w wr)) (fun x _ => n - (intOf x).toNat)
  case atStart => exact ⟨0, none, 0, 0, by omega, rfl, rfl, M0, Lib.hid (World.ownsRow_nil _ _ _ _), Lib.hid (BelowE.refl _ _ _)⟩
  case round =>
    obtain ⟨j, av, m, cv, hj, rfl, rfl, M, O, BE⟩ := hrel
    clear M0
    by_cases hlt : m < n
    · have hji : (m : Int) < (n : Int) := by omega
      have hm1 := hmem.out m hlt
      have ha1 := hat.out m hlt
      have hnext := Lib.hid (hnx.out m hlt)
      obtain ⟨b1, o1, rfl, -, e1⟩ := sees_num (hsl.out.belowE BE.out).sees (i := m) (by rw [hil.out]; exact hlt)
      rw [ha1] at e1
      have hpe : SeesE [gm] .i64 w.heap.size wr a1 P := by
        rcases H.out.pts with e | ⟨b, off, e, hb, hx, hc⟩
        · exact .inl e
        · exact .inr ⟨b, off, e, by have := hwz.out; omega, hx, fun i hi => (BE.out.cell (p := ⟨b, off + i, none⟩) (by have := hwz.out; show b < _; omega) hx).trans (hc i hi)⟩
      have hpE := Lib.hid hpe
      obtain ⟨b2, o2, rfl, b2lt, e2⟩ := sees_num hpe.sees hm1
      have b2x : b2 ≠ gm := by
        rcases hpe with e | ⟨b, off, e, hb, hx, hc⟩
        · rw [e] at hm1; cases hm1
        · injection e with e; injection e with e; subst e; simpa using hx
      have hgx : (((hds S k).getD m 0 : Nat) : Int) < (n1 : Int) := by have := hl1.out; omega
      generalize (hds S k).getD m 0 = g at *
      generalize P.getD g 0 = y at *
      have kw := (H.out.box.belowE BE.out H.out.box.lt (by simpa using hne.2)).cell 0
      have km := M.out.cell 0
      have fm := M.out.free 0
      have gmlt := M.out.lt
      have gwlt := (H.out.box.belowE BE.out H.out.box.lt (by simpa using hne.2)).lt
      have b2lt' : b2 < wr.heap.size := Nat.lt_of_lt_of_le b2lt BE.out.size
      have hlb : Hid (((ptsL P (hds S k)).take m).length = m) := Lib.hid (by rw [List.length_take, hplen.out]; omega)
      have gmw : Hid (gm < w.heap.size) := Lib.hid (by have := hwz.out; omega)
      have hbl := Lib.hid (fun b (hb : (Value.slice av m cv).ownBlock = some b) => O.out.lt b hb)
      have hF : ∀ x, x ∈ gm :: (Value.slice av m cv).ownBlock.toList → x = gm ∨ w.heap.size ≤ x := fun x hx => by
        rcases List.mem_cons.1 hx with h | h
        · exact .inl h
        · exact .inr (hbl.out x (by simpa using h)).1
      have hgw : ∀ W, BelowE (gm :: (Value.slice av m cv).ownBlock.toList) wr.heap.size wr W → W.cell? ⟨gw, 0, none⟩ = some (.slice (some ⟨b2, o2, none⟩) n1 c1) := fun W hW => by
        rw [hW.cell (p := ⟨gw, 0, none⟩) gwlt (fun hx => by rcases hF gw hx with h | h; exact hne.2 h; have := hwz.out; omega)]
        exact kw
      have hPc : ∀ W, BelowE (gm :: (Value.slice av m cv).ownBlock.toList) wr.heap.size wr W → W.cell? ⟨b2, o2 + g, none⟩ = some (.int .i64 y) := fun W hW => by
        rw [hW.cell (p := ⟨b2, o2 + g, none⟩) b2lt' (fun hx => by rcases hF b2 hx with h | h; exact b2x h; omega)]
        exact e2
      have hg0 : (0 : Int) ≤ (g : Int) := by omega
      have hF' := Lib.hid hF
      have hne' := Lib.hid hne
      have hB' := Lib.hid hB
      clear hm1 ha1 hpe hF hne hB
      go_wp2
      refine wp_drawn_on (fun W' => BelowE (gm :: (Value.slice av m cv).ownBlock.toList) wr.heap.size wr W') (by kernel_rfl) ((BelowE.refl _ _ _).drew) (fun hHeld => ?_)
      refine wpAnyH_take (i := 1) (oi := { dst := some 19, op := Go.Op.fieldAddr 24 (Go.Operand.tmp 4) 0, type := 0, pos := "wto.go:94", after := #[], guard := none }) (v := ?v1) rfl (by kernel_rfl) (by kernel_rfl) (by kernel_rfl) (fun _ _ _ h => h) (Or.inl ⟨by kernel_rfl, ?h1⟩) (by assumption) ?r1
      case h1 => (intro w hSw; (try dsimp only at hSw); go_simp; try with_reducible rfl)
      try simp only [Act.put, List.setIfInBounds_toArray, List.set_cons_zero, List.set_cons_succ]
      refine wpAnyH_take (i := 2) (oi := { dst := some 20, op := Go.Op.load 22 (Go.Operand.tmp 19), type := 22, pos := "wto.go:94", after := #[{ on := 1, ground := Go.Ground.data }], guard := none }) (v := ?v2) rfl (by kernel_rfl) (by kernel_rfl) (by kernel_rfl) (fun _ _ _ h => h) (Or.inl ⟨by kernel_rfl, ?h2⟩) (by assumption) ?r2
      case h2 => (intro w hSw; (try dsimp only at hSw); go_simp; try with_reducible rfl)
      try simp only [Act.put, List.setIfInBounds_toArray, List.set_cons_zero, List.set_cons_succ]
      refine wpAnyH_take (i := 3) (oi := { dst := some 21, op := Go.Op.move (Go.Operand.tmp 8), type := 3, pos := "wto.go:94", after := #[], guard := none }) (v := ?v3) rfl (by kernel_rfl) (by kernel_rfl) (by kernel_rfl) (fun _ _ _ h => h) (Or.inl ⟨by kernel_rfl, ?h3⟩) (by assumption) ?r3
      case h3 => (intro w hSw; (try dsimp only at hSw); go_simp; try with_reducible rfl)
      try simp only [Act.put, List.setIfInBounds_toArray, List.set_cons_zero, List.set_cons_succ]
      refine wpAnyH_take (i := 4) (oi := { dst := some 22, op := Go.Op.indexAddr 22 (Go.Operand.tmp 20) (Go.Operand.tmp 21), type := 0, pos := "wto.go:94", after := #[{ on := 2, ground := Go.Ground.data }, { on := 3, ground := Go.Ground.data }], guard := none }) (v := ?v4) rfl (by kernel_rfl) (by kernel_rfl) (by kernel_rfl) (fun _ _ _ h => h) (Or.inl ⟨by kernel_rfl, ?h4⟩) (by assumption) ?r4
      case h4 => (intro w hSw; (try dsimp only at hSw); go_simp; try with_reducible rfl)
      try simp only [Act.put, List.setIfInBounds_toArray, List.set_cons_zero, List.set_cons_succ]
      refine wpAnyH_take (i := 5) (oi := { dst := some 23, op := Go.Op.load 3 (Go.Operand.tmp 22), type := 3, pos := "wto.go:94", after := #[{ on := 4, ground := Go.Ground.data }], guard := none }) (v := ?v5) rfl (by kernel_rfl) (by kernel_rfl) (by kernel_rfl) (fun _ _ _ h => h) (Or.inl ⟨by kernel_rfl, ?h5⟩) (by assumption) ?r5
      case h5 => (intro w hSw; (try dsimp only at hSw); go_simp; try with_reducible rfl)
      try simp only [Act.put, List.setIfInBounds_toArray, List.set_cons_zero, List.set_cons_succ]
      refine wpAnyH_ready (rs := [0, 6]) (by kernel_rfl) (by simp) ?_
      refine AllReadyH.cons (o := { dst := some 18, op := Go.Op.load 22 (Go.Operand.tmp 3), type := 22, pos := "wto.go:94", after := #[], guard := none }) rfl (fun K hK => ?_) (AllReadyH.cons (o := { dst := some 24, op := Go.Op.buildSlice 22 1 #[(0, Go.Operand.tmp 23)], type := 22, pos := "wto.go:94", after := #[{ on := 5, ground := Go.Ground.data }], guard := none }) rfl (fun K hK => ?_) AllReadyH.nil)
      · go_simp
        refine hK.out _ _ (hHeld) (fun hHeld => ?_)
        clear hK K
        try simp only [Act.put, List.setIfInBounds_toArray, List.set_cons_zero, List.set_cons_succ]
        refine wpAnyH_ready (rs := [6]) (by kernel_rfl) (by simp) ?_
        refine AllReadyH.cons (o := { dst := some 24, op := Go.Op.buildSlice 22 1 #[(0, Go.Operand.tmp 23)], type := 22, pos := "wto.go:94", after := #[{ on := 5, ground := Go.Ground.data }], guard := none }) rfl (fun K hK => ?_) AllReadyH.nil
        go_simp
        refine hK.out _ _ (hHeld.alloc hHeld.size _) (fun hHeld => ?_)
        clear hK K
        try simp only [Act.put, List.setIfInBounds_toArray, List.set_cons_zero, List.set_cons_succ]
        refine wpAnyH_ready (rs := [7]) (by kernel_rfl) (by simp) ?_
        refine AllReadyH.cons (o := { dst := some 25, op := Go.Op.call { callee := Go.Callee.builtin Go.Builtin.append, args := #[Go.Operand.tmp 18, Go.Operand.tmp 24], argTypes := #[22, 22] }, type := 22, pos := "wto.go:94", after := #[{ on := 0, ground := Go.Ground.data }, { on := 6, ground := Go.Ground.data }], guard := none }) rfl (fun K hK => ?_) AllReadyH.nil
        refine wp_append_foot _ (.tmp 18) (.tmp 24) 22 rfl 3 i0 (.int .i64 0) 8 Tryd.underlying22 hi hz0 hz1 hz2 rfl .i64 (.slice av m cv) ((ptsL P (hds S k)).take m) (by rw [hlb.out]; exact own_zero (own_below (w' := (wr.alloc (.cells #[.int .i64 y] 3)).drew) O.out (Below.drewN (box_below wr #[.int .i64 y] 3) 1))) _ _ [y] (sees_new .i64 wr 3 [y] _ rfl) 1 1 rfl rfl rfl (by rw [hlb.out]; unfold maxLen; simp only [List.length_singleton]; omega) (by rw [hlb.out]; simp only [List.length_singleton]; omega) ?_
        intro v' w1 own1 grow1 blk1
        have hV : Below wr.heap.size wr ((wr.alloc (.cells #[.int .i64 y] 3)).drew) := Below.drewN (box_below wr #[.int .i64 y] 3) 1
        obtain ⟨a', c', rfl, M2, O2, B2, M1⟩ := heads_step M.out O.out BE.out gmw.out hV own1 grow1 blk1
        have hg2 : BelowE (gm :: (Value.slice av m cv).ownBlock.toList) wr.heap.size wr w1 := hHeld.grown grow1 hHeld.size (fun b hb _ => by rw [hb]; simp)
        have gN := M1.cell 0
        have gf := M1.free 0
        simp at gN
        have M3 := Lib.hid M2
        have O3 := Lib.hid O2
        have B3 := Lib.hid B2
        rw [← hnext.out] at O3
        clear own1 grow1 blk1 M2 O2 B2 M1 hV
        refine hK.out _ _ (hg2) (fun hHeld => ?_)
        clear hK K
        try simp only [Act.put, List.setIfInBounds_toArray, List.set_cons_zero, List.set_cons_succ]
        refine wpAnyH_ready (rs := [8]) (by kernel_rfl) (by simp) ?_
        refine AllReadyH.cons (o := { dst := none, op := Go.Op.store 22 (Go.Operand.tmp 3) (Go.Operand.tmp 25), type := 0, pos := "wto.go:94", after := #[{ on := 7, ground := Go.Ground.data }, { on := 7, ground := Go.Ground.chain }, { on := 0, ground := Go.Ground.phase }, { on := 1, ground := Go.Ground.phase }, { on := 2, ground := Go.Ground.phase }, { on := 3, ground := Go.Ground.phase }, { on := 4, ground := Go.Ground.phase }, { on := 5, ground := Go.Ground.phase }, { on := 6, ground := Go.Ground.phase }, { on := 7, ground := Go.Ground.phase }], guard := none }) rfl (fun K hK => ?_) AllReadyH.nil
        go_simp
        refine hK.out _ _ (hg2.setIn (p := ⟨gm, 0, none⟩) (by simp) _) (fun hHeld => ?_)
        clear hK K
        try simp only [Act.put, List.setIfInBounds_toArray, List.set_cons_zero, List.set_cons_succ]
        refine wpAnyH_done (by kernel_rfl) ?_ _
        go_wp2
        go_roundw
        case rel => exact ⟨m + 1, a', m + 1, c', by omega, rfl, by go_num, M3, O3, B3⟩
        case measure => simp [intOf]; omega
      · go_simp
        refine hK.out _ _ (hHeld.alloc hHeld.size _) (fun hHeld => ?_)
        clear hK K
        try simp only [Act.put, List.setIfInBounds_toArray, List.set_cons_zero, List.set_cons_succ]
        refine wpAnyH_ready (rs := [0]) (by kernel_rfl) (by simp) ?_
        refine AllReadyH.cons (o := { dst := some 18, op := Go.Op.load 22 (Go.Operand.tmp 3), type := 22, pos := "wto.go:94", after := #[], guard := none }) rfl (fun K hK => ?_) AllReadyH.nil
        go_simp
        refine hK.out _ _ (hHeld) (fun hHeld => ?_)
        clear hK K
        try simp only [Act.put, List.setIfInBounds_toArray, List.set_cons_zero, List.set_cons_succ]
        refine wpAnyH_ready (rs := [7]) (by kernel_rfl) (by simp) ?_
        refine AllReadyH.cons (o := { dst := some 25, op := Go.Op.call { callee := Go.Callee.builtin Go.Builtin.append, args := #[Go.Operand.tmp 18, Go.Operand.tmp 24], argTypes := #[22, 22] }, type := 22, pos := "wto.go:94", after := #[{ on := 0, ground := Go.Ground.data }, { on := 6, ground := Go.Ground.data }], guard := none }) rfl (fun K hK => ?_) AllReadyH.nil
        refine wp_append_foot _ (.tmp 18) (.tmp 24) 22 rfl 3 i0 (.int .i64 0) 8 Tryd.underlying22 hi hz0 hz1 hz2 rfl .i64 (.slice av m cv) ((ptsL P (hds S k)).take m) (by rw [hlb.out]; exact own_zero (own_below (w' := (wr.alloc (.cells #[.int .i64 y] 3)).drew) O.out (Below.drewN (box_below wr #[.int .i64 y] 3) 1))) _ _ [y] (sees_new .i64 wr 3 [y] _ rfl) 1 1 rfl rfl rfl (by rw [hlb.out]; unfold maxLen; simp only [List.length_singleton]; omega) (by rw [hlb.out]; simp only [List.length_singleton]; omega) ?_
        intro v' w1 own1 grow1 blk1
        have hV : Below wr.heap.size wr ((wr.alloc (.cells #[.int .i64 y] 3)).drew) := Below.drewN (box_below wr #[.int .i64 y] 3) 1
        obtain ⟨a', c', rfl, M2, O2, B2, M1⟩ := heads_step M.out O.out BE.out gmw.out hV own1 grow1 blk1
        have hg2 : BelowE (gm :: (Value.slice av m cv).ownBlock.toList) wr.heap.size wr w1 := hHeld.grown grow1 hHeld.size (fun b hb _ => by rw [hb]; simp)
        have gN := M1.cell 0
        have gf := M1.free 0
        simp at gN
        have M3 := Lib.hid M2
        have O3 := Lib.hid O2
        have B3 := Lib.hid B2
        rw [← hnext.out] at O3
        clear own1 grow1 blk1 M2 O2 B2 M1 hV
        refine hK.out _ _ (hg2) (fun hHeld => ?_)
        clear hK K
        try simp only [Act.put, List.setIfInBounds_toArray, List.set_cons_zero, List.set_cons_succ]
        refine wpAnyH_ready (rs := [8]) (by kernel_rfl) (by simp) ?_
        refine AllReadyH.cons (o := { dst := none, op := Go.Op.store 22 (Go.Operand.tmp 3) (Go.Operand.tmp 25), type := 0, pos := "wto.go:94", after := #[{ on := 7, ground := Go.Ground.data }, { on := 7, ground := Go.Ground.chain }, { on := 0, ground := Go.Ground.phase }, { on := 1, ground := Go.Ground.phase }, { on := 2, ground := Go.Ground.phase }, { on := 3, ground := Go.Ground.phase }, { on := 4, ground := Go.Ground.phase }, { on := 5, ground := Go.Ground.phase }, { on := 6, ground := Go.Ground.phase }, { on := 7, ground := Go.Ground.phase }], guard := none }) rfl (fun K hK => ?_) AllReadyH.nil
        go_simp
        refine hK.out _ _ (hg2.setIn (p := ⟨gm, 0, none⟩) (by simp) _) (fun hHeld => ?_)
        clear hK K
        try simp only [Act.put, List.setIfInBounds_toArray, List.set_cons_zero, List.set_cons_succ]
        refine wpAnyH_done (by kernel_rfl) ?_ _
        go_wp2
        go_roundw
        case rel => exact ⟨m + 1, a', m + 1, c', by omega, rfl, by go_num, M3, O3, B3⟩
        case measure => simp [intOf]; omega
    · obtain rfl : m = n := by omega
      have hfin := Lib.hid (hend.out wr av cv M.out (by have := O.out; rwa [List.take_of_length_le (by rw [hplen.out]; exact Nat.le_refl _)] at this) BE.out)
      clear M O BE hend
      go_wp2
      go_end0
      exact hfin.out

/-- What hands back a slice of its own that reads as l. -/
def SlE (l : List Int) (w : World) (e : Ending) (w' : World) : Prop := ∃ a n c, e = .returned (.slice a n c) ∧ SL w' a n c l ∧ Below w.heap.size w w'
set_option maxRecDepth 100000 in
set_option maxHeartbeats 4000000 in
theorem heads_any (a1 a2 : Option Addr) (n1 c1 n2 c2 : Nat) (P S : List Int) (p : Int) (w : World) (h : WA w a1 n1 c1 P a2 n2 c2 S) :
    Calls Tryd.prog 14 #[.agg #[.slice a1 n1 c1, .slice a2 n2 c2], .int .i64 p] w (SlE (headsW P S p) w) := by
  obtain ⟨W1, hW1⟩ : ∃ W1, W1 = w.alloc (.cells #[.slice a1 n1 c1, .slice a2 n2 c2] 24) := ⟨_, rfl⟩
  have hB1 := Lib.hid (show Below w.heap.size w W1 by rw [hW1]; exact box_below w _ _)
  have Z := Lib.hid (show Holds W1 w.heap.size 24 #[.slice a1 n1 c1, .slice a2 n2 c2] by rw [hW1]; exact Holds.new w _ _)
  have hW1' := Lib.hid hW1
  have H := Lib.hid h
  have q1 := Lib.hid (place_any a1 a2 n1 c1 n2 c2 P S p W1 (h.below hB1.out))
  clear h hW1
  go_enter Tryd.func14, Tryd.ntmps14
  go_wp2_with fail
  rw [← hW1'.out]
  with_reducible refine q1.out.mono ?_
  rintro e w2 ⟨rfl, b2⟩
  clear q1 hW1'
  have Z2 := Lib.hid (Z.out.below b2 Z.out.lt)
  have B2 := Lib.hid (hB1.out.trans (b2.mono hB1.out.size))
  clear b2 Z hB1
  by_cases hc : chkW P S = 0 ∧ p ∈ P
  case neg =>
    have hr : Hid (headsW P S p = []) := Lib.hid (if_neg hc)
    have e1 : placeB P S p = false := decide_eq_false hc
    rw [e1]
    have hfin : Hid (∀ m : Nat, SlE (headsW P S p) w (.returned (.slice none 0 0)) (w2.alloc (.cells #[.int .i64 m] 3))) := Lib.hid (fun m => ⟨none, 0, 0, rfl, by rw [hr.out]; exact SL.nil _, B2.out.trans ((box_below _ _ _).mono B2.out.size)⟩)
    clear hc e1
    generalize placeN P S p = m at *
    go_wp2
    go_ret
    exact hfin.out m
  have O := chk_ok.1 hc.1
  have hi := idx_some hc.2
  have e1 : placeB P S p = true := decide_eq_true hc
  have e2 : placeN P S p = posW P p := if_pos hc
  have hr : Hid (headsW P S p = ptsL P (hds S (posW P p))) := Lib.hid (if_pos hc)
  rw [e1, e2]
  generalize posW P p = m at *
  obtain ⟨W3, hW3⟩ : ∃ W3, W3 = (w2.alloc (.cells #[.int .i64 m] 3)).alloc (.cells #[.slice none 0 0] 22) := ⟨_, rfl⟩
  have b3 : Below w2.heap.size w2 W3 := by rw [hW3]; exact (box_below _ _ _).alloc (by simp) _
  have Zp := Lib.hid (show Holds W3 w2.heap.size 3 #[.int .i64 m] by rw [hW3]; exact (Holds.new w2 _ _).alloc _)
  have Zm := Lib.hid (show Holds W3 (w2.heap.size + 1) 22 #[.slice none 0 0] by rw [hW3]; have q := Holds.new (w2.alloc (.cells #[.int .i64 m] 3)) 22 #[.slice none 0 0]; simpa using q)
  have Zw := Lib.hid (Z2.out.below b3 Z2.out.lt)
  have B3 := Lib.hid (B2.out.trans (b3.mono B2.out.size))
  have hw2 : w.heap.size < w2.heap.size := Z2.out.lt
  have hs := H.out.s
  have hp := H.out.p
  have hx : ∀ x ∈ [w2.heap.size + 1], w.heap.size ≤ x := by simp; omega
  have hinv : InvH P S m w2.heap.size (w2.heap.size + 1) w.heap.size #[.slice a1 n1 c1, .slice a2 n2 c2] a1 W3.heap.size 0 none W3 :=
    ⟨Zp.out, Zw.out, hp.seesE B3.out hx, Nat.le_refl _, fun _ => Zm.out, fun hh => by omega⟩
  have l1 := Zp.out.lt
  have l2 := Zm.out.lt
  have l3 := Zw.out.lt
  have hq := Lib.hid (scan_heads w2.heap.size (w2.heap.size + 1) w.heap.size a1 a2 n1 c1 n2 c2 S (InvH P S m w2.heap.size (w2.heap.size + 1) w.heap.size #[.slice a1 n1 c1, .slice a2 n2 c2] a1 W3.heap.size) [w2.heap.size + 1] W3 hs.len (by rw [hs.len]; exact O.few) hs.cap (hs.seesE B3.out hx) (invH_scan l1 l2 l3) hinv (fun k W a n c hk hii hw ho => clo_heads P S m _ _ _ a1 a2 n1 c1 n2 c2 W3.heap.size k n c a W hii hp.len O.len hk O.few ⟨l1, l2, l3⟩ ⟨by omega, by omega⟩ hw ho))
  have hyes := Lib.hid (nest_yes O.nest)
  have hml : Hid (m < S.length) := Lib.hid (by rw [← O.len]; exact hi.2.1)
  have hx' := Lib.hid hx
  have hW3' := Lib.hid hW3
  have k1 := Zw.out.cell 0
  have k2 := Zw.out.cell 1
  clear hi e1 e2 O hc hs hp hinv l1 l2 l3 hx H b3
  have k3 := Z2.out.cell 0
  have k4 := Z2.out.cell 1
  go_wp2_with fail
  rw [← hW3]
  clear hW3
  with_reducible refine hq.out.mono ?_
  rintro e w4 ⟨rfl, b4, i4⟩
  obtain ⟨q, I⟩ := i4 hyes.out
  obtain ⟨a, n, c, M4, e4, e5, e6, s4⟩ := I.late hml.out
  have km := M4.cell 0
  have hfin : Hid (SlE (headsW P S p) w (.returned (.slice a n c)) w4) := Lib.hid ⟨a, n, c, rfl, ⟨by rw [hr.out, ptsL_len]; exact e4, e5, e6, by rw [hr.out]; exact s4.sees⟩, belowE_new B3.out b4 hx'.out⟩
  clear hq i4 b4 I M4 e4 e5 e6 s4 k1 k2 k3 k4
  go_wp2
  go_ret
  exact hfin.out
theorem in_any (a1 a2 : Option Addr) (n1 c1 n2 c2 : Nat) (P S : List Int) (hd p : Int) (w : World) (h : WA w a1 n1 c1 P a2 n2 c2 S) :
    Calls Tryd.prog 17 #[.agg #[.slice a1 n1 c1, .slice a2 n2 c2], .int .i64 hd, .int .i64 p] w (Gives (.bool (decide (hd ∈ headsW P S p))) w) := by
  obtain ⟨W1, hW1⟩ : ∃ W1, W1 = w.alloc (.cells #[.slice a1 n1 c1, .slice a2 n2 c2] 24) := ⟨_, rfl⟩
  have hB1 := Lib.hid (show Below w.heap.size w W1 by rw [hW1]; exact box_below w _ _)
  have hW1' := Lib.hid hW1
  have q1 := Lib.hid (heads_any a1 a2 n1 c1 n2 c2 P S p W1 (h.below hB1.out))
  clear h hW1
  generalize headsW P S p = L at *
  go_enter Tryd.func17, Tryd.ntmps17
  go_wp2_with fail
  rw [← hW1'.out]
  with_reducible refine q1.out.mono ?_
  rintro e w2 ⟨a, n, c, rfl, s2, b2⟩
  have B2 := Lib.hid (hB1.out.trans (b2.mono hB1.out.size))
  have q2 := Lib.hid (contains_int a n c L hd w2 s2)
  rw [show L.contains hd = decide (hd ∈ L) by simp] at q2
  generalize decide (hd ∈ L) = d at *
  clear q1 hW1' s2 b2 hB1
  go_wp2_with fail
  with_reducible refine q2.out.mono ?_
  rintro e w3 ⟨rfl, rfl⟩
  clear q2
  go_wp2
  go_ret
  exact ⟨rfl, B2.out⟩
end Go.Proofs.YtpbminoefmpmpaaDoor
