/- The document's zone of intervals. -/
import Derived.Test.YtacbkddkjlnklaaZoneBoxOps
namespace Go.Proofs.Ytacbkddkjlnklaa
open Go.RowKit
set_option linter.unusedVariables false
set_option linter.unusedSimpArgs false

/-- What stands while it is made. -/
structure Rb (w W : World) (gz n : Nat) (a : Option Addr) (m c : Nat) : Prop where
  bl : Below w.heap.size w W
  rb : ZH W w.heap.size (.int .i64 0) (.slice none 0 0)
  zb : ZH W gz (.int .i64 n) (.slice a m c)
theorem Rb.on {w W W' : World} {gz n : Nat} {a : Option Addr} {m c : Nat} (h : Rb w W gz n a m c) (hb : Below W.heap.size W W') : Rb w W' gz n a m c := ⟨h.bl.trans (hb.mono h.bl.size), h.rb.below hb h.rb.lt, h.zb.below hb h.zb.lt⟩
theorem rb_set {w W : World} {gz n : Nat} {a : Option Addr} {m c : Nat} (h : Rb w W gz n a m c) (hg : w.heap.size < gz) (m2 : Nat) (a2 : Option Addr) (c2 : Nat) : Rb w ((W.setCell ⟨gz, 0, none⟩ (.int .i64 n)).setCell ⟨gz, 1, none⟩ (.slice a2 m2 c2)) gz n a2 m2 c2 :=
  ⟨(h.bl.setCell (p := ⟨gz, 0, none⟩) (by show _ ≤ gz; omega) _).setCell (p := ⟨gz, 1, none⟩) (by show _ ≤ gz; omega) _, (h.rb.far (p := ⟨gz, 0, none⟩) (by show _ ≠ gz; omega) _).far (p := ⟨gz, 1, none⟩) (by show _ ≠ gz; omega) _, zh_set h.zb _ _⟩
set_option maxRecDepth 100000 in
set_option maxHeartbeats 2000000 in
theorem rbox_any (n : Nat) (hn : n ≤ 8) (xs : List (Int × Int)) (hx : xs.length = n) (a : Option Addr) (c : Nat) (w : World) (h : ItS w.heap.size w a xs) : Calls Try.prog 34 #[.slice a n c] w (ZoneR n (boxL n xs) w) := by
  rw [box_both hn xs]
  obtain ⟨W1, hW1⟩ : ∃ W1, W1 = w.alloc (.cells #[.int .i64 0, .slice none 0 0] 24) := ⟨_, rfl⟩
  obtain ⟨hB, hz⟩ : Below w.heap.size w W1 ∧ ZH W1 w.heap.size (.int .i64 0) (.slice none 0 0) := by rw [hW1]; exact zone_new
  have q1 := Lib.hid (rall_any n hn W1)
  have hal : Hid ((allL n).length ≤ 81) := Lib.hid (rbxK_isz hn xs 0).small
  have hst : Hid (∀ k, rbxK n xs (k + 1) = limitL n (limitL n (rbxK n xs k) (k + 1) 0 (boxP xs k).2) 0 (k + 1) (-(boxP xs k).1)) := Lib.hid (fun k => rfl)
  have hlk := Lib.hid (fun k => rbxK_isz hn xs k)
  have l1 := Lib.hid (fun L (hL : IsZ n L) k (hk : k + 1 ≤ n) cc a m ca W hS => (rlim_any n L hL (k + 1) 0 hk (Nat.zero_le _) cc a m ca W hS).mono (fun e w' h => h.r))
  have l2 := Lib.hid (fun L (hL : IsZ n L) k (hk : k + 1 ≤ n) cc a m ca W hS => rlim_any n L hL 0 (k + 1) (Nat.zero_le _) hk cc a m ca W hS)
  have h12 := Lib.hid (fun L i j cc => limitL_isz hn L i j cc)
  have hpi := Lib.hid (boxP_in xs)
  have hW1' := Lib.hid hW1
  have hB' := Lib.hid hB
  have hz' := Lib.hid hz
  have hx' := Lib.hid hx
  have hI := Lib.hid h
  have hni : (n : Int) ≤ 8 := by omega
  clear hW1 hB hz h hx hn
  go_enter Try.func34, Try.ntmps34
  go_wp2_with fail
  rw [← hW1'.out]
  refine q1.out.mono ?_
  rintro e w2 ⟨a2, c2, rfl, hc2, s2, b2, n2⟩
  obtain ⟨m2, hm2⟩ : ∃ m, m = (allL n).length := ⟨_, rfl⟩
  rw [← hm2] at hc2 ⊢
  have S2 : SL w2 a2 m2 c2 (rbxK n xs 0) := ⟨hm2, hc2, by have := hal.out; omega, s2⟩
  obtain ⟨W3, hW3⟩ : ∃ W3, W3 = w2.alloc (.cells #[.int .i64 n, .slice a2 m2 c2] 24) := ⟨_, rfl⟩
  have b3 : Below w2.heap.size w2 W3 := by rw [hW3]; exact box_below _ _ _
  have R3 : Rb w W3 w2.heap.size n a2 m2 c2 := ⟨(hB'.out.trans (b2.mono hB'.out.size)).trans (b3.mono (Nat.le_trans hB'.out.size b2.size)), (hz'.out.below b2 hz'.out.lt).below b3 (hz'.out.below b2 hz'.out.lt).lt, by rw [hW3]; exact Holds.new _ _ _⟩
  have hgz : w.heap.size < w2.heap.size := (hz'.out.below b2 hz'.out.lt).lt
  have S3 := Lib.hid (S2.below b3)
  have N3 := Lib.hid (new_far (l := rbxK n xs 0) (g := w.heap.size) n2 hz'.out.lt)
  have R3' := Lib.hid R3
  have hW3' := Lib.hid hW3
  clear hW3 R3 S2 s2 n2 b2 b3 hc2 hm2 q1 hal hB' hz'
  generalize hgzz : w2.heap.size = gz at *
  have hgz2 := Lib.hid hgzz
  clear hgzz
  go_wp2
  rw [hgz2.out]
  rw [← hW3'.out]
  go_loopw [4] (fun x wr => ∃ (k : Nat) (a : Option Addr) (m c : Nat), k ≤ n ∧ x = .int .i64 k ∧ Hid (Rb w wr gz n a m c) ∧ Hid (SL wr a m c (rbxK n xs k)) ∧ Hid (rbxK n xs k = [] ∨ ∀ p, a = some p → w.heap.size ≠ p.block)) (fun x _ => n - (intOf x).toNat)
  case atStart => exact ⟨0, a2, m2, c2, by omega, rfl, R3', S3, N3⟩
  case round =>
    clear S3 R3' N3 hW3' hgz2
    obtain ⟨k, az, mz, cz, hk, rfl, hR, hS, hN⟩ := hrel
    by_cases hlt : k < n
    · have hki : (k : Int) < (n : Int) := by omega
      have ku : IntKind.i64.wrap ((k : Int) + 1) = (k : Int) + 1 := wrap_small (by omega) (by omega)
      obtain ⟨b, off, rfl, -, i0, i1⟩ := (hI.out.below hR.out.bl).at_ (k := k) (by have := hx'.out; omega)
      have hpl := Lib.hid (fun W => rplainZ_any (xs.getD k (0, 0)).1 (xs.getD k (0, 0)).2 W)
      have hP : Hid (ofP (xs.getD k (0, 0)).1 (xs.getD k (0, 0)).2 = boxP xs k) := Lib.hid rfl
      rw [hP.out] at hpl
      have p1 := Lib.hid (l1.out (rbxK n xs k) (hlk.out k) k (by omega) (boxP xs k).2)
      have p2 := Lib.hid (l2.out (limitL n (rbxK n xs k) (k + 1) 0 (boxP xs k).2) (h12.out _ _ _ _) k (by omega) (-(boxP xs k).1))
      rw [← hst.out k] at p2
      have hkn : ((k + 1 : Nat) : Int) = (k : Int) + 1 := by omega
      rw [hkn] at p1 p2
      rw [show ((0 : Nat) : Int) = 0 from rfl] at p1 p2
      have pin := (hpi.out k).1
      have hw1 : IntKind.i64.wrap (-(boxP xs k).1) = -(boxP xs k).1 := IntWalk.i64_in _ (by omega)
      obtain ⟨L2, hL2⟩ : ∃ L, rbxK n xs (k + 1) = L := ⟨_, rfl⟩
      rw [hL2] at p2
      have hL := Lib.hid hL2
      clear hL2
      generalize limitL n (rbxK n xs k) (k + 1) 0 (boxP xs k).2 = L1 at *
      generalize rbxK n xs k = L0 at *
      generalize boxP xs k = P at *
      generalize (xs.getD k (0, 0)).1 = x at *
      generalize (xs.getD k (0, 0)).2 = y at *
      clear hP hkn
      go_wp2_with fail
      refine (hpl.out _).mono ?_
      rintro e v1 ⟨rfl, b1⟩
      have b2 := box_below v1 #[.int .i64 P.1, .int .i64 P.2] 38
      have R5 := Lib.hid ((hR.out.on b1).on b2)
      have S5 := Lib.hid ((hS.out.below b1).below b2)
      have Z5 := Lib.hid (Holds.new v1 38 #[.int .i64 P.1, .int .i64 P.2])
      have hlt5 : gz < v1.heap.size := (hR.out.on b1).zb.lt
      clear b1 b2 hR hS hN
      generalize P.1 = P1 at *
      generalize P.2 = P2 at *
      go_wp2
      generalize v1.alloc (.cells #[.int .i64 P1, .int .i64 P2] 38) = V at *
      generalize v1.heap.size = g5 at *
      have k0 := R5.out.zb.cell 0
      have k1 := R5.out.zb.cell 1
      have hx5 : g5 ∉ [gz] := by simp; omega
      have f0 : ∀ W, BelowE [gz] V.heap.size V W → W.cell? ⟨g5, 0, none⟩ = some (.int .i64 P1) := fun W hW => (Z5.out.belowE hW Z5.out.lt hx5).cell 0
      have f1 : ∀ W, BelowE [gz] V.heap.size V W → W.cell? ⟨g5, 1, none⟩ = some (.int .i64 P2) := fun W hW => (Z5.out.belowE hW Z5.out.lt hx5).cell 1
      refine wp_drawn_on (fun W => BelowE [gz] V.heap.size V W) (by kernel_rfl) ((BelowE.refl _ _ _).drew) (fun hHeld => ?_)
      refine wpAnyH_take (i := 1) (oi := { dst := some 21, op := Go.Op.move (Go.Operand.tmp 4), type := 3, pos := "ref.go:162", after := #[], guard := none }) (v := ?v1) rfl (by kernel_rfl) (by kernel_rfl) (by kernel_rfl) (fun _ _ _ h => h) (Or.inl ⟨by kernel_rfl, ?h1⟩) (by assumption) ?r1
      case h1 => (intro w hSw; (try dsimp only at hSw); go_simp; try with_reducible rfl)
      try simp only [Act.put, List.setIfInBounds_toArray, List.set_cons_zero, List.set_cons_succ]
      refine wpAnyH_take (i := 2) (oi := { dst := some 22, op := Go.Op.binOp Go.BinOp.add 3 (Go.Operand.tmp 21) (Go.Operand.const (Go.Value.int Go.IntKind.i64 1)) 3, type := 3, pos := "ref.go:162", after := #[{ on := 1, ground := Go.Ground.data }], guard := none }) (v := ?v2) rfl (by kernel_rfl) (by kernel_rfl) (by kernel_rfl) (fun _ _ _ h => h) (Or.inl ⟨by kernel_rfl, ?h2⟩) (by assumption) ?r2
      case h2 => (intro w hSw; (try dsimp only at hSw); go_simp; try with_reducible rfl)
      try simp only [Act.put, List.setIfInBounds_toArray, List.set_cons_zero, List.set_cons_succ]
      refine wpAnyH_take (i := 3) (oi := { dst := some 23, op := Go.Op.fieldAddr 38 (Go.Operand.tmp 5) 1, type := 0, pos := "ref.go:162", after := #[], guard := none }) (v := ?v3) rfl (by kernel_rfl) (by kernel_rfl) (by kernel_rfl) (fun _ _ _ h => h) (Or.inl ⟨by kernel_rfl, ?h3⟩) (by assumption) ?r3
      case h3 => (intro w hSw; (try dsimp only at hSw); go_simp; try with_reducible rfl)
      try simp only [Act.put, List.setIfInBounds_toArray, List.set_cons_zero, List.set_cons_succ]
      refine wpAnyH_take (i := 4) (oi := { dst := some 24, op := Go.Op.load 3 (Go.Operand.tmp 23), type := 3, pos := "ref.go:162", after := #[{ on := 3, ground := Go.Ground.data }], guard := none }) (v := ?v4) rfl (by kernel_rfl) (by kernel_rfl) (by kernel_rfl) (fun _ _ _ h => h) (Or.inl ⟨by kernel_rfl, ?h4⟩) (by assumption) ?r4
      case h4 => (intro w hSw; (try dsimp only at hSw); go_simp; try with_reducible rfl)
      try simp only [Act.put, List.setIfInBounds_toArray, List.set_cons_zero, List.set_cons_succ]
      refine wpAnyH_take (i := 6) (oi := { dst := some 26, op := Go.Op.move (Go.Operand.tmp 4), type := 3, pos := "ref.go:162", after := #[], guard := none }) (v := ?v5) rfl (by kernel_rfl) (by kernel_rfl) (by kernel_rfl) (fun _ _ _ h => h) (Or.inl ⟨by kernel_rfl, ?h5⟩) (by assumption) ?r5
      case h5 => (intro w hSw; (try dsimp only at hSw); go_simp; try with_reducible rfl)
      try simp only [Act.put, List.setIfInBounds_toArray, List.set_cons_zero, List.set_cons_succ]
      refine wpAnyH_take (i := 7) (oi := { dst := some 27, op := Go.Op.binOp Go.BinOp.add 3 (Go.Operand.tmp 26) (Go.Operand.const (Go.Value.int Go.IntKind.i64 1)) 3, type := 3, pos := "ref.go:162", after := #[{ on := 6, ground := Go.Ground.data }], guard := none }) (v := ?v6) rfl (by kernel_rfl) (by kernel_rfl) (by kernel_rfl) (fun _ _ _ h => h) (Or.inl ⟨by kernel_rfl, ?h6⟩) (by assumption) ?r6
      case h6 => (intro w hSw; (try dsimp only at hSw); go_simp; try with_reducible rfl)
      try simp only [Act.put, List.setIfInBounds_toArray, List.set_cons_zero, List.set_cons_succ]
      refine wpAnyH_take (i := 8) (oi := { dst := some 28, op := Go.Op.fieldAddr 38 (Go.Operand.tmp 5) 0, type := 0, pos := "ref.go:162", after := #[], guard := none }) (v := ?v7) rfl (by kernel_rfl) (by kernel_rfl) (by kernel_rfl) (fun _ _ _ h => h) (Or.inl ⟨by kernel_rfl, ?h7⟩) (by assumption) ?r7
      case h7 => (intro w hSw; (try dsimp only at hSw); go_simp; try with_reducible rfl)
      try simp only [Act.put, List.setIfInBounds_toArray, List.set_cons_zero, List.set_cons_succ]
      refine wpAnyH_take (i := 9) (oi := { dst := some 29, op := Go.Op.load 3 (Go.Operand.tmp 28), type := 3, pos := "ref.go:162", after := #[{ on := 8, ground := Go.Ground.data }], guard := none }) (v := ?v8) rfl (by kernel_rfl) (by kernel_rfl) (by kernel_rfl) (fun _ _ _ h => h) (Or.inl ⟨by kernel_rfl, ?h8⟩) (by assumption) ?r8
      case h8 => (intro w hSw; (try dsimp only at hSw); go_simp; try with_reducible rfl)
      try simp only [Act.put, List.setIfInBounds_toArray, List.set_cons_zero, List.set_cons_succ]
      refine wpAnyH_take (i := 10) (oi := { dst := some 30, op := Go.Op.unOp Go.UnOp.neg 3 (Go.Operand.tmp 29), type := 3, pos := "ref.go:162", after := #[{ on := 9, ground := Go.Ground.data }], guard := none }) (v := ?v9) rfl (by kernel_rfl) (by kernel_rfl) (by kernel_rfl) (fun _ _ _ h => h) (Or.inl ⟨by kernel_rfl, ?h9⟩) (by assumption) ?r9
      case h9 => (intro w hSw; (try dsimp only at hSw); go_simp; try with_reducible rfl)
      try simp only [Act.put, List.setIfInBounds_toArray, List.set_cons_zero, List.set_cons_succ]
      refine wpAnyH_ready (rs := [0]) (by kernel_rfl) (by simp) ?_
      refine AllReadyH.cons (o := { dst := some 20, op := Go.Op.load 24 (Go.Operand.tmp 3), type := 24, pos := "ref.go:162", after := #[], guard := none }) rfl (fun K hK => ?_) AllReadyH.nil
      go_simp
      refine hK.out _ _ (hHeld) (fun hHeld => ?_)
      clear hK K
      try simp only [Act.put, List.setIfInBounds_toArray, List.set_cons_zero, List.set_cons_succ]
      refine wpAnyH_ready (rs := [5]) (by kernel_rfl) (by simp) ?_
      refine AllReadyH.cons (o := { dst := some 25, op := Go.Op.call { callee := Go.Callee.value (Go.Operand.func 30), args := #[Go.Operand.tmp 20, Go.Operand.tmp 22, Go.Operand.const (Go.Value.int Go.IntKind.i64 0), Go.Operand.tmp 24], argTypes := #[24, 3, 3, 3] }, type := 24, pos := "ref.go:162", after := #[{ on := 0, ground := Go.Ground.data }, { on := 2, ground := Go.Ground.data }, { on := 4, ground := Go.Ground.data }], guard := none }) rfl (fun K hK => ?_) AllReadyH.nil
      go_simp
      have S6 : SL V.drew az mz cz L0 := S5.out.drewN 1
      with_reducible refine (p1.out az mz cz V.drew S6).mono ?_
      clear S6
      rintro e u5 ⟨aa, ma, ca, rfl, sa, ba⟩
      have hx6 := hHeld.trans (.of ba)
      have R6 := Lib.hid (R5.out.on (Below.fromDrew ba))
      clear ba
      go_simp
      refine hK.out _ _ (hx6) (fun hHeld => ?_)
      clear hK K
      try simp only [Act.put, List.setIfInBounds_toArray, List.set_cons_zero, List.set_cons_succ]
      refine wpAnyH_ready (rs := [11]) (by kernel_rfl) (by simp) ?_
      refine AllReadyH.cons (o := { dst := some 31, op := Go.Op.call { callee := Go.Callee.value (Go.Operand.func 30), args := #[Go.Operand.tmp 25, Go.Operand.const (Go.Value.int Go.IntKind.i64 0), Go.Operand.tmp 27, Go.Operand.tmp 30], argTypes := #[24, 3, 3, 3] }, type := 24, pos := "ref.go:162", after := #[{ on := 5, ground := Go.Ground.data }, { on := 7, ground := Go.Ground.data }, { on := 10, ground := Go.Ground.data }, { on := 5, ground := Go.Ground.chain }], guard := none }) rfl (fun K hK => ?_) AllReadyH.nil
      go_simp
      with_reducible refine (p2.out aa ma ca _ sa).mono ?_
      rintro e u11 ⟨ab, mb, cb, rfl, sb, bb, nb⟩
      have hx7 := hHeld.trans (.of (bb.mono hHeld.size))
      have R7 := Lib.hid (R6.out.on bb)
      have nb' := new_far2 nb R6.out.zb.lt
      have nr := Lib.hid (new_far2 nb R6.out.rb.lt)
      have z0 := R7.out.zb.cell 0
      have z1 := R7.out.zb.cell 1
      have zf0 := R7.out.zb.free 0
      have zf1 := R7.out.zb.free 1
      clear bb nb sa R6
      go_simp
      refine hK.out _ _ (hx7) (fun hHeld => ?_)
      clear hK K
      try simp only [Act.put, List.setIfInBounds_toArray, List.set_cons_zero, List.set_cons_succ]
      refine wpAnyH_ready (rs := [12]) (by kernel_rfl) (by simp) ?_
      refine AllReadyH.cons (o := { dst := none, op := Go.Op.store 24 (Go.Operand.tmp 3) (Go.Operand.tmp 31), type := 0, pos := "ref.go:162", after := #[{ on := 11, ground := Go.Ground.data }, { on := 11, ground := Go.Ground.chain }, { on := 0, ground := Go.Ground.phase }, { on := 1, ground := Go.Ground.phase }, { on := 2, ground := Go.Ground.phase }, { on := 3, ground := Go.Ground.phase }, { on := 4, ground := Go.Ground.phase }, { on := 5, ground := Go.Ground.phase }, { on := 6, ground := Go.Ground.phase }, { on := 7, ground := Go.Ground.phase }, { on := 8, ground := Go.Ground.phase }, { on := 9, ground := Go.Ground.phase }, { on := 10, ground := Go.Ground.phase }, { on := 11, ground := Go.Ground.phase }], guard := none }) rfl (fun K hK => ?_) AllReadyH.nil
      go_simp
      have R8 := rb_set R7.out hgz mb ab cb
      have S8 := sl_set sb gz nb' (.int .i64 n) (.slice ab mb cb)
      have hx8 := (hHeld.setIn (p := ⟨gz, 0, none⟩) (by simp) (.int .i64 n)).setIn (p := ⟨gz, 1, none⟩) (by simp) (.slice ab mb cb)
      clear z0 z1 zf0 zf1 R7
      refine hK.out _ _ (hx8) (fun hHeld => ?_)
      clear hK K
      try simp only [Act.put, List.setIfInBounds_toArray, List.set_cons_zero, List.set_cons_succ]
      refine wpAnyH_done (by kernel_rfl) ?_ _
      clear k0 k1 f0 f1
      have R9 := Lib.hid R8
      have S9 := Lib.hid S8
      clear R8 S8 hHeld
      go_wp2
      go_roundw
      case rel => exact ⟨k + 1, ab, mb, cb, by omega, by go_num, R9, by rw [hL.out]; exact S9, by rw [hL.out]; exact nr⟩
      case measure => simp [intOf]; omega
    · have hke : k = n := by omega
      subst hke
      have k0 := hR.out.zb.cell 0
      have k1 := hR.out.zb.cell 1
      have r0 := hR.out.rb.cell 0
      have r1 := hR.out.rb.cell 1
      have f0 := hR.out.rb.free 0
      have f1 := hR.out.rb.free 1
      generalize rbxK k xs k = L at *
      have hfin := Lib.hid (zh_set hR.out.rb (.int .i64 k) (.slice az mz cz))
      have hsl := Lib.hid (sl_set hS.out w.heap.size hN.out (.int .i64 k) (.slice az mz cz))
      have kb := Lib.hid ((hR.out.bl.setCell (p := ⟨w.heap.size, 0, none⟩) (Nat.le_refl _) (.int .i64 k)).setCell (p := ⟨w.heap.size, 1, none⟩) (Nat.le_refl _) (.slice az mz cz))
      go_wp2
      exact zone_ret hfin.out (show ZoneR k L w _ _ from ⟨az, mz, cz, rfl, hsl.out, kb.out⟩) _ _ 2 rfl rfl rfl
end Go.Proofs.Ytacbkddkjlnklaa
