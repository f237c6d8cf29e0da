/- Zones and intervals: Box. (Written by gen-zone-box.py.) -/
import Derived.Test.YtacbkddkjlnklaaZoneItv
namespace Go.Proofs.Ytacbkddkjlnklaa
open Go.RowKit
set_option linter.unusedVariables false
set_option linter.unusedSimpArgs false

theorem dall_own (n : Nat) (hn : n ≤ 8) (w : World) : Calls Try.prog 65 #[.int .i64 n] w (ZoneO n (allL n) 0 w) := by
  obtain ⟨W1, hW1⟩ : ∃ W1, W1 = w.alloc (.cells #[.int .i64 0, .slice none 0 0] 24) := ⟨_, rfl⟩
  obtain ⟨hB, hz⟩ : Below w.heap.size w W1 ∧ ZH W1 w.heap.size (.int .i64 0) (.slice none 0 0) := by rw [hW1]; exact zone_new
  have hmay := Lib.hid (fun W => may_any n W)
  have hcl := Lib.hid (each_widest n hn widestF W1 (fun i j hi hj W hW => (widest_any i j (by omega) (by omega) W).mono (by rintro e w' ⟨rfl, rfl⟩; exact ⟨rfl, 0, rfl⟩)))
  rw [mayB_nat hn] at hmay
  have hB' := Lib.hid hB
  have hz' := Lib.hid hz
  have hW1' := Lib.hid hW1
  clear hW1 hB hz
  unfold allL
  generalize matL n widestF = R at *
  go_enter Try.func65, Try.ntmps65
  go_wp2_with fail
  refine (hmay.out _).mono ?_
  rintro e w2 ⟨rfl, rfl⟩
  go_wp2_with fail
  rw [← hW1'.out]
  refine hcl.out.mono ?_
  intro e w3 hm
  obtain ⟨a3, c3, rfl, hz3, hall⟩ := zone_endO hB'.out (Nat.le_refl _) hz'.out hm
  have hfin := Lib.hid (hall n 0)
  have k0 := hz3.cell 0
  have k1 := hz3.cell 1
  have f0 := hz3.free 0
  have f1 := hz3.free 1
  clear hz3 hm hall
  go_wp2
  exact zone_ret2 hfin.out.1 hfin.out.2.1 _ _ 2 3 rfl rfl rfl rfl
/-- A slice of intervals. -/
def ItS (B : Nat) (w : World) (a : Option Addr) (xs : List (Int × Int)) : Prop :=
  xs = [] ∨ ∃ b off, a = some ⟨b, off, none⟩ ∧ b < B ∧ ∀ k, k < xs.length → w.cell? ⟨b, off + k * 2, none⟩ = some (.int .i64 (xs.getD k (0, 0)).1) ∧ w.cell? ⟨b, off + k * 2 + 1, none⟩ = some (.int .i64 (xs.getD k (0, 0)).2)
theorem ItS.below {B : Nat} {w w' : World} {a : Option Addr} {xs : List (Int × Int)} (h : ItS B w a xs) (hb : Below B w w') : ItS B w' a xs := by
  rcases h with h | ⟨b, off, e, hB, h⟩
  · exact .inl h
  · exact .inr ⟨b, off, e, hB, fun k hk => ⟨(hb.cell (p := ⟨b, _, none⟩) hB).trans (h k hk).1, (hb.cell (p := ⟨b, _, none⟩) hB).trans (h k hk).2⟩⟩
theorem ItS.at_ {B : Nat} {w : World} {a : Option Addr} {xs : List (Int × Int)} (h : ItS B w a xs) {k : Nat} (hk : k < xs.length) : ∃ b off, a = some ⟨b, off, none⟩ ∧ b < B ∧ w.cell? ⟨b, off + k * 2, none⟩ = some (.int .i64 (xs.getD k (0, 0)).1) ∧ w.cell? ⟨b, off + k * 2 + 1, none⟩ = some (.int .i64 (xs.getD k (0, 0)).2) := by
  rcases h with h | ⟨b, off, e, hB, h⟩
  · rw [h] at hk; simp at hk
  · exact ⟨b, off, e, hB, (h k hk).1, (h k hk).2⟩
def boxP (xs : List (Int × Int)) (k : Nat) : Int × Int := ofP (xs.getD k (0, 0)).1 (xs.getD k (0, 0)).2
def boxK (n : Nat) (xs : List (Int × Int)) : Nat → List Int
  | 0 => allL n
  | k + 1 => limL n (limL n (boxK n xs k) (k + 1) 0 (boxP xs k).2) 0 (k + 1) (-(clipV (boxP xs k).1))
theorem boxK_len (n : Nat) (xs : List (Int × Int)) (k : Nat) : (boxK n xs k).length = sz n := by
  induction k with
  | zero => exact matL_len _ _
  | succ k ih => simp only [boxK]; rw [limL_len, limL_len, ih]
/-- What Box has in hand. -/
structure Bq (w W : World) (g gz : Nat) (n : Nat) (s cap : Nat) : Prop where
  bl : Below w.heap.size w W
  hgz : w.heap.size < gz
  hsz : gz + 2 ≤ W.heap.size
  rb : ZH W w.heap.size (.int .i64 0) (.slice none 0 0)
  zb : ZH W gz (.int .i64 n) (.slice (some ⟨g, 0, none⟩) s cap)
  mb : Holds W (gz + 1) 76 #[.int .i64 n, .slice (some ⟨g, 0, none⟩) s cap]
theorem Bq.on {w W W' : World} {g gz n s cap : Nat} (h : Bq w W g gz n s cap) (hb : Below W.heap.size W W') : Bq w W' g gz n s cap := ⟨h.bl.trans (hb.mono h.bl.size), h.hgz, Nat.le_trans h.hsz hb.size, h.rb.below hb h.rb.lt, h.zb.below hb h.zb.lt, h.mb.below hb h.mb.lt⟩
theorem Bq.onE {w W W' : World} {g gz n s cap : Nat} (h : Bq w W g gz n s cap) (hg : w.heap.size < g) (hgz : g < gz) (hb : BelowE [g] W.heap.size W W') : Bq w W' g gz n s cap :=
  ⟨h.bl.trans (BelowE.none ((hb.mono h.bl.size).less (by intro x hx hlt; simp at hx; omega))), h.hgz, Nat.le_trans h.hsz hb.size, h.rb.belowE hb h.rb.lt (by simp; omega), h.zb.belowE hb h.zb.lt (by simp; omega), h.mb.belowE hb h.mb.lt (by simp; omega)⟩
theorem Bq.set {w W : World} {g gz n s cap q : Nat} (h : Bq w W g gz n s cap) (hq : gz + 2 ≤ q) (u v : Value) : Bq w ((W.setCell ⟨q, 0, none⟩ u).setCell ⟨q, 1, none⟩ v) g gz n s cap :=
  ⟨(h.bl.setCell (p := ⟨q, 0, none⟩) (by have := h.hgz; show _ ≤ q; omega) _).setCell (p := ⟨q, 1, none⟩) (by have := h.hgz; show _ ≤ q; omega) _, h.hgz, by simpa using h.hsz,
   (h.rb.far (p := ⟨q, 0, none⟩) (by have := h.hgz; show _ ≠ q; omega) _).far (p := ⟨q, 1, none⟩) (by have := h.hgz; show _ ≠ q; omega) _, (h.zb.far (p := ⟨q, 0, none⟩) (by show _ ≠ q; omega) _).far (p := ⟨q, 1, none⟩) (by show _ ≠ q; omega) _, (h.mb.far (p := ⟨q, 0, none⟩) (by show _ ≠ q; omega) _).far (p := ⟨q, 1, none⟩) (by show _ ≠ q; omega) _⟩
theorem own_set2 {w : World} {base g q : Nat} {e : TypeId} {m n c : Nat} {xs : List Value} (h : w.ownsRow base e 1 (.slice (some ⟨g, 0, none⟩) m c) n xs) (hg : g ≠ q) (u v : Value) : ((w.setCell ⟨q, 0, none⟩ u).setCell ⟨q, 1, none⟩ v).ownsRow base e 1 (.slice (some ⟨g, 0, none⟩) m c) n xs := by
  have hE : BelowE [q] w.heap.size w ((w.setCell ⟨q, 0, none⟩ u).setCell ⟨q, 1, none⟩ v) := ((BelowE.refl _ _ _).setIn (p := ⟨q, 0, none⟩) (by simp) _).setIn (p := ⟨q, 1, none⟩) (by simp) _
  exact own_belowE h hE (fun k hk => by simp [Value.ownBlock] at hk; simp; omega)
set_option maxRecDepth 100000 in
set_option maxHeartbeats 600000 in
theorem zbox_any (n : Nat) (hn : n ≤ 8) (xs : List (Int × Int)) (hx : xs.length = n) (a : Option Addr) (c : Nat) (w : World) (h : ItS w.heap.size w a xs) : Calls Try.prog 32 #[.slice a n c] w (ZoneE n (closedL n (boxK n xs n)) 0 w) := by
  obtain ⟨W1, hW1⟩ : ∃ W1, W1 = w.alloc (.cells #[.int .i64 0, .slice none 0 0] 24) := ⟨_, rfl⟩
  obtain ⟨hB, hz⟩ : Below w.heap.size w W1 ∧ ZH W1 w.heap.size (.int .i64 0) (.slice none 0 0) := by rw [hW1]; exact zone_new
  have hs1 : W1.heap.size = w.heap.size + 1 := by rw [hW1]; simp
  have q1 := Lib.hid (dall_own n hn W1)
  have hni : (n : Int) ≤ 8 := by omega
  have hal : Hid ((allL n).length = sz n) := Lib.hid (matL_len _ _)
  have hl1 := Lib.hid (fun (L : List Int) (k : Nat) (cc : Int) (g cap base : Nat) (W : World) (hk : k + 1 ≤ n) (hL : L.length = sz n) hW => mlimit_any n hn (k + 1) 0 hk (Nat.zero_le _) cc g cap base L hL W hW)
  have hl2 := Lib.hid (fun (L : List Int) (k : Nat) (cc : Int) (g cap base : Nat) (W : World) (hk : k + 1 ≤ n) (hL : L.length = sz n) hW => mlimit_any n hn 0 (k + 1) (Nat.zero_le _) hk cc g cap base L hL W hW)
  have hcl := Lib.hid (fun (L : List Int) (W : World) (g cap : Nat) (hL : L.length = sz n) (hs : Sees .i64 W.heap.size W (some ⟨g, 0, none⟩) L) => dclose_ok n hn (some ⟨g, 0, none⟩) L (sz n) cap hL.symm rfl W hs)
  have hbl : Hid (∀ k, (boxK n xs k).length = sz n) := Lib.hid (boxK_len n xs)
  have hst : Hid (∀ k, boxK n xs (k + 1) = limL n (limL n (boxK n xs k) (k + 1) 0 (boxP xs k).2) 0 (k + 1) (-(clipV (boxP xs k).1))) := Lib.hid (fun k => rfl)
  have hb0 : Hid (boxK n xs 0 = allL n) := Lib.hid rfl
  have hpos := Lib.hid (sz_pos n)
  have hW1' := Lib.hid hW1
  have hB' := Lib.hid hB
  have hz' := Lib.hid hz
  have hs1' := Lib.hid hs1
  have hx' := Lib.hid hx
  have hI := Lib.hid h
  clear hW1 hB hz hs1 hx h hn
  generalize hC : closedL n (boxK n xs n) = C
  have hC' := Lib.hid hC
  clear hC
  go_enter Try.func32, Try.ntmps32
  go_wp2_with fail
  rw [← hW1'.out]
  refine q1.out.mono ?_
  rintro e w2 ⟨a2, cap, rfl, o2, b2⟩
  rw [hal.out] at o2 ⊢
  obtain ⟨g, cap', hv, hg⟩ := own_some o2 hpos.out
  injection hv with e1 _ e3
  subst e1 e3
  have hg2 := (o2.lt g rfl).2
  obtain ⟨W3, hW3⟩ : ∃ W3, W3 = (w2.alloc (.cells #[.int .i64 n, .slice (some ⟨g, 0, none⟩) (sz n) cap] 24)).alloc (.cells #[.int .i64 n, .slice (some ⟨g, 0, none⟩) (sz n) cap] 76) := ⟨_, rfl⟩
  have Q3 : Bq w W3 g w2.heap.size n (sz n) cap := by
    have hb3 : Below w2.heap.size w2 W3 := by rw [hW3]; exact box2_below _ _ _ _ _
    refine ⟨(hB'.out.trans (b2.mono hB'.out.size)).trans (hb3.mono (by have := hB'.out.size; have := b2.size; omega)), by have := hs1'.out; have := b2.size; omega, by rw [hW3]; simp, (hz'.out.below b2 hz'.out.lt).below hb3 (hz'.out.below b2 hz'.out.lt).lt, by rw [hW3]; exact (Holds.new w2 _ _).alloc _, ?_⟩
    rw [hW3]
    have := Holds.new (w2.alloc (.cells #[.int .i64 n, .slice (some ⟨g, 0, none⟩) (sz n) cap] 24)) 76 #[.int .i64 n, .slice (some ⟨g, 0, none⟩) (sz n) cap]
    simpa using this
  have O3 : Hid (W3.ownsRow W1.heap.size 3 1 (.slice (some ⟨g, 0, none⟩) (sz n) cap) (sz n) (nums .i64 (boxK n xs 0))) := Lib.hid (by rw [hb0.out, hW3]; exact own_below o2 (box2_below _ _ _ _ _))
  have hW3' := Lib.hid hW3
  have Q3' := Lib.hid Q3
  have hgw : w.heap.size < g := by have := hs1'.out; omega
  clear hW3 Q3 o2 b2 q1 hg
  go_wp2
  rw [← hW3'.out]
  go_loopw [26] (fun x wr => ∃ k : Nat, k ≤ n ∧ x = .int .i64 k ∧ Hid (Bq w wr g w2.heap.size n (sz n) cap) ∧ Hid (wr.ownsRow W1.heap.size 3 1 (.slice (some ⟨g, 0, none⟩) (sz n) cap) (sz n) (nums .i64 (boxK n xs k)))) (fun x _ => n - (intOf x).toNat)
  case atStart => exact ⟨0, by omega, rfl, Q3', O3⟩
  case round =>
    clear Q3' O3
    obtain ⟨k, hk, rfl, hQ, hO⟩ := hrel
    by_cases hlt : k < n
    · have hki : (k : Int) < (n : Int) := by omega
      have ku : IntKind.i64.wrap ((k : Int) + 1) = (k : Int) + 1 := wrap_small (by omega) (by omega)
      obtain ⟨b, off, rfl, -, i0, i1⟩ := (hI.out.below hQ.out.bl).at_ (k := k) (by have := hx'.out; omega)
      have hP : Hid (ofP (xs.getD k (0, 0)).1 (xs.getD k (0, 0)).2 = boxP xs k) := Lib.hid rfl
      have hmt := Lib.hid (fun W => imeet_all (xs.getD k (0, 0)).1 (xs.getD k (0, 0)).2 W)
      rw [hP.out] at hmt
      have hlk := hbl.out k
      have p1 := Lib.hid (fun W hW => hl1.out (boxK n xs k) k (boxP xs k).2 g cap W1.heap.size W (by omega) hlk hW)
      have p2 := Lib.hid (fun W hW => hl2.out (limL n (boxK n xs k) (k + 1) 0 (boxP xs k).2) k (-(clipV (boxP xs k).1)) g cap W1.heap.size W (by omega) (by rw [limL_len]; exact hlk) hW)
      rw [← hst.out k] at p2
      have hkn : ((k + 1 : Nat) : Int) = (k : Int) + 1 := by omega
      rw [hkn] at p1 p2
      rw [show ((0 : Nat) : Int) = 0 from rfl] at p1 p2
      generalize limL n (boxK n xs k) (k + 1) 0 (boxP xs k).2 = L1 at *
      generalize boxP xs k = P at *
      generalize (xs.getD k (0, 0)).1 = x at *
      generalize (xs.getD k (0, 0)).2 = y at *
      have hneg := Lib.hid (fun W => vneg_any P.1 W)
      have hbox := Lib.hid (box_below wr #[.int .i64 x, .int .i64 y] 38)
      obtain ⟨Wb, hWb⟩ : ∃ Wb, Wb = wr.alloc (.cells #[.int .i64 x, .int .i64 y] 38) := ⟨_, rfl⟩
      have Qb := Lib.hid (show Bq w Wb g w2.heap.size n (sz n) cap by rw [hWb]; exact hQ.out.on hbox.out)
      have Ob : Hid (Wb.ownsRow W1.heap.size 3 1 (.slice (some ⟨g, 0, none⟩) (sz n) cap) (sz n) (nums .i64 (boxK n xs k))) := Lib.hid (by rw [hWb]; exact own_below hO.out hbox.out)
      have Zb : Hid (HI Wb wr.heap.size x y) := Lib.hid (by rw [hWb]; exact Holds.new _ _ _)
      have hWb' := Lib.hid hWb
      have hgr : g < wr.heap.size := (hO.out.lt g rfl).2
      have hzr := hQ.out.hsz
      clear hWb hbox hP hkn hO hQ hl1 hl2
      go_wp2
      rw [← hWb'.out]
      generalize wr.heap.size = g8 at *
      have c0 : (Wb.drew).cell? ⟨g8, 0, none⟩ = some (.int .i64 x) := Zb.out.cell 0
      have c1 : (Wb.drew).cell? ⟨g8, 1, none⟩ = some (.int .i64 y) := Zb.out.cell 1
      refine wp_drawn_on (fun _ => True) (by kernel_rfl) (trivial) (fun hHeld => ?_)
      refine wpAnyH_ready (rs := [0, 1]) (by kernel_rfl) (by simp) ?_
      refine AllReadyH.cons (o := { dst := some 31, op := Go.Op.load 38 (Go.Operand.tmp 8), type := 38, pos := "zone.go:214", after := #[], guard := none }) rfl (fun K hK => ?_) (AllReadyH.cons (o := { dst := some 32, op := Go.Op.call { callee := Go.Callee.value (Go.Operand.func 41), args := #[], argTypes := #[] }, type := 38, pos := "zone.go:214", after := #[], guard := none }) rfl (fun K hK => ?_) AllReadyH.nil)
      · go_simp
        refine hK.out _ _ (trivial) (fun hHeld => ?_)
        clear hK K
        try simp only [Act.put, List.setIfInBounds_toArray, List.set_cons_zero, List.set_cons_succ]
        refine wpAnyH_ready (rs := [1]) (by kernel_rfl) (by simp) ?_
        refine AllReadyH.cons (o := { dst := some 32, op := Go.Op.call { callee := Go.Callee.value (Go.Operand.func 41), args := #[], argTypes := #[] }, type := 38, pos := "zone.go:214", after := #[], guard := none }) rfl (fun K hK => ?_) AllReadyH.nil
        go_simp
        refine (iall_any _).mono ?_
        rintro e v1 ⟨rfl, b1⟩
        have Z1 := Lib.hid (Zb.out.below (show Below Wb.heap.size Wb v1 from ((below_drew (Below.refl _ _)).trans b1)) Zb.out.lt)
        have n0 := Z1.out.cell 0
        have n1 := Z1.out.cell 1
        go_simp
        refine hK.out _ _ (trivial) (fun hHeld => ?_)
        clear hK K
        try simp only [Act.put, List.setIfInBounds_toArray, List.set_cons_zero, List.set_cons_succ]
        refine wpAnyH_ready (rs := [2]) (by kernel_rfl) (by simp) ?_
        refine AllReadyH.cons (o := { dst := some 33, op := Go.Op.call { callee := Go.Callee.value (Go.Operand.func 66), args := #[Go.Operand.tmp 31, Go.Operand.tmp 32], argTypes := #[38, 38] }, type := 38, pos := "zone.go:214", after := #[{ on := 0, ground := Go.Ground.data }, { on := 1, ground := Go.Ground.data }, { on := 1, ground := Go.Ground.chain }], guard := none }) rfl (fun K hK => ?_) AllReadyH.nil
        go_simp
        refine (hmt.out _).mono ?_
        rintro e v2 ⟨rfl, b2⟩
        have Z2 := Lib.hid (Z1.out.below b2 Z1.out.lt)
        have m0 := Z2.out.cell 0
        have m1 := Z2.out.cell 1
        have g0 := Z2.out.free 0
        have g1 := Z2.out.free 1
        have B12 := Lib.hid (show Below Wb.heap.size Wb v2 from ((below_drew (Below.refl _ _)).trans b1).trans (b2.mono b1.size))
        clear b2
        go_simp
        refine hK.out _ _ (trivial) (fun hHeld => ?_)
        clear hK K
        try simp only [Act.put, List.setIfInBounds_toArray, List.set_cons_zero, List.set_cons_succ]
        refine wpAnyH_ready (rs := [3]) (by kernel_rfl) (by simp) ?_
        refine AllReadyH.cons (o := { dst := none, op := Go.Op.store 38 (Go.Operand.tmp 8) (Go.Operand.tmp 33), type := 0, pos := "zone.go:214", after := #[{ on := 2, ground := Go.Ground.data }, { on := 2, ground := Go.Ground.chain }, { on := 0, ground := Go.Ground.phase }, { on := 1, ground := Go.Ground.phase }, { on := 2, ground := Go.Ground.phase }], guard := none }) rfl (fun K hK => ?_) AllReadyH.nil
        go_simp
        refine hK.out _ _ (trivial) (fun hHeld => ?_)
        clear hK K
        try simp only [Act.put, List.setIfInBounds_toArray, List.set_cons_zero, List.set_cons_succ]
        refine wpAnyH_done (by kernel_rfl) ?_ _
        have Qc := Lib.hid ((Qb.out.on B12.out).set (q := g8) (by omega) (.int .i64 P.1) (.int .i64 P.2))
        have Oc := Lib.hid (own_set2 (own_below Ob.out B12.out) (show g ≠ g8 by omega) (.int .i64 P.1) (.int .i64 P.2))
        have Zc := Lib.hid (hi_set Z2.out P.1 P.2)
        clear Qb Ob Zb Z1 Z2 B12 c0 c1 n0 n1 m0 m1 g0 g1 b1 hmt
        generalize ((v2.setCell ⟨g8, 0, none⟩ (.int .i64 P.1)).setCell ⟨g8, 1, none⟩ (.int .i64 P.2)) = V at Qc Oc Zc ⊢
        have k0 : V.cell? ⟨w2.heap.size + 1, 0, none⟩ = some (.int .i64 n) := Qc.out.mb.cell 0
        have k1 : V.cell? ⟨w2.heap.size + 1, 1, none⟩ = some (.slice (some ⟨g, 0, none⟩) (sz n) cap) := Qc.out.mb.cell 1
        have k2 : V.cell? ⟨g8, 1, none⟩ = some (.int .i64 P.2) := Zc.out.cell 1
        go_wp2_with fail
        refine (p1.out _ (show World.ownsRow _ _ _ _ _ _ _ from Oc.out)).mono ?_
        rintro e v4 ⟨rfl, o4, b4⟩
        have b4' : BelowE [g] V.heap.size V v4 := b4
        have Q4 := Lib.hid (Qc.out.onE hgw (by omega) b4')
        have Z4 := Lib.hid (Zc.out.belowE b4' Zc.out.lt (by simp; omega))
        have o4' := Lib.hid o4
        have x0 : w2.heap.size + 1 ∉ [g] := by simp; omega
        have x1 : g8 ∉ [g] := by simp; omega
        have f0 : ∀ W, BelowE [g] v4.heap.size v4 W → W.cell? ⟨w2.heap.size + 1, 0, none⟩ = some (.int .i64 n) := fun W hW => (Q4.out.mb.belowE hW Q4.out.mb.lt x0).cell 0
        have f1 : ∀ W, BelowE [g] v4.heap.size v4 W → W.cell? ⟨w2.heap.size + 1, 1, none⟩ = some (.slice (some ⟨g, 0, none⟩) (sz n) cap) := fun W hW => (Q4.out.mb.belowE hW Q4.out.mb.lt x0).cell 1
        have f2 : ∀ W, BelowE [g] v4.heap.size v4 W → W.cell? ⟨g8, 0, none⟩ = some (.int .i64 P.1) := fun W hW => (Z4.out.belowE hW Z4.out.lt x1).cell 0
        clear k0 k1 k2 o4 b4 b4' Qc Oc Zc x0 x1 p1
        go_wp2
        refine wp_drawn_on (fun W => BelowE [g] v4.heap.size v4 W) (by kernel_rfl) ((BelowE.refl _ _ _).drew) (fun hHeld => ?_)
        refine wpAnyH_take (i := 0) (oi := { dst := some 41, op := Go.Op.load 76 (Go.Operand.tmp 6), type := 76, pos := "zone.go:216", after := #[], guard := none }) (v := ?v1) rfl (by kernel_rfl) (by kernel_rfl) (by kernel_rfl) (fun _ _ _ h => h) (Or.inl ⟨by kernel_rfl, ?h1⟩) (by assumption) ?r1
        case h1 => (intro w hSw; (try dsimp only at hSw); go_simp; try with_reducible rfl)
        try simp only [Act.put, List.setIfInBounds_toArray, List.set_cons_zero, List.set_cons_succ]
        refine wpAnyH_take (i := 1) (oi := { dst := some 42, op := Go.Op.move (Go.Operand.tmp 7), type := 3, pos := "zone.go:216", after := #[], guard := none }) (v := ?v2) rfl (by kernel_rfl) (by kernel_rfl) (by kernel_rfl) (fun _ _ _ h => h) (Or.inl ⟨by kernel_rfl, ?h2⟩) (by assumption) ?r2
        case h2 => (intro w hSw; (try dsimp only at hSw); go_simp; try with_reducible rfl)
        try simp only [Act.put, List.setIfInBounds_toArray, List.set_cons_zero, List.set_cons_succ]
        refine wpAnyH_take (i := 2) (oi := { dst := some 43, op := Go.Op.binOp Go.BinOp.add 3 (Go.Operand.tmp 42) (Go.Operand.const (Go.Value.int Go.IntKind.i64 1)) 3, type := 3, pos := "zone.go:216", after := #[{ on := 1, ground := Go.Ground.data }], guard := none }) (v := ?v3) rfl (by kernel_rfl) (by kernel_rfl) (by kernel_rfl) (fun _ _ _ h => h) (Or.inl ⟨by kernel_rfl, ?h3⟩) (by assumption) ?r3
        case h3 => (intro w hSw; (try dsimp only at hSw); go_simp; try with_reducible rfl)
        try simp only [Act.put, List.setIfInBounds_toArray, List.set_cons_zero, List.set_cons_succ]
        refine wpAnyH_take (i := 3) (oi := { dst := some 44, op := Go.Op.fieldAddr 38 (Go.Operand.tmp 8) 0, type := 0, pos := "zone.go:216", after := #[], guard := none }) (v := ?v4) rfl (by kernel_rfl) (by kernel_rfl) (by kernel_rfl) (fun _ _ _ h => h) (Or.inl ⟨by kernel_rfl, ?h4⟩) (by assumption) ?r4
        case h4 => (intro w hSw; (try dsimp only at hSw); go_simp; try with_reducible rfl)
        try simp only [Act.put, List.setIfInBounds_toArray, List.set_cons_zero, List.set_cons_succ]
        refine wpAnyH_take (i := 4) (oi := { dst := some 45, op := Go.Op.load 3 (Go.Operand.tmp 44), type := 3, pos := "zone.go:216", after := #[{ on := 3, ground := Go.Ground.data }], guard := none }) (v := ?v5) rfl (by kernel_rfl) (by kernel_rfl) (by kernel_rfl) (fun _ _ _ h => h) (Or.inl ⟨by kernel_rfl, ?h5⟩) (by assumption) ?r5
        case h5 => (intro w hSw; (try dsimp only at hSw); go_simp; try with_reducible rfl)
        try simp only [Act.put, List.setIfInBounds_toArray, List.set_cons_zero, List.set_cons_succ]
        refine wpAnyH_ready (rs := [5]) (by kernel_rfl) (by simp) ?_
        refine AllReadyH.cons (o := { dst := some 46, op := Go.Op.call { callee := Go.Callee.value (Go.Operand.func 63), args := #[Go.Operand.tmp 45], argTypes := #[3] }, type := 3, pos := "zone.go:216", after := #[{ on := 4, ground := Go.Ground.data }], guard := none }) rfl (fun K hK => ?_) AllReadyH.nil
        go_simp
        refine (hneg.out _).mono ?_
        rintro e v5 ⟨rfl, rfl⟩
        go_simp
        refine hK.out _ _ (hHeld) (fun hHeld => ?_)
        clear hK K
        try simp only [Act.put, List.setIfInBounds_toArray, List.set_cons_zero, List.set_cons_succ]
        refine wpAnyH_take (i := 6) (oi := { dst := some 47, op := Go.Op.build 72 #[(0, Go.Operand.const (Go.Value.int Go.IntKind.i64 0)), (1, Go.Operand.tmp 43), (2, Go.Operand.tmp 46)], type := 72, pos := "zone.go:216", after := #[{ on := 2, ground := Go.Ground.data }, { on := 5, ground := Go.Ground.data }], guard := none }) (v := ?v6) rfl (by kernel_rfl) (by kernel_rfl) (by kernel_rfl) (fun _ _ _ h => h) (Or.inl ⟨by kernel_rfl, ?h6⟩) (by assumption) ?r6
        case h6 => (intro w hSw; (try dsimp only at hSw); go_simp; try with_reducible rfl)
        try simp only [Act.put, List.setIfInBounds_toArray, List.set_cons_zero, List.set_cons_succ]
        refine wpAnyH_ready (rs := [7]) (by kernel_rfl) (by simp) ?_
        refine AllReadyH.cons (o := { dst := some 48, op := Go.Op.call { callee := Go.Callee.value (Go.Operand.func 57), args := #[Go.Operand.tmp 41, Go.Operand.tmp 47], argTypes := #[76, 72] }, type := 0, pos := "zone.go:216", after := #[{ on := 0, ground := Go.Ground.data }, { on := 6, ground := Go.Ground.data }, { on := 5, ground := Go.Ground.chain }], guard := none }) rfl (fun K hK => ?_) AllReadyH.nil
        go_simp
        refine (p2.out v4.drew (show World.ownsRow v4.drew _ _ _ _ _ _ from o4'.out)).mono ?_
        rintro e v7 ⟨rfl, o7, b7⟩
        have o7' := Lib.hid o7
        clear o7
        go_simp
        refine hK.out _ _ (hHeld.trans (b7.mono hHeld.size)) (fun hHeld => ?_)
        clear hK K
        try simp only [Act.put, List.setIfInBounds_toArray, List.set_cons_zero, List.set_cons_succ]
        refine wpAnyH_done (by kernel_rfl) ?_ _
        have Q7 := Lib.hid (Q4.out.onE hgw (by omega) hHeld)
        go_wp2
        go_roundw
        case rel => exact ⟨k + 1, by omega, by go_num, Q7, o7'⟩
        case measure => simp [intOf]; omega
      · go_simp
        refine (iall_any _).mono ?_
        rintro e v1 ⟨rfl, b1⟩
        have Z1 := Lib.hid (Zb.out.below (show Below Wb.heap.size Wb v1 from ((below_drew (Below.refl _ _)).trans b1)) Zb.out.lt)
        have n0 := Z1.out.cell 0
        have n1 := Z1.out.cell 1
        go_simp
        refine hK.out _ _ (trivial) (fun hHeld => ?_)
        clear hK K
        try simp only [Act.put, List.setIfInBounds_toArray, List.set_cons_zero, List.set_cons_succ]
        refine wpAnyH_ready (rs := [0]) (by kernel_rfl) (by simp) ?_
        refine AllReadyH.cons (o := { dst := some 31, op := Go.Op.load 38 (Go.Operand.tmp 8), type := 38, pos := "zone.go:214", after := #[], guard := none }) rfl (fun K hK => ?_) AllReadyH.nil
        go_simp
        refine hK.out _ _ (trivial) (fun hHeld => ?_)
        clear hK K
        try simp only [Act.put, List.setIfInBounds_toArray, List.set_cons_zero, List.set_cons_succ]
        refine wpAnyH_ready (rs := [2]) (by kernel_rfl) (by simp) ?_
        refine AllReadyH.cons (o := { dst := some 33, op := Go.Op.call { callee := Go.Callee.value (Go.Operand.func 66), args := #[Go.Operand.tmp 31, Go.Operand.tmp 32], argTypes := #[38, 38] }, type := 38, pos := "zone.go:214", after := #[{ on := 0, ground := Go.Ground.data }, { on := 1, ground := Go.Ground.data }, { on := 1, ground := Go.Ground.chain }], guard := none }) rfl (fun K hK => ?_) AllReadyH.nil
        go_simp
        refine (hmt.out _).mono ?_
        rintro e v2 ⟨rfl, b2⟩
        have Z2 := Lib.hid (Z1.out.below b2 Z1.out.lt)
        have m0 := Z2.out.cell 0
        have m1 := Z2.out.cell 1
        have g0 := Z2.out.free 0
        have g1 := Z2.out.free 1
        have B12 := Lib.hid (show Below Wb.heap.size Wb v2 from ((below_drew (Below.refl _ _)).trans b1).trans (b2.mono b1.size))
        clear b2
        go_simp
        refine hK.out _ _ (trivial) (fun hHeld => ?_)
        clear hK K
        try simp only [Act.put, List.setIfInBounds_toArray, List.set_cons_zero, List.set_cons_succ]
        refine wpAnyH_ready (rs := [3]) (by kernel_rfl) (by simp) ?_
        refine AllReadyH.cons (o := { dst := none, op := Go.Op.store 38 (Go.Operand.tmp 8) (Go.Operand.tmp 33), type := 0, pos := "zone.go:214", after := #[{ on := 2, ground := Go.Ground.data }, { on := 2, ground := Go.Ground.chain }, { on := 0, ground := Go.Ground.phase }, { on := 1, ground := Go.Ground.phase }, { on := 2, ground := Go.Ground.phase }], guard := none }) rfl (fun K hK => ?_) AllReadyH.nil
        go_simp
        refine hK.out _ _ (trivial) (fun hHeld => ?_)
        clear hK K
        try simp only [Act.put, List.setIfInBounds_toArray, List.set_cons_zero, List.set_cons_succ]
        refine wpAnyH_done (by kernel_rfl) ?_ _
        have Qc := Lib.hid ((Qb.out.on B12.out).set (q := g8) (by omega) (.int .i64 P.1) (.int .i64 P.2))
        have Oc := Lib.hid (own_set2 (own_below Ob.out B12.out) (show g ≠ g8 by omega) (.int .i64 P.1) (.int .i64 P.2))
        have Zc := Lib.hid (hi_set Z2.out P.1 P.2)
        clear Qb Ob Zb Z1 Z2 B12 c0 c1 n0 n1 m0 m1 g0 g1 b1 hmt
        generalize ((v2.setCell ⟨g8, 0, none⟩ (.int .i64 P.1)).setCell ⟨g8, 1, none⟩ (.int .i64 P.2)) = V at Qc Oc Zc ⊢
        have k0 : V.cell? ⟨w2.heap.size + 1, 0, none⟩ = some (.int .i64 n) := Qc.out.mb.cell 0
        have k1 : V.cell? ⟨w2.heap.size + 1, 1, none⟩ = some (.slice (some ⟨g, 0, none⟩) (sz n) cap) := Qc.out.mb.cell 1
        have k2 : V.cell? ⟨g8, 1, none⟩ = some (.int .i64 P.2) := Zc.out.cell 1
        go_wp2_with fail
        refine (p1.out _ (show World.ownsRow _ _ _ _ _ _ _ from Oc.out)).mono ?_
        rintro e v4 ⟨rfl, o4, b4⟩
        have b4' : BelowE [g] V.heap.size V v4 := b4
        have Q4 := Lib.hid (Qc.out.onE hgw (by omega) b4')
        have Z4 := Lib.hid (Zc.out.belowE b4' Zc.out.lt (by simp; omega))
        have o4' := Lib.hid o4
        have x0 : w2.heap.size + 1 ∉ [g] := by simp; omega
        have x1 : g8 ∉ [g] := by simp; omega
        have f0 : ∀ W, BelowE [g] v4.heap.size v4 W → W.cell? ⟨w2.heap.size + 1, 0, none⟩ = some (.int .i64 n) := fun W hW => (Q4.out.mb.belowE hW Q4.out.mb.lt x0).cell 0
        have f1 : ∀ W, BelowE [g] v4.heap.size v4 W → W.cell? ⟨w2.heap.size + 1, 1, none⟩ = some (.slice (some ⟨g, 0, none⟩) (sz n) cap) := fun W hW => (Q4.out.mb.belowE hW Q4.out.mb.lt x0).cell 1
        have f2 : ∀ W, BelowE [g] v4.heap.size v4 W → W.cell? ⟨g8, 0, none⟩ = some (.int .i64 P.1) := fun W hW => (Z4.out.belowE hW Z4.out.lt x1).cell 0
        clear k0 k1 k2 o4 b4 b4' Qc Oc Zc x0 x1 p1
        go_wp2
        refine wp_drawn_on (fun W => BelowE [g] v4.heap.size v4 W) (by kernel_rfl) ((BelowE.refl _ _ _).drew) (fun hHeld => ?_)
        refine wpAnyH_take (i := 0) (oi := { dst := some 41, op := Go.Op.load 76 (Go.Operand.tmp 6), type := 76, pos := "zone.go:216", after := #[], guard := none }) (v := ?v7) rfl (by kernel_rfl) (by kernel_rfl) (by kernel_rfl) (fun _ _ _ h => h) (Or.inl ⟨by kernel_rfl, ?h7⟩) (by assumption) ?r7
        case h7 => (intro w hSw; (try dsimp only at hSw); go_simp; try with_reducible rfl)
        try simp only [Act.put, List.setIfInBounds_toArray, List.set_cons_zero, List.set_cons_succ]
        refine wpAnyH_take (i := 1) (oi := { dst := some 42, op := Go.Op.move (Go.Operand.tmp 7), type := 3, pos := "zone.go:216", after := #[], guard := none }) (v := ?v8) rfl (by kernel_rfl) (by kernel_rfl) (by kernel_rfl) (fun _ _ _ h => h) (Or.inl ⟨by kernel_rfl, ?h8⟩) (by assumption) ?r8
        case h8 => (intro w hSw; (try dsimp only at hSw); go_simp; try with_reducible rfl)
        try simp only [Act.put, List.setIfInBounds_toArray, List.set_cons_zero, List.set_cons_succ]
        refine wpAnyH_take (i := 2) (oi := { dst := some 43, op := Go.Op.binOp Go.BinOp.add 3 (Go.Operand.tmp 42) (Go.Operand.const (Go.Value.int Go.IntKind.i64 1)) 3, type := 3, pos := "zone.go:216", after := #[{ on := 1, ground := Go.Ground.data }], guard := none }) (v := ?v9) rfl (by kernel_rfl) (by kernel_rfl) (by kernel_rfl) (fun _ _ _ h => h) (Or.inl ⟨by kernel_rfl, ?h9⟩) (by assumption) ?r9
        case h9 => (intro w hSw; (try dsimp only at hSw); go_simp; try with_reducible rfl)
        try simp only [Act.put, List.setIfInBounds_toArray, List.set_cons_zero, List.set_cons_succ]
        refine wpAnyH_take (i := 3) (oi := { dst := some 44, op := Go.Op.fieldAddr 38 (Go.Operand.tmp 8) 0, type := 0, pos := "zone.go:216", after := #[], guard := none }) (v := ?v10) rfl (by kernel_rfl) (by kernel_rfl) (by kernel_rfl) (fun _ _ _ h => h) (Or.inl ⟨by kernel_rfl, ?h10⟩) (by assumption) ?r10
        case h10 => (intro w hSw; (try dsimp only at hSw); go_simp; try with_reducible rfl)
        try simp only [Act.put, List.setIfInBounds_toArray, List.set_cons_zero, List.set_cons_succ]
        refine wpAnyH_take (i := 4) (oi := { dst := some 45, op := Go.Op.load 3 (Go.Operand.tmp 44), type := 3, pos := "zone.go:216", after := #[{ on := 3, ground := Go.Ground.data }], guard := none }) (v := ?v11) rfl (by kernel_rfl) (by kernel_rfl) (by kernel_rfl) (fun _ _ _ h => h) (Or.inl ⟨by kernel_rfl, ?h11⟩) (by assumption) ?r11
        case h11 => (intro w hSw; (try dsimp only at hSw); go_simp; try with_reducible rfl)
        try simp only [Act.put, List.setIfInBounds_toArray, List.set_cons_zero, List.set_cons_succ]
        refine wpAnyH_ready (rs := [5]) (by kernel_rfl) (by simp) ?_
        refine AllReadyH.cons (o := { dst := some 46, op := Go.Op.call { callee := Go.Callee.value (Go.Operand.func 63), args := #[Go.Operand.tmp 45], argTypes := #[3] }, type := 3, pos := "zone.go:216", after := #[{ on := 4, ground := Go.Ground.data }], guard := none }) rfl (fun K hK => ?_) AllReadyH.nil
        go_simp
        refine (hneg.out _).mono ?_
        rintro e v5 ⟨rfl, rfl⟩
        go_simp
        refine hK.out _ _ (hHeld) (fun hHeld => ?_)
        clear hK K
        try simp only [Act.put, List.setIfInBounds_toArray, List.set_cons_zero, List.set_cons_succ]
        refine wpAnyH_take (i := 6) (oi := { dst := some 47, op := Go.Op.build 72 #[(0, Go.Operand.const (Go.Value.int Go.IntKind.i64 0)), (1, Go.Operand.tmp 43), (2, Go.Operand.tmp 46)], type := 72, pos := "zone.go:216", after := #[{ on := 2, ground := Go.Ground.data }, { on := 5, ground := Go.Ground.data }], guard := none }) (v := ?v12) rfl (by kernel_rfl) (by kernel_rfl) (by kernel_rfl) (fun _ _ _ h => h) (Or.inl ⟨by kernel_rfl, ?h12⟩) (by assumption) ?r12
        case h12 => (intro w hSw; (try dsimp only at hSw); go_simp; try with_reducible rfl)
        try simp only [Act.put, List.setIfInBounds_toArray, List.set_cons_zero, List.set_cons_succ]
        refine wpAnyH_ready (rs := [7]) (by kernel_rfl) (by simp) ?_
        refine AllReadyH.cons (o := { dst := some 48, op := Go.Op.call { callee := Go.Callee.value (Go.Operand.func 57), args := #[Go.Operand.tmp 41, Go.Operand.tmp 47], argTypes := #[76, 72] }, type := 0, pos := "zone.go:216", after := #[{ on := 0, ground := Go.Ground.data }, { on := 6, ground := Go.Ground.data }, { on := 5, ground := Go.Ground.chain }], guard := none }) rfl (fun K hK => ?_) AllReadyH.nil
        go_simp
        refine (p2.out v4.drew (show World.ownsRow v4.drew _ _ _ _ _ _ from o4'.out)).mono ?_
        rintro e v7 ⟨rfl, o7, b7⟩
        have o7' := Lib.hid o7
        clear o7
        go_simp
        refine hK.out _ _ (hHeld.trans (b7.mono hHeld.size)) (fun hHeld => ?_)
        clear hK K
        try simp only [Act.put, List.setIfInBounds_toArray, List.set_cons_zero, List.set_cons_succ]
        refine wpAnyH_done (by kernel_rfl) ?_ _
        have Q7 := Lib.hid (Q4.out.onE hgw (by omega) hHeld)
        go_wp2
        go_roundw
        case rel => exact ⟨k + 1, by omega, by go_num, Q7, o7'⟩
        case measure => simp [intOf]; omega
    · have hke : k = n := by omega
      subst hke
      obtain ⟨ga, gc, hv, -, ss⟩ := sees_own hO.out
      injection hv with e1 e2 e3
      subst e1
      clear e2
      have p3 := Lib.hid (hcl.out (boxK k xs k) wr g cap (hbl.out k) ss)
      rw [hC'.out] at p3
      have k0 : wr.cell? ⟨w2.heap.size, 0, none⟩ = some (.int .i64 k) := hQ.out.zb.cell 0
      have k1 : wr.cell? ⟨w2.heap.size, 1, none⟩ = some (.slice (some ⟨g, 0, none⟩) (sz k) cap) := hQ.out.zb.cell 1
      clear ss e3 hO
      go_wp2_with fail
      refine p3.out.mono ?_
      rintro e w7 ⟨a7, c7, rfl, hc7, s7, b7, nw7⟩
      have Zd := hQ.out.rb.below b7 hQ.out.rb.lt
      have y0 := Zd.cell 0
      have y1 := Zd.cell 1
      have f0 := Zd.free 0
      have f1 := Zd.free 1
      have hfin := Lib.hid (zone_put (n := k) (err := 0) hQ.out.bl (by omega) hQ.out.rb hc7 s7 b7 nw7)
      clear Zd p3 k0 k1
      go_wp2
      exact zone_ret2 hfin.out.1 hfin.out.2.1 _ _ 2 3 rfl rfl rfl rfl
end Go.Proofs.Ytacbkddkjlnklaa
