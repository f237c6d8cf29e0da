/- CurReads: the walk of the statement's function. -/
import Derived.Test.YtnojapdcdjpebaaCurDo
import Derived.Test.YtnojapdcdjpebaaCurLives
namespace Go.Proofs.Ytnojapdcdjpebaa
open Go.RowKit
set_option linter.unusedVariables false
set_option linter.unusedSimpArgs false

theorem Rf.ahead' {w w' : World} {r : Nat} {a : Option Addr} {cap : Nat} {bs : List Int} {p : Nat} {e : Int} (h : Rf w r a cap bs p e) (hb : Below w.heap.size w w') : Rf w' r a cap bs p e :=
  ⟨h.blk.below hb h.blk.lt, (h.sees.belowE (.of hb)).mono hb.size, h.byt, h.len, h.cap, h.at_⟩
theorem rleft_o (r : Nat) (a : Option Addr) (cap : Nat) (bs : List Int) (p : Nat) (e : Int) (w : World) (h : Rf w r a cap bs p e) :
    Calls Try.prog 11 #[.pointer (some ⟨r, 0, none⟩)] w fun e' w' => e' = .returned (.int .i64 (leftO bs p e)) ∧ ∃ m, w' = w.drewN m := rleft_any r a cap bs p e w h

theorem SeesE.more {X Y : List Nat} {k : IntKind} {B : Nat} {w : World} {a : Option Addr} {l : List Int} (h : SeesE X k B w a l) (hXY : ∀ y ∈ Y, y ∈ X ∨ B ≤ y) : SeesE Y k B w a l := by
  rcases h with h | ⟨b, off, rfl, hB, hx, hc⟩
  · exact .inl h
  · exact .inr ⟨b, off, rfl, hB, fun hm => (hXY b hm).elim hx (fun h => by omega), hc⟩
theorem sees_block {k : IntKind} {B r : Nat} {w : World} {a : Option Addr} {l : List Int} (h : Sees k B w a l) (n c : Nat) (hr : ∀ b, (Value.slice a n c).ownBlock = some b → b ≠ r) : SeesE [r] k B w a l := by
  rcases h with h | ⟨b, off, rfl, hB, hc⟩
  · exact .inl h
  · exact .inr ⟨b, off, rfl, hB, by simpa using hr b rfl, hc⟩

set_option maxRecDepth 100000 in
set_option maxHeartbeats 4000000 in
theorem curReads_walk (w : World) (A0 : Option Addr) (n0 c0 : Nat) (bs : List Int) (hl0 : bs.length = n0) (hm0 : n0 ≤ maxLen) (hc0 : n0 ≤ c0) (hw0 : ∀ n ∈ bs, (Lit.int .u8 n).wf = true) (hs0 : Sees .u8 w.heap.size w A0 bs)
    (ro : Option Addr) (len co : Nat) (hrow : OpSl w ro len co) :
    Calls Try.prog 3 #[.slice A0 n0 c0, .slice ro len co] w (Gives (.bool true) w) := by
  obtain ⟨i0, hi, hz0, hz1, hz2⟩ := info_parts infoU8
  obtain ⟨hlc, hcm, K, M, Z, hops⟩ := hrow
  have hbs := bs_of_wf hw0
  clear hw0
  subst hl0
  have hm0' := hm0
  unfold maxLen at hm0' hcm
  by_cases hbig : 2000 < bs.length
  · go_enter Try.func3, Try.ntmps3
    go_wp2_with fail
    refine (lives_any _).mono ?_
    rintro e w' ⟨rfl, hb'⟩
    go_wp2
    go_ret
    exact ⟨rfl, hb'⟩
  by_cases hbig2 : 200 < len
  · have hd : decide ((2000 : Int) < (bs.length : Int)) = false := by simp; omega
    clear hbig
    go_enter Try.func3, Try.ntmps3
    go_wp2_with fail
    refine (lives_any _).mono ?_
    rintro e w' ⟨rfl, hb'⟩
    go_wp2
    go_ret
    exact ⟨rfl, hb'⟩
  have hd1 : decide ((2000 : Int) < (bs.length : Int)) = false := by simp; omega
  have hd2 : decide ((200 : Int) < (len : Int)) = false := by simp; omega
  have hlb : bs.length ≤ 2000 := by omega
  have hll : len ≤ 200 := by omega
  clear hbig hbig2
  have hB1 : Below w.heap.size w (w.alloc (.cells #[] 5)) := (Below.refl _ _).alloc (Nat.le_refl _) _
  have s1 : Sees .u8 w.heap.size (w.alloc (.cells #[] 5)) A0 bs := hs0.below hB1
  have o1 := World.ownsRow_made (e := 5) (size := 1) w #[] 0 (Nat.zero_le 0 |> fun _ => Nat.zero_le _) (by decide) (by simp)
  have hlb' := Lib.hid hlb
  have hbs' := Lib.hid hbs
  have hB1' := Lib.hid hB1
  clear hlb hbs hB1
  go_enter Try.func3, Try.ntmps3
  go_wp2_with (at_builtin; refine wpList_append_foot _ rfl (.tmp 17) (.tmp 18) 22 rfl 5 i0 (.int .u8 0) 1 Try.underlying22 hi hz0 hz1 hz2 rfl .u8 _ [] o1 w.heap.size A0 bs s1 bs.length c0 rfl rfl rfl (by have := hlb'.out; simp [maxLen]; omega) (by have := hlb'.out; simp; omega) ?_; intro v1 w1 own1 grow1 blk1; simp only [List.nil_append] at own1; obtain ⟨aa, cc, rfl, -, see1⟩ := sees_own own1)
  have hB2 : Below w.heap.size w w1 := hB1'.out.grown grow1 hB1'.out.size (by intro k hk; simp [Value.ownBlock] at hk; omega)
  clear grow1 blk1 own1
  refine (from_any aa bs bs.length cc rfl _ w1 (by have := hlb'.out; omega) hbs'.out see1).mono ?_
  rintro e w2 ⟨r, a, cap, rfl, R, b2, hr⟩
  have hB3 : Below w.heap.size w w2 := hB2.trans (b2.mono hB2.size)
  have hrw : w.heap.size ≤ r := Nat.le_trans hB2.size hr
  have lr := R.blk.lt
  have hB4 : Below w2.heap.size w2 (w2.alloc (.cells #[] 5)) := (Below.refl _ _).alloc (Nat.le_refl _) _
  have s2 : Sees .u8 w.heap.size (w2.alloc (.cells #[] 5)) A0 bs := hs0.below (hB3.trans (hB4.mono hB3.size))
  have o2 := World.ownsRow_made (e := 5) (size := 1) w2 #[] 0 (Nat.zero_le _) (by decide) (by simp)
  have hB4' := Lib.hid hB4
  have R' := Lib.hid R
  clear hB2 b2 see1 s1 o1 hr hB4 R
  go_wp2_with (at_builtin; refine wpList_append_foot _ rfl (.tmp 21) (.tmp 22) 22 rfl 5 i0 (.int .u8 0) 1 Try.underlying22 hi hz0 hz1 hz2 rfl .u8 _ [] o2 w.heap.size A0 bs s2 bs.length c0 rfl rfl rfl (by have := hlb'.out; simp [maxLen]; omega) (by have := hlb'.out; simp; omega) ?_; intro v3 w3 own3 grow3 blk3; simp only [List.nil_append] at own3; obtain ⟨a3, c3, rfl, -, see3⟩ := sees_own own3)
  have hcap3 := own_cap own3
  have hB5 : Below w2.heap.size w2 w3 := hB4'.out.grown grow3 hB4'.out.size (by intro k hk; simp [Value.ownBlock] at hk; omega)
  have hB6 := (Below.refl w3.heap.size w3).alloc (Nat.le_refl _) (.cells #[.slice a3 bs.length c3, .int .i64 0, .int .i64 0] 30)
  have hB7 := hB5.trans (hB6.mono hB5.size)
  have R4 := R'.out.ahead hB7
  have e3 : SeesE [r] .u8 w3.heap.size w3 a3 bs := sees_block see3 bs.length c3 (by
    intro b hb
    rcases blk3 with h | h <;> rw [hb] at h <;> simp [Value.ownBlock] at h <;> omega)
  have e3x : SeesE [r, w3.heap.size] .u8 w3.heap.size w3 a3 bs := e3.more (by simp)
  have F4 : Rf (w3.alloc (.cells #[.slice a3 bs.length c3, .int .i64 0, .int .i64 0] 30)) w3.heap.size a3 c3 bs 0 0 :=
    ⟨Holds.new _ _ _, ((e3x.belowE (.of hB6)).fewer (by simp)).mono (by simp), hbs'.out, hm0, hcap3, Nat.zero_le _⟩
  have hr3 : r < w3.heap.size := Nat.lt_of_lt_of_le lr hB5.size
  have hBoth : Both (w3.alloc (.cells #[.slice a3 bs.length c3, .int .i64 0, .int .i64 0] 30)) r w3.heap.size a cap a3 c3 bs 0 0 :=
    ⟨R4, F4, by omega, ((R'.out.sees.more (Y := [r, w3.heap.size]) (by simp; exact .inr hB5.size)).belowE (.of hB7)).mono hB7.size, (e3x.belowE (.of hB6)).mono (by simp)⟩
  have hBB := hB3.trans (hB7.mono hB3.size)
  have hxw : w.heap.size ≤ w3.heap.size := Nat.le_trans hB3.size hB5.size
  clear e3 e3x F4 R4 hB7 hB5 blk3 grow3 own3 see3 s2 o2 hcap3 R' hB4' hB3 hs0 lr hB6
  refine (lives_any _).mono ?_
  rintro e w4 ⟨rfl, hl4⟩
  replace hBoth := hBoth.below hl4
  replace hBB := hBB.trans (hl4.mono hBB.size)
  clear hl4
  generalize w3.heap.size = x at *
  generalize w2.heap.size = z2 at *
  clear w3 w2 w1 hc0 hd1 hd2 hlc hi hz0 hz1 hz2
  have hops' := Lib.hid hops
  have hBoth' := Lib.hid hBoth
  have hBB' := Lib.hid hBB
  clear hops hBoth hBB
  go_wp2
  go_loopw [7] (fun i wr => ∃ (k q : Nat) (y : Int), k ≤ len ∧ i = .int .i64 k ∧ Both wr r x a cap a3 c3 bs q y ∧ Below w.heap.size w wr) (fun i _ => len - (intOf i).toNat)
  case atStart => exact ⟨0, 0, 0, Nat.zero_le _, rfl, hBoth'.out, hBB'.out⟩
  case round =>
    obtain ⟨k, q, y, hk, rfl, hbo, hbe⟩ := hrel
    by_cases hlt : k < len
    · rcases hops'.out with h0 | ⟨b, off, rfl, hbl, hcell⟩
      · omega
      obtain ⟨g0, g1, g2, g3, g4⟩ := hcell k hlt
      rw [← Nat.add_assoc] at g1 g2
      have hbr : ¬ b = r := by omega
      have hbx : ¬ b = x := by omega
      have hbwr : b < wr.heap.size := Nat.lt_of_lt_of_le hbl hbe.size
      replace g0 := (hbe.cell (p := ⟨b, _, none⟩) hbl).trans g0
      replace g1 := (hbe.cell (p := ⟨b, _, none⟩) hbl).trans g1
      replace g2 := (hbe.cell (p := ⟨b, _, none⟩) hbl).trans g2
      have f0 : ∀ W', BelowE [r, x] wr.heap.size wr W' → W'.cell? ⟨b, off + k * 3, none⟩ = some (.int .i64 (K k)) := fun W' h => (h.cell (p := ⟨b, _, none⟩) hbwr (by simp; omega)).trans g0
      have f1 : ∀ W', BelowE [r, x] wr.heap.size wr W' → W'.cell? ⟨b, off + k * 3 + 1, none⟩ = some (.int .i64 (M k)) := fun W' h => (h.cell (p := ⟨b, _, none⟩) hbwr (by simp; omega)).trans g1
      have f2 : ∀ W', BelowE [r, x] wr.heap.size wr W' → W'.cell? ⟨b, off + k * 3 + 2, none⟩ = some (.string (Z k)) := fun W' h => (h.cell (p := ⟨b, _, none⟩) hbwr (by simp; omega)).trans g2
      have hn := (i64_wf g3).2
      have hdo := Lib.hid (fun w' h => do_any (K k) r x a cap a3 c3 bs q y (M k) hn (Z k) w' h)
      have hbo' := Lib.hid hbo
      have hbe' := Lib.hid hbe
      clear g0 g1 g2 g3 g4 hcell hn hbo hbe
      generalize K k = kk at *
      generalize M k = mm at *
      generalize Z k = zz at *
      go_wp2
      refine wp_drawn_on (fun W' => BelowE [r, x] wr.heap.size wr W') (by kernel_rfl) ((BelowE.refl _ _ _).drew) (fun hHeld => ?_)
      refine wpAnyH_take (i := 0) (oi := { dst := some 38, op := Go.Op.move (Go.Operand.tmp 5), type := 25, pos := "law.go:78", after := #[], guard := none }) (v := ?v1) rfl (by kernel_rfl) (by kernel_rfl) (by kernel_rfl) (fun _ _ _ h => h) (Or.inl ⟨by kernel_rfl, ?h1⟩) (by assumption) ?r1
      case h1 => (intro w hSw; (try dsimp only at hSw); go_simp; try with_reducible rfl)
      try simp only [Act.put, List.setIfInBounds_toArray, List.set_cons_zero, List.set_cons_succ]
      refine wpAnyH_take (i := 1) (oi := { dst := some 39, op := Go.Op.move (Go.Operand.tmp 6), type := 27, pos := "law.go:78", after := #[], guard := none }) (v := ?v2) rfl (by kernel_rfl) (by kernel_rfl) (by kernel_rfl) (fun _ _ _ h => h) (Or.inl ⟨by kernel_rfl, ?h2⟩) (by assumption) ?r2
      case h2 => (intro w hSw; (try dsimp only at hSw); go_simp; try with_reducible rfl)
      try simp only [Act.put, List.setIfInBounds_toArray, List.set_cons_zero, List.set_cons_succ]
      refine wpAnyH_take (i := 2) (oi := { dst := some 40, op := Go.Op.move (Go.Operand.tmp 1), type := 23, pos := "law.go:78", after := #[], guard := none }) (v := ?v3) rfl (by kernel_rfl) (by kernel_rfl) (by kernel_rfl) (fun _ _ _ h => h) (Or.inl ⟨by kernel_rfl, ?h3⟩) (by assumption) ?r3
      case h3 => (intro w hSw; (try dsimp only at hSw); go_simp; try with_reducible rfl)
      try simp only [Act.put, List.setIfInBounds_toArray, List.set_cons_zero, List.set_cons_succ]
      refine wpAnyH_take (i := 3) (oi := { dst := some 41, op := Go.Op.move (Go.Operand.tmp 7), type := 3, pos := "law.go:78", after := #[], guard := none }) (v := ?v4) rfl (by kernel_rfl) (by kernel_rfl) (by kernel_rfl) (fun _ _ _ h => h) (Or.inl ⟨by kernel_rfl, ?h4⟩) (by assumption) ?r4
      case h4 => (intro w hSw; (try dsimp only at hSw); go_simp; try with_reducible rfl)
      try simp only [Act.put, List.setIfInBounds_toArray, List.set_cons_zero, List.set_cons_succ]
      refine wpAnyH_take (i := 4) (oi := { dst := some 42, op := Go.Op.indexAddr 23 (Go.Operand.tmp 40) (Go.Operand.tmp 41), type := 0, pos := "law.go:78", after := #[{ on := 2, ground := Go.Ground.data }, { on := 3, ground := Go.Ground.data }], guard := none }) (v := ?v5) rfl (by kernel_rfl) (by kernel_rfl) (by kernel_rfl) (fun _ _ _ h => h) (Or.inl ⟨by kernel_rfl, ?h5⟩) (by assumption) ?r5
      case h5 => (intro w hSw; (try dsimp only at hSw); go_simp; try with_reducible rfl)
      try simp only [Act.put, List.setIfInBounds_toArray, List.set_cons_zero, List.set_cons_succ]
      refine wpAnyH_take (i := 5) (oi := { dst := some 43, op := Go.Op.load 33 (Go.Operand.tmp 42), type := 33, pos := "law.go:78", after := #[{ on := 4, ground := Go.Ground.data }], guard := none }) (v := ?v6) rfl (by kernel_rfl) (by kernel_rfl) (by kernel_rfl) (fun _ _ _ h => h) (Or.inl ⟨by kernel_rfl, ?h6⟩) (by assumption) ?r6
      case h6 => (intro w hSw; (try dsimp only at hSw); go_simp; try with_reducible rfl)
      try simp only [Act.put, List.setIfInBounds_toArray, List.set_cons_zero, List.set_cons_succ]
      refine wpAnyH_ready (rs := [6]) (by kernel_rfl) (by simp) ?_
      refine AllReadyH.cons (o := { dst := some 44, op := Go.Op.call { callee := Go.Callee.value (Go.Operand.func 8), args := #[Go.Operand.tmp 38, Go.Operand.tmp 39, Go.Operand.tmp 43], argTypes := #[25, 27, 33] }, type := 4, pos := "law.go:78", after := #[{ on := 0, ground := Go.Ground.data }, { on := 1, ground := Go.Ground.data }, { on := 5, ground := Go.Ground.data }], guard := none }) rfl (fun K hK => ?_) AllReadyH.nil
      go_simp
      refine (hdo.out _ (hbo'.out.below ((Below.refl _ _).drew))).mono ?_
      rintro e w1 ⟨rfl, q', y', hb1, hx1⟩
      go_simp
      refine hK.out _ _ (hx1.fromDrew) (fun hHeld => ?_)
      clear hK K
      try simp only [Act.put, List.setIfInBounds_toArray, List.set_cons_zero, List.set_cons_succ]
      refine wpAnyH_mono (S' := fun W' => Below w1.heap.size w1 W') (fun W' h' => hHeld.trans (BelowE.of (h'.mono hHeld.size))) _ _ _ _ ?_
      have hx2 := Lib.hid hx1.fromDrew
      have k1 := hb1.rf.blk.cell 1
      have k2 := hb1.rf.blk.cell 2
      have lx := hb1.rf.blk.lt
      have lr := hb1.rd.blk.lt
      simp at k1 k2
      have j1 : ∀ W', Below w1.heap.size w1 W' → W'.cell? ⟨x, 1, none⟩ = some (.int .i64 (q' : Int)) := fun W' h => (h.cell (p := ⟨x, 1, none⟩) lx).trans k1
      have j2 : ∀ W', Below w1.heap.size w1 W' → W'.cell? ⟨x, 2, none⟩ = some (.int .i64 y') := fun W' h => (h.cell (p := ⟨x, 2, none⟩) lx).trans k2
      have cAt := Lib.hid (fun W' (h : Below w1.heap.size w1 W') => at_any r q' W' ((hb1.rd.ahead h).blk.cell 1))
      have cErr := Lib.hid (fun W' (h : Below w1.heap.size w1 W') => err_any r y' W' ((hb1.rd.ahead h).blk.cell 2))
      have cLeft := Lib.hid (fun W' (h : Below w1.heap.size w1 W') => left_any r a cap bs q' y' W' (hb1.rd.ahead h))
      have cRLeft := Lib.hid (fun W' (h : Below w1.heap.size w1 W') => rleft_o x a3 c3 bs q' y' W' (hb1.rf.ahead' h))
      have hb1' := Lib.hid hb1
      clear hb1 k1 k2 hx1 hHeld f0 f1 f2
      generalize leftO bs q' y' = lo at *
      have hHeld : Below w1.heap.size w1 w1 := Below.refl _ _
      refine wpAnyH_take (i := 7) (oi := { dst := some 45, op := Go.Op.unOp Go.UnOp.not 4 (Go.Operand.tmp 44), type := 4, pos := "law.go:78", after := #[{ on := 6, ground := Go.Ground.data }], guard := none }) (v := ?v7) rfl (by kernel_rfl) (by kernel_rfl) (by kernel_rfl) (fun _ _ _ h => h) (Or.inl ⟨by kernel_rfl, ?h7⟩) (by assumption) ?r7
      case h7 => (intro w hSw; (try dsimp only at hSw); go_simp; try with_reducible rfl)
      try simp only [Act.put, List.setIfInBounds_toArray, List.set_cons_zero, List.set_cons_succ]
      refine wpAnyH_take (i := 8) (oi := { dst := some 46, op := Go.Op.move (Go.Operand.tmp 45), type := 4, pos := "law.go:78", after := #[{ on := 7, ground := Go.Ground.data }, { on := 6, ground := Go.Ground.chain }], guard := none }) (v := ?v8) rfl (by kernel_rfl) (by kernel_rfl) (by kernel_rfl) (fun _ _ _ h => h) (Or.inl ⟨by kernel_rfl, ?h8⟩) (by assumption) ?r8
      case h8 => (intro w hSw; (try dsimp only at hSw); go_simp; try with_reducible rfl)
      try simp only [Act.put, List.setIfInBounds_toArray, List.set_cons_zero, List.set_cons_succ]
      refine wpAnyH_take (i := 9) (oi := { dst := some 47, op := Go.Op.move (Go.Operand.tmp 5), type := 25, pos := "law.go:78", after := #[{ on := 8, ground := Go.Ground.guard }], guard := some (8, false) }) (v := ?v9) rfl (by kernel_rfl) (by kernel_rfl) (by kernel_rfl) (fun _ _ _ h => h) (Or.inl ⟨by kernel_rfl, ?h9⟩) (by assumption) ?r9
      case h9 => (intro w hSw; (try dsimp only at hSw); go_simp; try with_reducible rfl)
      try simp only [Act.put, List.setIfInBounds_toArray, List.set_cons_zero, List.set_cons_succ]
      refine wpAnyH_take (i := 11) (oi := { dst := some 49, op := Go.Op.move (Go.Operand.tmp 6), type := 27, pos := "law.go:78", after := #[{ on := 8, ground := Go.Ground.guard }], guard := some (8, false) }) (v := ?v10) rfl (by kernel_rfl) (by kernel_rfl) (by kernel_rfl) (fun _ _ _ h => h) (Or.inl ⟨by kernel_rfl, ?h10⟩) (by assumption) ?r10
      case h10 => (intro w hSw; (try dsimp only at hSw); go_simp; try with_reducible rfl)
      try simp only [Act.put, List.setIfInBounds_toArray, List.set_cons_zero, List.set_cons_succ]
      refine wpAnyH_take (i := 12) (oi := { dst := some 50, op := Go.Op.nilCheck (Go.Operand.tmp 49), type := 0, pos := "law.go:78", after := #[{ on := 11, ground := Go.Ground.data }, { on := 8, ground := Go.Ground.guard }], guard := some (8, false) }) (v := ?v11) rfl (by kernel_rfl) (by kernel_rfl) (by kernel_rfl) (fun _ _ _ h => h) (Or.inl ⟨by kernel_rfl, ?h11⟩) (by assumption) ?r11
      case h11 => (intro w hSw; (try dsimp only at hSw); go_simp; try with_reducible rfl)
      try simp only [Act.put, List.setIfInBounds_toArray, List.set_cons_zero, List.set_cons_succ]
      refine wpAnyH_take (i := 13) (oi := { dst := some 51, op := Go.Op.fieldAddr 30 (Go.Operand.tmp 50) 1, type := 0, pos := "law.go:78", after := #[{ on := 12, ground := Go.Ground.data }, { on := 8, ground := Go.Ground.guard }], guard := some (8, false) }) (v := ?v12) rfl (by kernel_rfl) (by kernel_rfl) (by kernel_rfl) (fun _ _ _ h => h) (Or.inl ⟨by kernel_rfl, ?h12⟩) (by assumption) ?r12
      case h12 => (intro w hSw; (try dsimp only at hSw); go_simp; try with_reducible rfl)
      try simp only [Act.put, List.setIfInBounds_toArray, List.set_cons_zero, List.set_cons_succ]
      refine wpAnyH_take (i := 14) (oi := { dst := some 52, op := Go.Op.load 3 (Go.Operand.tmp 51), type := 3, pos := "law.go:78", after := #[{ on := 13, ground := Go.Ground.data }, { on := 8, ground := Go.Ground.guard }], guard := some (8, false) }) (v := ?v13) rfl (by kernel_rfl) (by kernel_rfl) (by kernel_rfl) (fun _ _ _ h => h) (Or.inl ⟨by kernel_rfl, ?h13⟩) (by assumption) ?r13
      case h13 => (intro w hSw; (try dsimp only at hSw); go_simp; try with_reducible rfl)
      try simp only [Act.put, List.setIfInBounds_toArray, List.set_cons_zero, List.set_cons_succ]
      refine wpAnyH_ready (rs := [10]) (by kernel_rfl) (by simp) ?_
      refine AllReadyH.cons (o := { dst := some 48, op := Go.Op.call { callee := Go.Callee.value (Go.Operand.func 9), args := #[Go.Operand.tmp 47], argTypes := #[25] }, type := 3, pos := "law.go:78", after := #[{ on := 9, ground := Go.Ground.data }, { on := 8, ground := Go.Ground.chain }, { on := 8, ground := Go.Ground.guard }], guard := some (8, false) }) rfl (fun K hK => ?_) AllReadyH.nil
      go_simp
      refine (cAt.out _ hHeld).mono ?_
      rintro e w2 ⟨rfl, rfl⟩
      go_simp
      refine hK.out _ _ hHeld (fun hHeld => ?_)
      clear hK K
      try simp only [Act.put, List.setIfInBounds_toArray, List.set_cons_zero, List.set_cons_succ]
      refine wpAnyH_take (i := 15) (oi := { dst := some 53, op := Go.Op.binOp Go.BinOp.neq 3 (Go.Operand.tmp 48) (Go.Operand.tmp 52) 3, type := 4, pos := "law.go:78", after := #[{ on := 10, ground := Go.Ground.data }, { on := 14, ground := Go.Ground.data }, { on := 8, ground := Go.Ground.guard }], guard := some (8, false) }) (v := ?v14) rfl (by kernel_rfl) (by kernel_rfl) (by kernel_rfl) (fun _ _ _ h => h) (Or.inl ⟨by kernel_rfl, ?h14⟩) (by assumption) ?r14
      case h14 => (intro w hSw; (try dsimp only at hSw); go_simp; try with_reducible rfl)
      try simp only [Act.put, List.setIfInBounds_toArray, List.set_cons_zero, List.set_cons_succ]
      refine wpAnyH_take (i := 16) (oi := { dst := some 54, op := Go.Op.pick (Go.Operand.tmp 46) (Go.Operand.const (Go.Value.bool true)) (Go.Operand.tmp 53), type := 4, pos := "law.go:78", after := #[{ on := 8, ground := Go.Ground.data }, { on := 15, ground := Go.Ground.data }], guard := none }) (v := ?v15) rfl (by kernel_rfl) (by kernel_rfl) (by kernel_rfl) (fun _ _ _ h => h) (Or.inl ⟨by kernel_rfl, ?h15⟩) (by assumption) ?r15
      case h15 => (intro w hSw; (try dsimp only at hSw); go_simp; try with_reducible rfl)
      try simp only [Act.put, List.setIfInBounds_toArray, List.set_cons_zero, List.set_cons_succ]
      refine wpAnyH_take (i := 17) (oi := { dst := some 55, op := Go.Op.move (Go.Operand.tmp 54), type := 4, pos := "law.go:78", after := #[{ on := 16, ground := Go.Ground.data }, { on := 10, ground := Go.Ground.chain }], guard := none }) (v := ?v16) rfl (by kernel_rfl) (by kernel_rfl) (by kernel_rfl) (fun _ _ _ h => h) (Or.inl ⟨by kernel_rfl, ?h16⟩) (by assumption) ?r16
      case h16 => (intro w hSw; (try dsimp only at hSw); go_simp; try with_reducible rfl)
      try simp only [Act.put, List.setIfInBounds_toArray, List.set_cons_zero, List.set_cons_succ]
      refine wpAnyH_take (i := 18) (oi := { dst := some 56, op := Go.Op.move (Go.Operand.tmp 5), type := 25, pos := "law.go:78", after := #[{ on := 17, ground := Go.Ground.guard }], guard := some (17, false) }) (v := ?v17) rfl (by kernel_rfl) (by kernel_rfl) (by kernel_rfl) (fun _ _ _ h => h) (Or.inl ⟨by kernel_rfl, ?h17⟩) (by assumption) ?r17
      case h17 => (intro w hSw; (try dsimp only at hSw); go_simp; try with_reducible rfl)
      try simp only [Act.put, List.setIfInBounds_toArray, List.set_cons_zero, List.set_cons_succ]
      refine wpAnyH_take (i := 20) (oi := { dst := some 58, op := Go.Op.move (Go.Operand.tmp 6), type := 27, pos := "law.go:78", after := #[{ on := 17, ground := Go.Ground.guard }], guard := some (17, false) }) (v := ?v18) rfl (by kernel_rfl) (by kernel_rfl) (by kernel_rfl) (fun _ _ _ h => h) (Or.inl ⟨by kernel_rfl, ?h18⟩) (by assumption) ?r18
      case h18 => (intro w hSw; (try dsimp only at hSw); go_simp; try with_reducible rfl)
      try simp only [Act.put, List.setIfInBounds_toArray, List.set_cons_zero, List.set_cons_succ]
      refine wpAnyH_ready (rs := [19]) (by kernel_rfl) (by simp) ?_
      refine AllReadyH.cons (o := { dst := some 57, op := Go.Op.call { callee := Go.Callee.value (Go.Operand.func 10), args := #[Go.Operand.tmp 56], argTypes := #[25] }, type := 3, pos := "law.go:78", after := #[{ on := 18, ground := Go.Ground.data }, { on := 17, ground := Go.Ground.chain }, { on := 17, ground := Go.Ground.guard }], guard := some (17, false) }) rfl (fun K hK => ?_) AllReadyH.nil
      go_simp
      refine (cLeft.out _ hHeld).mono ?_
      rintro e w2 ⟨rfl, m1, rfl⟩
      go_simp
      refine hK.out _ _ (Below.drewN hHeld m1) (fun hHeld => ?_)
      clear hK K
      try simp only [Act.put, List.setIfInBounds_toArray, List.set_cons_zero, List.set_cons_succ]
      refine wpAnyH_ready (rs := [21]) (by kernel_rfl) (by simp) ?_
      refine AllReadyH.cons (o := { dst := some 59, op := Go.Op.call { callee := Go.Callee.value (Go.Operand.func 11), args := #[Go.Operand.tmp 58], argTypes := #[27] }, type := 3, pos := "law.go:78", after := #[{ on := 20, ground := Go.Ground.data }, { on := 19, ground := Go.Ground.chain }, { on := 17, ground := Go.Ground.guard }], guard := some (17, false) }) rfl (fun K hK => ?_) AllReadyH.nil
      go_simp
      refine (cRLeft.out _ hHeld).mono ?_
      rintro e w2 ⟨rfl, m2, rfl⟩
      go_simp
      refine hK.out _ _ (Below.drewN (Below.refl _ w1) (m1 + m2)) (fun hHeld => ?_)
      clear hK K
      try simp only [Act.put, List.setIfInBounds_toArray, List.set_cons_zero, List.set_cons_succ]
      refine wpAnyH_take (i := 22) (oi := { dst := some 60, op := Go.Op.binOp Go.BinOp.neq 3 (Go.Operand.tmp 57) (Go.Operand.tmp 59) 3, type := 4, pos := "law.go:78", after := #[{ on := 19, ground := Go.Ground.data }, { on := 21, ground := Go.Ground.data }, { on := 17, ground := Go.Ground.guard }], guard := some (17, false) }) (v := ?v19) rfl (by kernel_rfl) (by kernel_rfl) (by kernel_rfl) (fun _ _ _ h => h) (Or.inl ⟨by kernel_rfl, ?h19⟩) (by assumption) ?r19
      case h19 => (intro w hSw; (try dsimp only at hSw); go_simp; try with_reducible rfl)
      try simp only [Act.put, List.setIfInBounds_toArray, List.set_cons_zero, List.set_cons_succ]
      refine wpAnyH_take (i := 23) (oi := { dst := some 61, op := Go.Op.pick (Go.Operand.tmp 55) (Go.Operand.const (Go.Value.bool true)) (Go.Operand.tmp 60), type := 4, pos := "law.go:78", after := #[{ on := 17, ground := Go.Ground.data }, { on := 22, ground := Go.Ground.data }], guard := none }) (v := ?v20) rfl (by kernel_rfl) (by kernel_rfl) (by kernel_rfl) (fun _ _ _ h => h) (Or.inl ⟨by kernel_rfl, ?h20⟩) (by assumption) ?r20
      case h20 => (intro w hSw; (try dsimp only at hSw); go_simp; try with_reducible rfl)
      try simp only [Act.put, List.setIfInBounds_toArray, List.set_cons_zero, List.set_cons_succ]
      refine wpAnyH_take (i := 24) (oi := { dst := some 62, op := Go.Op.move (Go.Operand.tmp 61), type := 4, pos := "law.go:78", after := #[{ on := 23, ground := Go.Ground.data }, { on := 21, ground := Go.Ground.chain }], guard := none }) (v := ?v21) rfl (by kernel_rfl) (by kernel_rfl) (by kernel_rfl) (fun _ _ _ h => h) (Or.inl ⟨by kernel_rfl, ?h21⟩) (by assumption) ?r21
      case h21 => (intro w hSw; (try dsimp only at hSw); go_simp; try with_reducible rfl)
      try simp only [Act.put, List.setIfInBounds_toArray, List.set_cons_zero, List.set_cons_succ]
      refine wpAnyH_take (i := 25) (oi := { dst := some 63, op := Go.Op.move (Go.Operand.tmp 5), type := 25, pos := "law.go:78", after := #[{ on := 24, ground := Go.Ground.guard }], guard := some (24, false) }) (v := ?v22) rfl (by kernel_rfl) (by kernel_rfl) (by kernel_rfl) (fun _ _ _ h => h) (Or.inl ⟨by kernel_rfl, ?h22⟩) (by assumption) ?r22
      case h22 => (intro w hSw; (try dsimp only at hSw); go_simp; try with_reducible rfl)
      try simp only [Act.put, List.setIfInBounds_toArray, List.set_cons_zero, List.set_cons_succ]
      refine wpAnyH_take (i := 27) (oi := { dst := some 65, op := Go.Op.move (Go.Operand.tmp 6), type := 27, pos := "law.go:78", after := #[{ on := 24, ground := Go.Ground.guard }], guard := some (24, false) }) (v := ?v23) rfl (by kernel_rfl) (by kernel_rfl) (by kernel_rfl) (fun _ _ _ h => h) (Or.inl ⟨by kernel_rfl, ?h23⟩) (by assumption) ?r23
      case h23 => (intro w hSw; (try dsimp only at hSw); go_simp; try with_reducible rfl)
      try simp only [Act.put, List.setIfInBounds_toArray, List.set_cons_zero, List.set_cons_succ]
      refine wpAnyH_take (i := 28) (oi := { dst := some 66, op := Go.Op.nilCheck (Go.Operand.tmp 65), type := 0, pos := "law.go:78", after := #[{ on := 27, ground := Go.Ground.data }, { on := 24, ground := Go.Ground.guard }], guard := some (24, false) }) (v := ?v24) rfl (by kernel_rfl) (by kernel_rfl) (by kernel_rfl) (fun _ _ _ h => h) (Or.inl ⟨by kernel_rfl, ?h24⟩) (by assumption) ?r24
      case h24 => (intro w hSw; (try dsimp only at hSw); go_simp; try with_reducible rfl)
      try simp only [Act.put, List.setIfInBounds_toArray, List.set_cons_zero, List.set_cons_succ]
      refine wpAnyH_take (i := 29) (oi := { dst := some 67, op := Go.Op.fieldAddr 30 (Go.Operand.tmp 66) 2, type := 0, pos := "law.go:78", after := #[{ on := 28, ground := Go.Ground.data }, { on := 24, ground := Go.Ground.guard }], guard := some (24, false) }) (v := ?v25) rfl (by kernel_rfl) (by kernel_rfl) (by kernel_rfl) (fun _ _ _ h => h) (Or.inl ⟨by kernel_rfl, ?h25⟩) (by assumption) ?r25
      case h25 => (intro w hSw; (try dsimp only at hSw); go_simp; try with_reducible rfl)
      try simp only [Act.put, List.setIfInBounds_toArray, List.set_cons_zero, List.set_cons_succ]
      refine wpAnyH_take (i := 30) (oi := { dst := some 68, op := Go.Op.load 28 (Go.Operand.tmp 67), type := 28, pos := "law.go:78", after := #[{ on := 29, ground := Go.Ground.data }, { on := 24, ground := Go.Ground.guard }], guard := some (24, false) }) (v := ?v26) rfl (by kernel_rfl) (by kernel_rfl) (by kernel_rfl) (fun _ _ _ h => h) (Or.inl ⟨by kernel_rfl, ?h26⟩) (by assumption) ?r26
      case h26 => (intro w hSw; (try dsimp only at hSw); go_simp; try with_reducible rfl)
      try simp only [Act.put, List.setIfInBounds_toArray, List.set_cons_zero, List.set_cons_succ]
      refine wpAnyH_ready (rs := [26]) (by kernel_rfl) (by simp) ?_
      refine AllReadyH.cons (o := { dst := some 64, op := Go.Op.call { callee := Go.Callee.value (Go.Operand.func 12), args := #[Go.Operand.tmp 63], argTypes := #[25] }, type := 28, pos := "law.go:78", after := #[{ on := 25, ground := Go.Ground.data }, { on := 24, ground := Go.Ground.chain }, { on := 24, ground := Go.Ground.guard }], guard := some (24, false) }) rfl (fun K hK => ?_) AllReadyH.nil
      go_simp
      refine (cErr.out _ hHeld).mono ?_
      rintro e w2 ⟨rfl, rfl⟩
      go_simp
      refine hK.out _ _ hHeld (fun hHeld => ?_)
      clear hK K
      try simp only [Act.put, List.setIfInBounds_toArray, List.set_cons_zero, List.set_cons_succ]
      refine wpAnyH_take (i := 31) (oi := { dst := some 69, op := Go.Op.binOp Go.BinOp.neq 28 (Go.Operand.tmp 64) (Go.Operand.tmp 68) 28, type := 4, pos := "law.go:78", after := #[{ on := 26, ground := Go.Ground.data }, { on := 30, ground := Go.Ground.data }, { on := 24, ground := Go.Ground.guard }], guard := some (24, false) }) (v := ?v27) rfl (by kernel_rfl) (by kernel_rfl) (by kernel_rfl) (fun _ _ _ h => h) (Or.inl ⟨by kernel_rfl, ?h27⟩) (by assumption) ?r27
      case h27 => (intro w hSw; (try dsimp only at hSw); go_simp; try with_reducible rfl)
      try simp only [Act.put, List.setIfInBounds_toArray, List.set_cons_zero, List.set_cons_succ]
      refine wpAnyH_take (i := 32) (oi := { dst := some 70, op := Go.Op.pick (Go.Operand.tmp 62) (Go.Operand.const (Go.Value.bool true)) (Go.Operand.tmp 69), type := 4, pos := "law.go:78", after := #[{ on := 24, ground := Go.Ground.data }, { on := 31, ground := Go.Ground.data }], guard := none }) (v := ?v28) rfl (by kernel_rfl) (by kernel_rfl) (by kernel_rfl) (fun _ _ _ h => h) (Or.inl ⟨by kernel_rfl, ?h28⟩) (by assumption) ?r28
      case h28 => (intro w hSw; (try dsimp only at hSw); go_simp; try with_reducible rfl)
      try simp only [Act.put, List.setIfInBounds_toArray, List.set_cons_zero, List.set_cons_succ]
      refine wpAnyH_done (by kernel_rfl) ?_ _
      go_wp2
      go_roundw
      case rel =>
        have hz : BelowE [r, x] w.heap.size wr w1 := hx2.out.mono hbe'.out.size
        exact ⟨k + 1, q', y', by omega, by go_num, hb1'.out.below (Below.drewN (Below.refl _ _) (m1 + m2)), Below.drewN (hbe'.out.trans (hz.toBelow (by simp; omega))) (m1 + m2)⟩
      case measure => simp [intOf]; omega
    · go_wp2
      go_ret
      exact ⟨rfl, hbe⟩
end Go.Proofs.Ytnojapdcdjpebaa
