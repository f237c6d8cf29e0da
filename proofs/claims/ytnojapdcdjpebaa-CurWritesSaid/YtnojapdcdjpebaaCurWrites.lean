/- CurWrites: the walk of the statement's function. -/
import Derived.Test.YtnojapdcdjpebaaCurCat
import Derived.Test.YtnojapdcdjpebaaCurOps
import Derived.Test.YtnojapdcdjpebaaDrawn
namespace Go.Proofs.Ytnojapdcdjpebaa
open Go.RowKit
set_option linter.unusedVariables false
set_option linter.unusedSimpArgs false

/-- Behind an append to 'want' the pen is as it was. -/
theorem pn_grown {w w' : World} {g : Nat} {F : List Nat} {l : List Int} {v : Value} (h : Pn w g F l) (hg : w.grownBy w' v.ownBlock) (hv : ∀ k, v.ownBlock = some k → k ∉ F) : Pn w' g F l :=
  h.belowE (X := v.ownBlock.toList) ((BelowE.refl _ _ _).grown hg (Nat.le_refl _) (fun k hk _ => by simp [hk])) (fun x hx hm => by
    simp at hm
    exact hv x hm hx)

set_option maxRecDepth 100000 in
set_option maxHeartbeats 8000000 in
theorem curWrites_walk (w : World) (ro : Option Addr) (len co : Nat) (hrow : OpSl w ro len co) :
    Calls Try.prog 4 #[.slice ro len co] w (Gives (.bool true) w) := by
  obtain ⟨i0, hi, hz0, hz1, hz2⟩ := info_parts infoU8
  obtain ⟨hlc, hcm, K, M, Z, hops⟩ := hrow
  unfold maxLen at hcm
  by_cases hbig : 200 < len
  · go_enter Try.func4, Try.ntmps4
    go_wp2_with fail
    refine (lives_any _).mono ?_
    rintro e w' ⟨rfl, hb'⟩
    go_wp2
    go_ret
    exact ⟨rfl, hb'⟩
  have hd1 : decide ((200 : Int) < (len : Int)) = false := by simp; omega
  have hll : len ≤ 200 := by omega
  clear hbig
  have hops' := Lib.hid hops
  clear hops
  go_enter Try.func4, Try.ntmps4
  go_wp2_with fail
  refine (new_any w).mono ?_
  rintro e w1 ⟨g, F0, rfl, hp0, hb0, hF0⟩
  go_wp2_with fail
  refine (lives_any _).mono ?_
  rintro e w2 ⟨rfl, hb2⟩
  replace hp0 := hp0.below hb2
  replace hb0 := hb0.trans (hb2.mono hb0.size)
  clear hb2 w1
  have hp0' := Lib.hid hp0
  have hb0' := Lib.hid hb0
  have hF0' := Lib.hid hF0
  clear hp0 hb0 hF0
  go_wp2
  go_loopw [4, 5] (fun v i wr => ∃ (k : Nat) (F : List Nat), k ≤ len ∧ i = .int .i64 k ∧ Pn wr g F (cat K M Z k) ∧ wr.ownsRow w.heap.size 5 1 v (cat K M Z k).length (nums .u8 (cat K M Z k)) ∧ (∀ b, v.ownBlock = some b → b ∉ F) ∧ (∀ x ∈ F, w.heap.size ≤ x) ∧ Below w.heap.size w wr ∧ (cat K M Z k).length ≤ 1010 * k ∧ (∀ i, i < k → (Z i).size ≤ 1000)) (fun _ i _ => len - (intOf i).toNat)
  case atStart => exact ⟨0, F0, Nat.zero_le _, rfl, hp0'.out, ⟨rfl, .inl ⟨rfl, rfl⟩⟩, fun b hb => by simp [Value.ownBlock] at hb, hF0'.out, hb0'.out, by simp [cat], fun i hi => by omega⟩
  case round =>
    obtain ⟨k, F, hk, rfl, hp, hown, hvF, hF, hbe, hcl, hzs⟩ := hrel
    have hvv : ∃ aa cc, u4 = .slice aa (cat K M Z k).length cc := by obtain ⟨aa, cc, h, _⟩ := sees_own hown; exact ⟨aa, cc, h⟩
    by_cases hlt : k < len
    · rcases hops'.out with h0 | ⟨b, off, rfl, hbl, hcell⟩
      · omega
      obtain ⟨g0, g1, g2, g3, g4⟩ := hcell k hlt
      replace g0 := (hbe.cell (p := ⟨b, _, none⟩) hbl).trans g0
      replace g1 := (hbe.cell (p := ⟨b, _, none⟩) hbl).trans g1
      replace g2 := (hbe.cell (p := ⟨b, _, none⟩) hbl).trans g2
      rw [← Nat.add_assoc] at g1 g2
      have g4' := g4
      unfold maxLen at g4'
      by_cases hlong : 1000 < (Z k).size
      · clear hcell
        generalize Z k = zz at *
        go_wp2
        go_ret
        exact ⟨rfl, hbe⟩
      · have hd2 : decide ((1000 : Int) < ((Z k).size : Int)) = false := by simp; omega
        have hzk : (Z k).size ≤ 1000 := by omega
        have hnext := opB_len (K k) (M k) (Z k) g3 hzk
        have hcat : cat K M Z (k + 1) = cat K M Z k ++ opB (K k) (M k) (Z k) := rfl
        have hput := Lib.hid (puts_any (K k) g F (cat K M Z k) (by omega) (M k) g3 (Z k) hzk wr hp)
        have hzs' : Hid (∀ i, i < k + 1 → (Z i).size ≤ 1000) := Lib.hid fun i hi => by
          by_cases h : i = k
          · subst h; exact hzk
          · exact hzs i (by omega)
        have hcat' := Lib.hid hcat
        have hcl' := Lib.hid hcl
        have hnext' := Lib.hid hnext
        have hbe' := Lib.hid hbe
        have hF' := Lib.hid hF
        have hp' := Lib.hid hp
        clear hcell hcat hcl hnext hlong hzs hbe hF hp
        obtain ⟨aa, cc, rfl⟩ := hvv
        generalize K k = kk at *
        generalize M k = mm at *
        generalize Z k = zz at *
        generalize opB kk mm zz = ob at *
        generalize cat K M Z k = cl at *
        go_wp2_with fail
        refine hput.out.mono ?_
        rintro e w3 ⟨v3, F3, rfl, p3, t3, o3, n3⟩
        obtain ⟨a3, c3, rfl, -, s3⟩ := sees_own o3
        have o4 := own_zero (own_belowE hown t3.1 hvF)
        have n4 : ∀ b, (Value.slice aa cl.length cc).ownBlock = some b → b ∉ F3 := fun b hb hm => by
          rcases t3.2 b hm with h | h
          · exact hvF b hb h
          · have := (hown.lt b hb).2; omega
        have bd : cl.length + ob.length ≤ 300000 := by have := hcl'.out; have := hnext'.out; omega
        have bd' := Lib.hid bd
        clear bd
        go_wp2_with (at_builtin; refine wpList_append_foot _ rfl (.tmp 34) (.tmp 40) 22 rfl 5 i0 (.int .u8 0) 1 Try.underlying22 hi hz0 hz1 hz2 rfl .u8 _ cl o4 w3.heap.size a3 ob s3 ob.length c3 rfl rfl rfl (by have := bd'.out; simp [maxLen]; omega) (by have := bd'.out; omega) ?_; intro v5 w5 o5 grow5 blk5)
        go_roundw
        case rel =>
          have hF3 : ∀ x ∈ F3, w.heap.size ≤ x := fun x hx => (t3.2 x hx).elim (hF'.out x) fun h => Nat.le_trans hbe'.out.size h
          have hb3 : Below w.heap.size w w3 := hbe'.out.trans ((t3.1.mono hbe'.out.size).toBelow hF'.out)
          have hvw : ∀ b, (Value.slice aa cl.length cc).ownBlock = some b → w.heap.size ≤ b := fun b hb => (hown.lt b hb).1
          refine ⟨k + 1, F3, by omega, by go_num, ?_, ?_, ?_, hF3, hb3.grown grow5 hb3.size hvw, ?_, hzs'.out⟩
          · rw [hcat'.out]; exact pn_grown p3 grow5 n4
          · rw [hcat'.out]
            refine own_from o5 fun b hb => ?_
            rcases blk5 with h | h
            · rw [h] at hb; exact hvw b hb
            · rw [h] at hb; injection hb with hb; have := hb3.size; omega
          · intro b hb
            rcases blk5 with h | h
            · rw [h] at hb; exact n4 b hb
            · rw [h] at hb
              injection hb with hb
              intro hm
              have := p3.all b hm
              omega
          · rw [hcat'.out]; have := hcl'.out; have := hnext'.out; simp; omega
        case measure => simp [intOf]; omega
    · have hkl : k = len := by omega
      subst hkl
      clear hlt hk
      have hLb := cat_bs K M Z k
      have hLl : (cat K M Z k).length ≤ 202000 := by omega
      obtain ⟨L, hL⟩ : ∃ L, L = cat K M Z k := ⟨_, rfl⟩
      rw [← hL] at hp hown hLb hLl hvv
      have hL' := Lib.hid hL
      have hzs' := Lib.hid hzs
      have hbe' := Lib.hid hbe
      have hLl' := Lib.hid hLl
      have hLb' := Lib.hid hLb
      clear hL hcl hzs hbe hLl hLb
      obtain ⟨aa, cc, rfl⟩ := hvv
      have sw : Sees .u8 wr.heap.size wr aa L := by
        obtain ⟨x1, x2, h, _, hs⟩ := sees_own hown
        injection h with h1
        subst h1
        exact hs
      go_wp2_with fail
      refine (pbytes_any g F L wr hp (by have := hLl'.out; omega)).mono ?_
      intro e w3 h3
      obtain ⟨a3, c3, rfl, s3, b3⟩ := h3.open L.length rfl
      clear h3
      have sw3 := sw.below b3
      have hb3 := hbe'.out.trans (b3.mono hbe'.out.size)
      have z3 := b3.size
      clear b3 sw hp hown hvF
      go_wp2_with fail
      refine (from_any a3 L L.length c3 rfl _ w3 (by have := hLl'.out; omega) hLb'.out s3).mono ?_
      rintro e w4 ⟨r, a4, c4, rfl, R, b4, hr⟩
      have hrw : w.heap.size ≤ r := Nat.le_trans hb3.size hr
      have hcv1 : (convert 22 9 (.slice a3 L.length c3)).run Try.prog w4 = .ok (.string (strOfNums L)) w4 := conv_sees _ 9 5 Try.underlying22 Try.underlying5 Try.underlying9 (s3.below b4) L.length c3 rfl
      have hcv2 : (convert 22 9 (.slice aa L.length cc)).run Try.prog w4 = .ok (.string (strOfNums L)) w4 := conv_sees _ 9 5 Try.underlying22 Try.underlying5 Try.underlying9 (sw3.below (b4.mono z3)) L.length cc rfl
      have hb4 := hb3.trans (b4.mono hb3.size)
      have R' := Lib.hid R
      have hb4' := Lib.hid hb4
      have hbl : Hid (L.length ≤ 202000) := hLl'
      clear R hb4 b4 s3 sw3 hb3 hr z3
      go_wp2
      clear hcv1 hcv2
      go_loopw [8] (fun i wz => ∃ (j : Nat), j ≤ k ∧ i = .int .i64 j ∧ Rd wz r a4 c4 L (cat K M Z j).length 0 ∧ Below w.heap.size w wz) (fun i _ => k - (intOf i).toNat)
      case atStart => exact ⟨0, Nat.zero_le _, rfl, R'.out, hb4'.out⟩
      case round =>
        obtain ⟨j, hj, rfl, hR, hbe⟩ := hrel
        by_cases hlt : j < k
        · rcases hops'.out with h0 | ⟨b, off, rfl, hbl, hcell⟩
          · omega
          obtain ⟨g0, g1, g2, g3, g4⟩ := hcell j hlt
          have hbr : ¬ b = r := by omega
          have hbwr : b < wr.heap.size := Nat.lt_of_lt_of_le hbl hbe.size
          replace g0 := (hbe.cell (p := ⟨b, _, none⟩) hbl).trans g0
          replace g1 := (hbe.cell (p := ⟨b, _, none⟩) hbl).trans g1
          replace g2 := (hbe.cell (p := ⟨b, _, none⟩) hbl).trans g2
          rw [← Nat.add_assoc] at g1 g2
          have f1 : ∀ W', BelowE [r] wr.heap.size wr W' → W'.cell? ⟨b, off + j * 3 + 1, none⟩ = some (.int .i64 (M j)) := fun W' h => (h.cell (p := ⟨b, _, none⟩) hbwr (by simp; omega)).trans g1
          have f2 : ∀ W', BelowE [r] wr.heap.size wr W' → W'.cell? ⟨b, off + j * 3 + 2, none⟩ = some (.string (Z j)) := fun W' h => (h.cell (p := ⟨b, _, none⟩) hbwr (by simp; omega)).trans g2
          have hzj := hzs'.out j hlt
          have hn2 := i64_wf g3
          obtain ⟨rest, hrest⟩ := cat_at K M Z hlt
          rw [← hL'.out] at hrest
          have hcat : (cat K M Z (j + 1)).length = (cat K M Z j).length + (opB (K j) (M j) (Z j)).length := by simp [cat]
          have hle : (cat K M Z (j + 1)).length ≤ L.length := by rw [hL'.out]; exact cat_le K M Z hlt
          have hRd : Rd wr.drew r a4 c4 L (cat K M Z j).length 0 := hR.ahead ((Below.refl _ _).drew)
          have hcat' := Lib.hid hcat
          have hle' := Lib.hid hle
          have hbe' := Lib.hid hbe
          have hR' := Lib.hid hR
          clear hcell hcat hle hbe hR
          generalize K j = kk at *
          generalize M j = mm at *
          generalize Z j = zz at *
          generalize hpp : (cat K M Z j).length = p at *
          clear hpp
          have hw64 : IntKind.u64.wrap mm = mm % 18446744073709551616 := IntKind.wrap_u64 mm
          have hw32 : IntKind.u32.wrap mm = mm % 4294967296 := IntKind.wrap_u32 mm
          have hw8 : IntKind.u8.wrap mm = mm % 256 := IntKind.wrap_u8 mm
          have hwi : IntKind.i64.wrap (mm % 256) = mm % 256 := IntWalk.i64_in _ (by omega)
          by_cases hk1 : kk = 1
          · subst hk1
            have hop : opB 1 mm zz = leb (mm % 18446744073709551616).toNat := by simp [opB]
            rw [hop] at hrest hcat'
            have hs := read_u (n := mm % 18446744073709551616) (by omega) (by omega) hrest
            have hc := u_any r a4 c4 L p 0 wr.drew hRd
            rw [hs, ← hcat'.out] at hc
            have hc' := Lib.hid hc
            clear hc hs hrest hop hRd
            go_wp2
            refine wp_drawn_on (fun W' => BelowE [r] wr.heap.size wr W') (by kernel_rfl) ((BelowE.refl _ _ _).drew) (fun hHeld => ?_)
            refine wpAnyH_take (i := 0) (oi := { dst := some 68, op := Go.Op.move (Go.Operand.tmp 7), type := 25, pos := "law.go:132", after := #[], guard := none }) (v := ?v1) rfl (by kernel_rfl) (by kernel_rfl) (by kernel_rfl) (fun _ _ _ h => h) (Or.inl ⟨by kernel_rfl, ?h1⟩) (by assumption) ?r1
            case h1 => (intro w hSw; (try dsimp only at hSw); go_simp; try with_reducible rfl)
            try simp only [Act.put, List.setIfInBounds_toArray, List.set_cons_zero, List.set_cons_succ]
            refine wpAnyH_take (i := 2) (oi := { dst := some 70, op := Go.Op.move (Go.Operand.tmp 0), type := 23, pos := "law.go:132", after := #[], guard := none }) (v := ?v2) rfl (by kernel_rfl) (by kernel_rfl) (by kernel_rfl) (fun _ _ _ h => h) (Or.inl ⟨by kernel_rfl, ?h2⟩) (by assumption) ?r2
            case h2 => (intro w hSw; (try dsimp only at hSw); go_simp; try with_reducible rfl)
            try simp only [Act.put, List.setIfInBounds_toArray, List.set_cons_zero, List.set_cons_succ]
            refine wpAnyH_take (i := 3) (oi := { dst := some 71, op := Go.Op.move (Go.Operand.tmp 8), type := 3, pos := "law.go:132", after := #[], guard := none }) (v := ?v3) rfl (by kernel_rfl) (by kernel_rfl) (by kernel_rfl) (fun _ _ _ h => h) (Or.inl ⟨by kernel_rfl, ?h3⟩) (by assumption) ?r3
            case h3 => (intro w hSw; (try dsimp only at hSw); go_simp; try with_reducible rfl)
            try simp only [Act.put, List.setIfInBounds_toArray, List.set_cons_zero, List.set_cons_succ]
            refine wpAnyH_take (i := 4) (oi := { dst := some 72, op := Go.Op.indexAddr 23 (Go.Operand.tmp 70) (Go.Operand.tmp 71), type := 0, pos := "law.go:132", after := #[{ on := 2, ground := Go.Ground.data }, { on := 3, ground := Go.Ground.data }], guard := none }) (v := ?v4) rfl (by kernel_rfl) (by kernel_rfl) (by kernel_rfl) (fun _ _ _ h => h) (Or.inl ⟨by kernel_rfl, ?h4⟩) (by assumption) ?r4
            case h4 => (intro w hSw; (try dsimp only at hSw); go_simp; try with_reducible rfl)
            try simp only [Act.put, List.setIfInBounds_toArray, List.set_cons_zero, List.set_cons_succ]
            refine wpAnyH_take (i := 5) (oi := { dst := some 73, op := Go.Op.fieldAddr 33 (Go.Operand.tmp 72) 1, type := 0, pos := "law.go:132", after := #[{ on := 4, ground := Go.Ground.data }], guard := none }) (v := ?v5) rfl (by kernel_rfl) (by kernel_rfl) (by kernel_rfl) (fun _ _ _ h => h) (Or.inl ⟨by kernel_rfl, ?h5⟩) (by assumption) ?r5
            case h5 => (intro w hSw; (try dsimp only at hSw); go_simp; try with_reducible rfl)
            try simp only [Act.put, List.setIfInBounds_toArray, List.set_cons_zero, List.set_cons_succ]
            refine wpAnyH_take (i := 6) (oi := { dst := some 74, op := Go.Op.load 3 (Go.Operand.tmp 73), type := 3, pos := "law.go:132", after := #[{ on := 5, ground := Go.Ground.data }], guard := none }) (v := ?v6) rfl (by kernel_rfl) (by kernel_rfl) (by kernel_rfl) (fun _ _ _ h => h) (Or.inl ⟨by kernel_rfl, ?h6⟩) (by assumption) ?r6
            case h6 => (intro w hSw; (try dsimp only at hSw); go_simp; try with_reducible rfl)
            try simp only [Act.put, List.setIfInBounds_toArray, List.set_cons_zero, List.set_cons_succ]
            refine wpAnyH_take (i := 7) (oi := { dst := some 75, op := Go.Op.convert 3 41 (Go.Operand.tmp 74), type := 41, pos := "law.go:132", after := #[{ on := 6, ground := Go.Ground.data }], guard := none }) (v := ?v7) rfl (by kernel_rfl) (by kernel_rfl) (by kernel_rfl) (fun _ _ _ h => h) (Or.inl ⟨by kernel_rfl, ?h7⟩) (by assumption) ?r7
            case h7 => (intro w hSw; (try dsimp only at hSw); go_simp; try with_reducible rfl)
            try simp only [Act.put, List.setIfInBounds_toArray, List.set_cons_zero, List.set_cons_succ]
            refine wpAnyH_ready (rs := [1]) (by kernel_rfl) (by simp) ?_
            refine AllReadyH.cons (o := { dst := some 69, op := Go.Op.call { callee := Go.Callee.value (Go.Operand.func 16), args := #[Go.Operand.tmp 68], argTypes := #[25] }, type := 41, pos := "law.go:132", after := #[{ on := 0, ground := Go.Ground.data }], guard := none }) rfl (fun K hK => ?_) AllReadyH.nil
            go_simp
            refine hc'.out.mono ?_
            rintro e w1 ⟨rfl, m1⟩
            go_simp
            refine hK.out _ _ (m1.2.fromDrew) (fun hHeld => ?_)
            clear hK K
            try simp only [Act.put, List.setIfInBounds_toArray, List.set_cons_zero, List.set_cons_succ]
            refine wpAnyH_take (i := 8) (oi := { dst := some 76, op := Go.Op.binOp Go.BinOp.eql 41 (Go.Operand.tmp 69) (Go.Operand.tmp 75) 41, type := 4, pos := "law.go:132", after := #[{ on := 1, ground := Go.Ground.data }, { on := 7, ground := Go.Ground.data }], guard := none }) (v := ?v8) rfl (by kernel_rfl) (by kernel_rfl) (by kernel_rfl) (fun _ _ _ h => h) (Or.inl ⟨by kernel_rfl, ?h8⟩) (by assumption) ?r8
            case h8 => (intro w hSw; (try dsimp only at hSw); go_simp; try with_reducible rfl)
            try simp only [Act.put, List.setIfInBounds_toArray, List.set_cons_zero, List.set_cons_succ]
            refine wpAnyH_take (i := 9) (oi := { dst := some 9, op := Go.Op.assign (Go.Operand.tmp 76), type := 4, pos := "law.go:132", after := #[{ on := 8, ground := Go.Ground.data }, { on := 1, ground := Go.Ground.chain }, { on := 0, ground := Go.Ground.phase }, { on := 1, ground := Go.Ground.phase }, { on := 2, ground := Go.Ground.phase }, { on := 3, ground := Go.Ground.phase }, { on := 4, ground := Go.Ground.phase }, { on := 5, ground := Go.Ground.phase }, { on := 6, ground := Go.Ground.phase }, { on := 7, ground := Go.Ground.phase }, { on := 8, ground := Go.Ground.phase }], guard := none }) (v := ?v9) rfl (by kernel_rfl) (by kernel_rfl) (by kernel_rfl) (fun _ _ _ h => h) (Or.inl ⟨by kernel_rfl, ?h9⟩) (by assumption) ?r9
            case h9 => (intro w hSw; (try dsimp only at hSw); go_simp; try with_reducible rfl)
            try simp only [Act.put, List.setIfInBounds_toArray, List.set_cons_zero, List.set_cons_succ]
            refine wpAnyH_done (by kernel_rfl) ?_ _
            go_wp2
            go_roundw
            case rel => exact ⟨j + 1, by omega, by go_num, hR'.out.moved ⟨m1.1, m1.2.fromDrew⟩ hle'.out, hbe'.out.trans ((m1.2.fromDrew.mono hbe'.out.size).toBelow (by simp; omega))⟩
            case measure => simp [intOf]; omega
          by_cases hk2 : kk = 2
          · subst hk2
            have hop : opB 2 mm zz = leb (zig mm).toNat := by simp [opB]
            rw [hop] at hrest hcat'
            have hs := read_i g3 hrest
            have hc := i_any r a4 c4 L p 0 wr.drew hRd
            rw [hs, ← hcat'.out] at hc
            have hc' := Lib.hid hc
            clear hc hs hrest hop hRd
            go_wp2
            refine wp_drawn_on (fun W' => BelowE [r] wr.heap.size wr W') (by kernel_rfl) ((BelowE.refl _ _ _).drew) (fun hHeld => ?_)
            refine wpAnyH_take (i := 0) (oi := { dst := some 79, op := Go.Op.move (Go.Operand.tmp 7), type := 25, pos := "law.go:134", after := #[], guard := none }) (v := ?v10) rfl (by kernel_rfl) (by kernel_rfl) (by kernel_rfl) (fun _ _ _ h => h) (Or.inl ⟨by kernel_rfl, ?h10⟩) (by assumption) ?r10
            case h10 => (intro w hSw; (try dsimp only at hSw); go_simp; try with_reducible rfl)
            try simp only [Act.put, List.setIfInBounds_toArray, List.set_cons_zero, List.set_cons_succ]
            refine wpAnyH_take (i := 2) (oi := { dst := some 81, op := Go.Op.move (Go.Operand.tmp 0), type := 23, pos := "law.go:134", after := #[], guard := none }) (v := ?v11) rfl (by kernel_rfl) (by kernel_rfl) (by kernel_rfl) (fun _ _ _ h => h) (Or.inl ⟨by kernel_rfl, ?h11⟩) (by assumption) ?r11
            case h11 => (intro w hSw; (try dsimp only at hSw); go_simp; try with_reducible rfl)
            try simp only [Act.put, List.setIfInBounds_toArray, List.set_cons_zero, List.set_cons_succ]
            refine wpAnyH_take (i := 3) (oi := { dst := some 82, op := Go.Op.move (Go.Operand.tmp 8), type := 3, pos := "law.go:134", after := #[], guard := none }) (v := ?v12) rfl (by kernel_rfl) (by kernel_rfl) (by kernel_rfl) (fun _ _ _ h => h) (Or.inl ⟨by kernel_rfl, ?h12⟩) (by assumption) ?r12
            case h12 => (intro w hSw; (try dsimp only at hSw); go_simp; try with_reducible rfl)
            try simp only [Act.put, List.setIfInBounds_toArray, List.set_cons_zero, List.set_cons_succ]
            refine wpAnyH_take (i := 4) (oi := { dst := some 83, op := Go.Op.indexAddr 23 (Go.Operand.tmp 81) (Go.Operand.tmp 82), type := 0, pos := "law.go:134", after := #[{ on := 2, ground := Go.Ground.data }, { on := 3, ground := Go.Ground.data }], guard := none }) (v := ?v13) rfl (by kernel_rfl) (by kernel_rfl) (by kernel_rfl) (fun _ _ _ h => h) (Or.inl ⟨by kernel_rfl, ?h13⟩) (by assumption) ?r13
            case h13 => (intro w hSw; (try dsimp only at hSw); go_simp; try with_reducible rfl)
            try simp only [Act.put, List.setIfInBounds_toArray, List.set_cons_zero, List.set_cons_succ]
            refine wpAnyH_take (i := 5) (oi := { dst := some 84, op := Go.Op.fieldAddr 33 (Go.Operand.tmp 83) 1, type := 0, pos := "law.go:134", after := #[{ on := 4, ground := Go.Ground.data }], guard := none }) (v := ?v14) rfl (by kernel_rfl) (by kernel_rfl) (by kernel_rfl) (fun _ _ _ h => h) (Or.inl ⟨by kernel_rfl, ?h14⟩) (by assumption) ?r14
            case h14 => (intro w hSw; (try dsimp only at hSw); go_simp; try with_reducible rfl)
            try simp only [Act.put, List.setIfInBounds_toArray, List.set_cons_zero, List.set_cons_succ]
            refine wpAnyH_take (i := 6) (oi := { dst := some 85, op := Go.Op.load 3 (Go.Operand.tmp 84), type := 3, pos := "law.go:134", after := #[{ on := 5, ground := Go.Ground.data }], guard := none }) (v := ?v15) rfl (by kernel_rfl) (by kernel_rfl) (by kernel_rfl) (fun _ _ _ h => h) (Or.inl ⟨by kernel_rfl, ?h15⟩) (by assumption) ?r15
            case h15 => (intro w hSw; (try dsimp only at hSw); go_simp; try with_reducible rfl)
            try simp only [Act.put, List.setIfInBounds_toArray, List.set_cons_zero, List.set_cons_succ]
            refine wpAnyH_ready (rs := [1]) (by kernel_rfl) (by simp) ?_
            refine AllReadyH.cons (o := { dst := some 80, op := Go.Op.call { callee := Go.Callee.value (Go.Operand.func 17), args := #[Go.Operand.tmp 79], argTypes := #[25] }, type := 2, pos := "law.go:134", after := #[{ on := 0, ground := Go.Ground.data }], guard := none }) rfl (fun K hK => ?_) AllReadyH.nil
            go_simp
            refine hc'.out.mono ?_
            rintro e w1 ⟨rfl, m1⟩
            go_simp
            refine hK.out _ _ (m1.2.fromDrew) (fun hHeld => ?_)
            clear hK K
            try simp only [Act.put, List.setIfInBounds_toArray, List.set_cons_zero, List.set_cons_succ]
            refine wpAnyH_take (i := 7) (oi := { dst := some 86, op := Go.Op.binOp Go.BinOp.eql 2 (Go.Operand.tmp 80) (Go.Operand.tmp 85) 2, type := 4, pos := "law.go:134", after := #[{ on := 1, ground := Go.Ground.data }, { on := 6, ground := Go.Ground.data }], guard := none }) (v := ?v16) rfl (by kernel_rfl) (by kernel_rfl) (by kernel_rfl) (fun _ _ _ h => h) (Or.inl ⟨by kernel_rfl, ?h16⟩) (by assumption) ?r16
            case h16 => (intro w hSw; (try dsimp only at hSw); go_simp; try with_reducible rfl)
            try simp only [Act.put, List.setIfInBounds_toArray, List.set_cons_zero, List.set_cons_succ]
            refine wpAnyH_take (i := 8) (oi := { dst := some 9, op := Go.Op.assign (Go.Operand.tmp 86), type := 4, pos := "law.go:134", after := #[{ on := 7, ground := Go.Ground.data }, { on := 1, ground := Go.Ground.chain }, { on := 0, ground := Go.Ground.phase }, { on := 1, ground := Go.Ground.phase }, { on := 2, ground := Go.Ground.phase }, { on := 3, ground := Go.Ground.phase }, { on := 4, ground := Go.Ground.phase }, { on := 5, ground := Go.Ground.phase }, { on := 6, ground := Go.Ground.phase }, { on := 7, ground := Go.Ground.phase }], guard := none }) (v := ?v17) rfl (by kernel_rfl) (by kernel_rfl) (by kernel_rfl) (fun _ _ _ h => h) (Or.inl ⟨by kernel_rfl, ?h17⟩) (by assumption) ?r17
            case h17 => (intro w hSw; (try dsimp only at hSw); go_simp; try with_reducible rfl)
            try simp only [Act.put, List.setIfInBounds_toArray, List.set_cons_zero, List.set_cons_succ]
            refine wpAnyH_done (by kernel_rfl) ?_ _
            go_wp2
            go_roundw
            case rel => exact ⟨j + 1, by omega, by go_num, hR'.out.moved ⟨m1.1, m1.2.fromDrew⟩ hle'.out, hbe'.out.trans ((m1.2.fromDrew.mono hbe'.out.size).toBelow (by simp; omega))⟩
            case measure => simp [intOf]; omega
          by_cases hk3 : kk = 3
          · subst hk3
            have hop : opB 3 mm zz = [mm % 256] := by simp [opB]
            rw [hop] at hrest hcat'
            have hs := read_byte hrest
            have hc := byte_any r a4 c4 L p 0 wr.drew hRd
            rw [hs, ← hcat'.out] at hc
            have hc' := Lib.hid hc
            clear hc hs hrest hop hRd
            go_wp2
            refine wp_drawn_on (fun W' => BelowE [r] wr.heap.size wr W') (by kernel_rfl) ((BelowE.refl _ _ _).drew) (fun hHeld => ?_)
            refine wpAnyH_take (i := 0) (oi := { dst := some 89, op := Go.Op.move (Go.Operand.tmp 7), type := 25, pos := "law.go:136", after := #[], guard := none }) (v := ?v18) rfl (by kernel_rfl) (by kernel_rfl) (by kernel_rfl) (fun _ _ _ h => h) (Or.inl ⟨by kernel_rfl, ?h18⟩) (by assumption) ?r18
            case h18 => (intro w hSw; (try dsimp only at hSw); go_simp; try with_reducible rfl)
            try simp only [Act.put, List.setIfInBounds_toArray, List.set_cons_zero, List.set_cons_succ]
            refine wpAnyH_take (i := 2) (oi := { dst := some 91, op := Go.Op.move (Go.Operand.tmp 0), type := 23, pos := "law.go:136", after := #[], guard := none }) (v := ?v19) rfl (by kernel_rfl) (by kernel_rfl) (by kernel_rfl) (fun _ _ _ h => h) (Or.inl ⟨by kernel_rfl, ?h19⟩) (by assumption) ?r19
            case h19 => (intro w hSw; (try dsimp only at hSw); go_simp; try with_reducible rfl)
            try simp only [Act.put, List.setIfInBounds_toArray, List.set_cons_zero, List.set_cons_succ]
            refine wpAnyH_take (i := 3) (oi := { dst := some 92, op := Go.Op.move (Go.Operand.tmp 8), type := 3, pos := "law.go:136", after := #[], guard := none }) (v := ?v20) rfl (by kernel_rfl) (by kernel_rfl) (by kernel_rfl) (fun _ _ _ h => h) (Or.inl ⟨by kernel_rfl, ?h20⟩) (by assumption) ?r20
            case h20 => (intro w hSw; (try dsimp only at hSw); go_simp; try with_reducible rfl)
            try simp only [Act.put, List.setIfInBounds_toArray, List.set_cons_zero, List.set_cons_succ]
            refine wpAnyH_take (i := 4) (oi := { dst := some 93, op := Go.Op.indexAddr 23 (Go.Operand.tmp 91) (Go.Operand.tmp 92), type := 0, pos := "law.go:136", after := #[{ on := 2, ground := Go.Ground.data }, { on := 3, ground := Go.Ground.data }], guard := none }) (v := ?v21) rfl (by kernel_rfl) (by kernel_rfl) (by kernel_rfl) (fun _ _ _ h => h) (Or.inl ⟨by kernel_rfl, ?h21⟩) (by assumption) ?r21
            case h21 => (intro w hSw; (try dsimp only at hSw); go_simp; try with_reducible rfl)
            try simp only [Act.put, List.setIfInBounds_toArray, List.set_cons_zero, List.set_cons_succ]
            refine wpAnyH_take (i := 5) (oi := { dst := some 94, op := Go.Op.fieldAddr 33 (Go.Operand.tmp 93) 1, type := 0, pos := "law.go:136", after := #[{ on := 4, ground := Go.Ground.data }], guard := none }) (v := ?v22) rfl (by kernel_rfl) (by kernel_rfl) (by kernel_rfl) (fun _ _ _ h => h) (Or.inl ⟨by kernel_rfl, ?h22⟩) (by assumption) ?r22
            case h22 => (intro w hSw; (try dsimp only at hSw); go_simp; try with_reducible rfl)
            try simp only [Act.put, List.setIfInBounds_toArray, List.set_cons_zero, List.set_cons_succ]
            refine wpAnyH_take (i := 6) (oi := { dst := some 95, op := Go.Op.load 3 (Go.Operand.tmp 94), type := 3, pos := "law.go:136", after := #[{ on := 5, ground := Go.Ground.data }], guard := none }) (v := ?v23) rfl (by kernel_rfl) (by kernel_rfl) (by kernel_rfl) (fun _ _ _ h => h) (Or.inl ⟨by kernel_rfl, ?h23⟩) (by assumption) ?r23
            case h23 => (intro w hSw; (try dsimp only at hSw); go_simp; try with_reducible rfl)
            try simp only [Act.put, List.setIfInBounds_toArray, List.set_cons_zero, List.set_cons_succ]
            refine wpAnyH_take (i := 7) (oi := { dst := some 96, op := Go.Op.convert 3 5 (Go.Operand.tmp 95), type := 5, pos := "law.go:136", after := #[{ on := 6, ground := Go.Ground.data }], guard := none }) (v := ?v24) rfl (by kernel_rfl) (by kernel_rfl) (by kernel_rfl) (fun _ _ _ h => h) (Or.inl ⟨by kernel_rfl, ?h24⟩) (by assumption) ?r24
            case h24 => (intro w hSw; (try dsimp only at hSw); go_simp; try with_reducible rfl)
            try simp only [Act.put, List.setIfInBounds_toArray, List.set_cons_zero, List.set_cons_succ]
            refine wpAnyH_take (i := 8) (oi := { dst := some 97, op := Go.Op.convert 5 3 (Go.Operand.tmp 96), type := 3, pos := "law.go:136", after := #[{ on := 7, ground := Go.Ground.data }], guard := none }) (v := ?v25) rfl (by kernel_rfl) (by kernel_rfl) (by kernel_rfl) (fun _ _ _ h => h) (Or.inl ⟨by kernel_rfl, ?h25⟩) (by assumption) ?r25
            case h25 => (intro w hSw; (try dsimp only at hSw); go_simp; try with_reducible rfl)
            try simp only [Act.put, List.setIfInBounds_toArray, List.set_cons_zero, List.set_cons_succ]
            refine wpAnyH_ready (rs := [1]) (by kernel_rfl) (by simp) ?_
            refine AllReadyH.cons (o := { dst := some 90, op := Go.Op.call { callee := Go.Callee.value (Go.Operand.func 18), args := #[Go.Operand.tmp 89], argTypes := #[25] }, type := 3, pos := "law.go:136", after := #[{ on := 0, ground := Go.Ground.data }], guard := none }) rfl (fun K hK => ?_) AllReadyH.nil
            go_simp
            refine hc'.out.mono ?_
            rintro e w1 ⟨rfl, m1⟩
            go_simp
            refine hK.out _ _ (m1.2.fromDrew) (fun hHeld => ?_)
            clear hK K
            try simp only [Act.put, List.setIfInBounds_toArray, List.set_cons_zero, List.set_cons_succ]
            refine wpAnyH_take (i := 9) (oi := { dst := some 98, op := Go.Op.binOp Go.BinOp.eql 3 (Go.Operand.tmp 90) (Go.Operand.tmp 97) 3, type := 4, pos := "law.go:136", after := #[{ on := 1, ground := Go.Ground.data }, { on := 8, ground := Go.Ground.data }], guard := none }) (v := ?v26) rfl (by kernel_rfl) (by kernel_rfl) (by kernel_rfl) (fun _ _ _ h => h) (Or.inl ⟨by kernel_rfl, ?h26⟩) (by assumption) ?r26
            case h26 => (intro w hSw; (try dsimp only at hSw); go_simp; try with_reducible rfl)
            try simp only [Act.put, List.setIfInBounds_toArray, List.set_cons_zero, List.set_cons_succ]
            refine wpAnyH_take (i := 10) (oi := { dst := some 9, op := Go.Op.assign (Go.Operand.tmp 98), type := 4, pos := "law.go:136", after := #[{ on := 9, ground := Go.Ground.data }, { on := 1, ground := Go.Ground.chain }, { on := 0, ground := Go.Ground.phase }, { on := 1, ground := Go.Ground.phase }, { on := 2, ground := Go.Ground.phase }, { on := 3, ground := Go.Ground.phase }, { on := 4, ground := Go.Ground.phase }, { on := 5, ground := Go.Ground.phase }, { on := 6, ground := Go.Ground.phase }, { on := 7, ground := Go.Ground.phase }, { on := 8, ground := Go.Ground.phase }, { on := 9, ground := Go.Ground.phase }], guard := none }) (v := ?v27) rfl (by kernel_rfl) (by kernel_rfl) (by kernel_rfl) (fun _ _ _ h => h) (Or.inl ⟨by kernel_rfl, ?h27⟩) (by assumption) ?r27
            case h27 => (intro w hSw; (try dsimp only at hSw); go_simp; try with_reducible rfl)
            try simp only [Act.put, List.setIfInBounds_toArray, List.set_cons_zero, List.set_cons_succ]
            refine wpAnyH_done (by kernel_rfl) ?_ _
            go_wp2
            go_roundw
            case rel => exact ⟨j + 1, by omega, by go_num, hR'.out.moved ⟨m1.1, m1.2.fromDrew⟩ hle'.out, hbe'.out.trans ((m1.2.fromDrew.mono hbe'.out.size).toBelow (by simp; omega))⟩
            case measure => simp [intOf]; omega
          by_cases hk4 : kk = 4
          · subst hk4
            have hop : opB 4 mm zz = wordB (mm % 4294967296) := by simp [opB]
            rw [hop] at hrest hcat'
            have hs := read_word (n := mm % 4294967296) (by omega) (by omega) hrest
            have hc := word_any r a4 c4 L p 0 wr.drew hRd
            rw [hs, ← hcat'.out] at hc
            have hc' := Lib.hid hc
            clear hc hs hrest hop hRd
            go_wp2
            refine wp_drawn_on (fun W' => BelowE [r] wr.heap.size wr W') (by kernel_rfl) ((BelowE.refl _ _ _).drew) (fun hHeld => ?_)
            refine wpAnyH_take (i := 0) (oi := { dst := some 101, op := Go.Op.move (Go.Operand.tmp 7), type := 25, pos := "law.go:138", after := #[], guard := none }) (v := ?v28) rfl (by kernel_rfl) (by kernel_rfl) (by kernel_rfl) (fun _ _ _ h => h) (Or.inl ⟨by kernel_rfl, ?h28⟩) (by assumption) ?r28
            case h28 => (intro w hSw; (try dsimp only at hSw); go_simp; try with_reducible rfl)
            try simp only [Act.put, List.setIfInBounds_toArray, List.set_cons_zero, List.set_cons_succ]
            refine wpAnyH_take (i := 2) (oi := { dst := some 103, op := Go.Op.move (Go.Operand.tmp 0), type := 23, pos := "law.go:138", after := #[], guard := none }) (v := ?v29) rfl (by kernel_rfl) (by kernel_rfl) (by kernel_rfl) (fun _ _ _ h => h) (Or.inl ⟨by kernel_rfl, ?h29⟩) (by assumption) ?r29
            case h29 => (intro w hSw; (try dsimp only at hSw); go_simp; try with_reducible rfl)
            try simp only [Act.put, List.setIfInBounds_toArray, List.set_cons_zero, List.set_cons_succ]
            refine wpAnyH_take (i := 3) (oi := { dst := some 104, op := Go.Op.move (Go.Operand.tmp 8), type := 3, pos := "law.go:138", after := #[], guard := none }) (v := ?v30) rfl (by kernel_rfl) (by kernel_rfl) (by kernel_rfl) (fun _ _ _ h => h) (Or.inl ⟨by kernel_rfl, ?h30⟩) (by assumption) ?r30
            case h30 => (intro w hSw; (try dsimp only at hSw); go_simp; try with_reducible rfl)
            try simp only [Act.put, List.setIfInBounds_toArray, List.set_cons_zero, List.set_cons_succ]
            refine wpAnyH_take (i := 4) (oi := { dst := some 105, op := Go.Op.indexAddr 23 (Go.Operand.tmp 103) (Go.Operand.tmp 104), type := 0, pos := "law.go:138", after := #[{ on := 2, ground := Go.Ground.data }, { on := 3, ground := Go.Ground.data }], guard := none }) (v := ?v31) rfl (by kernel_rfl) (by kernel_rfl) (by kernel_rfl) (fun _ _ _ h => h) (Or.inl ⟨by kernel_rfl, ?h31⟩) (by assumption) ?r31
            case h31 => (intro w hSw; (try dsimp only at hSw); go_simp; try with_reducible rfl)
            try simp only [Act.put, List.setIfInBounds_toArray, List.set_cons_zero, List.set_cons_succ]
            refine wpAnyH_take (i := 5) (oi := { dst := some 106, op := Go.Op.fieldAddr 33 (Go.Operand.tmp 105) 1, type := 0, pos := "law.go:138", after := #[{ on := 4, ground := Go.Ground.data }], guard := none }) (v := ?v32) rfl (by kernel_rfl) (by kernel_rfl) (by kernel_rfl) (fun _ _ _ h => h) (Or.inl ⟨by kernel_rfl, ?h32⟩) (by assumption) ?r32
            case h32 => (intro w hSw; (try dsimp only at hSw); go_simp; try with_reducible rfl)
            try simp only [Act.put, List.setIfInBounds_toArray, List.set_cons_zero, List.set_cons_succ]
            refine wpAnyH_take (i := 6) (oi := { dst := some 107, op := Go.Op.load 3 (Go.Operand.tmp 106), type := 3, pos := "law.go:138", after := #[{ on := 5, ground := Go.Ground.data }], guard := none }) (v := ?v33) rfl (by kernel_rfl) (by kernel_rfl) (by kernel_rfl) (fun _ _ _ h => h) (Or.inl ⟨by kernel_rfl, ?h33⟩) (by assumption) ?r33
            case h33 => (intro w hSw; (try dsimp only at hSw); go_simp; try with_reducible rfl)
            try simp only [Act.put, List.setIfInBounds_toArray, List.set_cons_zero, List.set_cons_succ]
            refine wpAnyH_take (i := 7) (oi := { dst := some 108, op := Go.Op.convert 3 44 (Go.Operand.tmp 107), type := 44, pos := "law.go:138", after := #[{ on := 6, ground := Go.Ground.data }], guard := none }) (v := ?v34) rfl (by kernel_rfl) (by kernel_rfl) (by kernel_rfl) (fun _ _ _ h => h) (Or.inl ⟨by kernel_rfl, ?h34⟩) (by assumption) ?r34
            case h34 => (intro w hSw; (try dsimp only at hSw); go_simp; try with_reducible rfl)
            try simp only [Act.put, List.setIfInBounds_toArray, List.set_cons_zero, List.set_cons_succ]
            refine wpAnyH_ready (rs := [1]) (by kernel_rfl) (by simp) ?_
            refine AllReadyH.cons (o := { dst := some 102, op := Go.Op.call { callee := Go.Callee.value (Go.Operand.func 19), args := #[Go.Operand.tmp 101], argTypes := #[25] }, type := 44, pos := "law.go:138", after := #[{ on := 0, ground := Go.Ground.data }], guard := none }) rfl (fun K hK => ?_) AllReadyH.nil
            go_simp
            refine hc'.out.mono ?_
            rintro e w1 ⟨rfl, m1⟩
            go_simp
            refine hK.out _ _ (m1.2.fromDrew) (fun hHeld => ?_)
            clear hK K
            try simp only [Act.put, List.setIfInBounds_toArray, List.set_cons_zero, List.set_cons_succ]
            refine wpAnyH_take (i := 8) (oi := { dst := some 109, op := Go.Op.binOp Go.BinOp.eql 44 (Go.Operand.tmp 102) (Go.Operand.tmp 108) 44, type := 4, pos := "law.go:138", after := #[{ on := 1, ground := Go.Ground.data }, { on := 7, ground := Go.Ground.data }], guard := none }) (v := ?v35) rfl (by kernel_rfl) (by kernel_rfl) (by kernel_rfl) (fun _ _ _ h => h) (Or.inl ⟨by kernel_rfl, ?h35⟩) (by assumption) ?r35
            case h35 => (intro w hSw; (try dsimp only at hSw); go_simp; try with_reducible rfl)
            try simp only [Act.put, List.setIfInBounds_toArray, List.set_cons_zero, List.set_cons_succ]
            refine wpAnyH_take (i := 9) (oi := { dst := some 9, op := Go.Op.assign (Go.Operand.tmp 109), type := 4, pos := "law.go:138", after := #[{ on := 8, ground := Go.Ground.data }, { on := 1, ground := Go.Ground.chain }, { on := 0, ground := Go.Ground.phase }, { on := 1, ground := Go.Ground.phase }, { on := 2, ground := Go.Ground.phase }, { on := 3, ground := Go.Ground.phase }, { on := 4, ground := Go.Ground.phase }, { on := 5, ground := Go.Ground.phase }, { on := 6, ground := Go.Ground.phase }, { on := 7, ground := Go.Ground.phase }, { on := 8, ground := Go.Ground.phase }], guard := none }) (v := ?v36) rfl (by kernel_rfl) (by kernel_rfl) (by kernel_rfl) (fun _ _ _ h => h) (Or.inl ⟨by kernel_rfl, ?h36⟩) (by assumption) ?r36
            case h36 => (intro w hSw; (try dsimp only at hSw); go_simp; try with_reducible rfl)
            try simp only [Act.put, List.setIfInBounds_toArray, List.set_cons_zero, List.set_cons_succ]
            refine wpAnyH_done (by kernel_rfl) ?_ _
            go_wp2
            go_roundw
            case rel => exact ⟨j + 1, by omega, by go_num, hR'.out.moved ⟨m1.1, m1.2.fromDrew⟩ hle'.out, hbe'.out.trans ((m1.2.fromDrew.mono hbe'.out.size).toBelow (by simp; omega))⟩
            case measure => simp [intOf]; omega
          by_cases hk5 : kk = 5
          · subst hk5
            have hop : opB 5 mm zz = leb zz.size ++ codes zz := by simp [opB]
            rw [hop] at hrest hcat'
            have hs := read_text hzj hrest
            have hc := text_any r a4 c4 L p 0 (zz.size : Int) (by omega) wr.drew hRd
            rw [hs, ← hcat'.out] at hc
            have hc' := Lib.hid hc
            clear hc hs hrest hop hRd
            go_wp2
            refine wp_drawn_on (fun W' => BelowE [r] wr.heap.size wr W') (by kernel_rfl) ((BelowE.refl _ _ _).drew) (fun hHeld => ?_)
            refine wpAnyH_take (i := 0) (oi := { dst := some 112, op := Go.Op.move (Go.Operand.tmp 7), type := 25, pos := "law.go:140", after := #[], guard := none }) (v := ?v37) rfl (by kernel_rfl) (by kernel_rfl) (by kernel_rfl) (fun _ _ _ h => h) (Or.inl ⟨by kernel_rfl, ?h37⟩) (by assumption) ?r37
            case h37 => (intro w hSw; (try dsimp only at hSw); go_simp; try with_reducible rfl)
            try simp only [Act.put, List.setIfInBounds_toArray, List.set_cons_zero, List.set_cons_succ]
            refine wpAnyH_take (i := 1) (oi := { dst := some 113, op := Go.Op.move (Go.Operand.tmp 0), type := 23, pos := "law.go:140", after := #[], guard := none }) (v := ?v38) rfl (by kernel_rfl) (by kernel_rfl) (by kernel_rfl) (fun _ _ _ h => h) (Or.inl ⟨by kernel_rfl, ?h38⟩) (by assumption) ?r38
            case h38 => (intro w hSw; (try dsimp only at hSw); go_simp; try with_reducible rfl)
            try simp only [Act.put, List.setIfInBounds_toArray, List.set_cons_zero, List.set_cons_succ]
            refine wpAnyH_take (i := 2) (oi := { dst := some 114, op := Go.Op.move (Go.Operand.tmp 8), type := 3, pos := "law.go:140", after := #[], guard := none }) (v := ?v39) rfl (by kernel_rfl) (by kernel_rfl) (by kernel_rfl) (fun _ _ _ h => h) (Or.inl ⟨by kernel_rfl, ?h39⟩) (by assumption) ?r39
            case h39 => (intro w hSw; (try dsimp only at hSw); go_simp; try with_reducible rfl)
            try simp only [Act.put, List.setIfInBounds_toArray, List.set_cons_zero, List.set_cons_succ]
            refine wpAnyH_take (i := 3) (oi := { dst := some 115, op := Go.Op.indexAddr 23 (Go.Operand.tmp 113) (Go.Operand.tmp 114), type := 0, pos := "law.go:140", after := #[{ on := 1, ground := Go.Ground.data }, { on := 2, ground := Go.Ground.data }], guard := none }) (v := ?v40) rfl (by kernel_rfl) (by kernel_rfl) (by kernel_rfl) (fun _ _ _ h => h) (Or.inl ⟨by kernel_rfl, ?h40⟩) (by assumption) ?r40
            case h40 => (intro w hSw; (try dsimp only at hSw); go_simp; try with_reducible rfl)
            try simp only [Act.put, List.setIfInBounds_toArray, List.set_cons_zero, List.set_cons_succ]
            refine wpAnyH_take (i := 4) (oi := { dst := some 116, op := Go.Op.fieldAddr 33 (Go.Operand.tmp 115) 2, type := 0, pos := "law.go:140", after := #[{ on := 3, ground := Go.Ground.data }], guard := none }) (v := ?v41) rfl (by kernel_rfl) (by kernel_rfl) (by kernel_rfl) (fun _ _ _ h => h) (Or.inl ⟨by kernel_rfl, ?h41⟩) (by assumption) ?r41
            case h41 => (intro w hSw; (try dsimp only at hSw); go_simp; try with_reducible rfl)
            try simp only [Act.put, List.setIfInBounds_toArray, List.set_cons_zero, List.set_cons_succ]
            refine wpAnyH_take (i := 5) (oi := { dst := some 117, op := Go.Op.load 9 (Go.Operand.tmp 116), type := 9, pos := "law.go:140", after := #[{ on := 4, ground := Go.Ground.data }], guard := none }) (v := ?v42) rfl (by kernel_rfl) (by kernel_rfl) (by kernel_rfl) (fun _ _ _ h => h) (Or.inl ⟨by kernel_rfl, ?h42⟩) (by assumption) ?r42
            case h42 => (intro w hSw; (try dsimp only at hSw); go_simp; try with_reducible rfl)
            try simp only [Act.put, List.setIfInBounds_toArray, List.set_cons_zero, List.set_cons_succ]
            refine wpAnyH_take (i := 6) (oi := { dst := some 118, op := Go.Op.call { callee := Go.Callee.builtin Go.Builtin.len, args := #[Go.Operand.tmp 117], argTypes := #[9] }, type := 3, pos := "law.go:140", after := #[{ on := 5, ground := Go.Ground.data }], guard := none }) (v := ?v43) rfl (by kernel_rfl) (by kernel_rfl) (by kernel_rfl) (fun _ _ _ h => h) (Or.inl ⟨by kernel_rfl, ?h43⟩) (by assumption) ?r43
            case h43 => (intro w hSw; (try dsimp only at hSw); go_simp; try with_reducible rfl)
            try simp only [Act.put, List.setIfInBounds_toArray, List.set_cons_zero, List.set_cons_succ]
            refine wpAnyH_take (i := 8) (oi := { dst := some 120, op := Go.Op.move (Go.Operand.tmp 0), type := 23, pos := "law.go:140", after := #[], guard := none }) (v := ?v44) rfl (by kernel_rfl) (by kernel_rfl) (by kernel_rfl) (fun _ _ _ h => h) (Or.inl ⟨by kernel_rfl, ?h44⟩) (by assumption) ?r44
            case h44 => (intro w hSw; (try dsimp only at hSw); go_simp; try with_reducible rfl)
            try simp only [Act.put, List.setIfInBounds_toArray, List.set_cons_zero, List.set_cons_succ]
            refine wpAnyH_take (i := 9) (oi := { dst := some 121, op := Go.Op.move (Go.Operand.tmp 8), type := 3, pos := "law.go:140", after := #[], guard := none }) (v := ?v45) rfl (by kernel_rfl) (by kernel_rfl) (by kernel_rfl) (fun _ _ _ h => h) (Or.inl ⟨by kernel_rfl, ?h45⟩) (by assumption) ?r45
            case h45 => (intro w hSw; (try dsimp only at hSw); go_simp; try with_reducible rfl)
            try simp only [Act.put, List.setIfInBounds_toArray, List.set_cons_zero, List.set_cons_succ]
            refine wpAnyH_take (i := 10) (oi := { dst := some 122, op := Go.Op.indexAddr 23 (Go.Operand.tmp 120) (Go.Operand.tmp 121), type := 0, pos := "law.go:140", after := #[{ on := 8, ground := Go.Ground.data }, { on := 9, ground := Go.Ground.data }], guard := none }) (v := ?v46) rfl (by kernel_rfl) (by kernel_rfl) (by kernel_rfl) (fun _ _ _ h => h) (Or.inl ⟨by kernel_rfl, ?h46⟩) (by assumption) ?r46
            case h46 => (intro w hSw; (try dsimp only at hSw); go_simp; try with_reducible rfl)
            try simp only [Act.put, List.setIfInBounds_toArray, List.set_cons_zero, List.set_cons_succ]
            refine wpAnyH_take (i := 11) (oi := { dst := some 123, op := Go.Op.fieldAddr 33 (Go.Operand.tmp 122) 2, type := 0, pos := "law.go:140", after := #[{ on := 10, ground := Go.Ground.data }], guard := none }) (v := ?v47) rfl (by kernel_rfl) (by kernel_rfl) (by kernel_rfl) (fun _ _ _ h => h) (Or.inl ⟨by kernel_rfl, ?h47⟩) (by assumption) ?r47
            case h47 => (intro w hSw; (try dsimp only at hSw); go_simp; try with_reducible rfl)
            try simp only [Act.put, List.setIfInBounds_toArray, List.set_cons_zero, List.set_cons_succ]
            refine wpAnyH_take (i := 12) (oi := { dst := some 124, op := Go.Op.load 9 (Go.Operand.tmp 123), type := 9, pos := "law.go:140", after := #[{ on := 11, ground := Go.Ground.data }], guard := none }) (v := ?v48) rfl (by kernel_rfl) (by kernel_rfl) (by kernel_rfl) (fun _ _ _ h => h) (Or.inl ⟨by kernel_rfl, ?h48⟩) (by assumption) ?r48
            case h48 => (intro w hSw; (try dsimp only at hSw); go_simp; try with_reducible rfl)
            try simp only [Act.put, List.setIfInBounds_toArray, List.set_cons_zero, List.set_cons_succ]
            refine wpAnyH_ready (rs := [7]) (by kernel_rfl) (by simp) ?_
            refine AllReadyH.cons (o := { dst := some 119, op := Go.Op.call { callee := Go.Callee.value (Go.Operand.func 20), args := #[Go.Operand.tmp 112, Go.Operand.tmp 118], argTypes := #[25, 3] }, type := 9, pos := "law.go:140", after := #[{ on := 0, ground := Go.Ground.data }, { on := 6, ground := Go.Ground.data }], guard := none }) rfl (fun K hK => ?_) AllReadyH.nil
            go_simp
            refine hc'.out.mono ?_
            rintro e w1 ⟨rfl, m1⟩
            go_simp
            refine hK.out _ _ (m1.2.fromDrew) (fun hHeld => ?_)
            clear hK K
            try simp only [Act.put, List.setIfInBounds_toArray, List.set_cons_zero, List.set_cons_succ]
            refine wpAnyH_take (i := 13) (oi := { dst := some 125, op := Go.Op.binOp Go.BinOp.eql 9 (Go.Operand.tmp 119) (Go.Operand.tmp 124) 9, type := 4, pos := "law.go:140", after := #[{ on := 7, ground := Go.Ground.data }, { on := 12, ground := Go.Ground.data }], guard := none }) (v := ?v49) rfl (by kernel_rfl) (by kernel_rfl) (by kernel_rfl) (fun _ _ _ h => h) (Or.inl ⟨by kernel_rfl, ?h49⟩) (by assumption) ?r49
            case h49 => (intro w hSw; (try dsimp only at hSw); go_simp; try with_reducible rfl)
            try simp only [Act.put, List.setIfInBounds_toArray, List.set_cons_zero, List.set_cons_succ]
            refine wpAnyH_take (i := 14) (oi := { dst := some 9, op := Go.Op.assign (Go.Operand.tmp 125), type := 4, pos := "law.go:140", after := #[{ on := 13, ground := Go.Ground.data }, { on := 7, ground := Go.Ground.chain }, { on := 0, ground := Go.Ground.phase }, { on := 1, ground := Go.Ground.phase }, { on := 2, ground := Go.Ground.phase }, { on := 3, ground := Go.Ground.phase }, { on := 4, ground := Go.Ground.phase }, { on := 5, ground := Go.Ground.phase }, { on := 6, ground := Go.Ground.phase }, { on := 7, ground := Go.Ground.phase }, { on := 8, ground := Go.Ground.phase }, { on := 9, ground := Go.Ground.phase }, { on := 10, ground := Go.Ground.phase }, { on := 11, ground := Go.Ground.phase }, { on := 12, ground := Go.Ground.phase }, { on := 13, ground := Go.Ground.phase }], guard := none }) (v := ?v50) rfl (by kernel_rfl) (by kernel_rfl) (by kernel_rfl) (fun _ _ _ h => h) (Or.inl ⟨by kernel_rfl, ?h50⟩) (by assumption) ?r50
            case h50 => (intro w hSw; (try dsimp only at hSw); go_simp; try with_reducible rfl)
            try simp only [Act.put, List.setIfInBounds_toArray, List.set_cons_zero, List.set_cons_succ]
            refine wpAnyH_done (by kernel_rfl) ?_ _
            go_wp2
            go_roundw
            case rel => exact ⟨j + 1, by omega, by go_num, hR'.out.moved ⟨m1.1, m1.2.fromDrew⟩ hle'.out, hbe'.out.trans ((m1.2.fromDrew.mono hbe'.out.size).toBelow (by simp; omega))⟩
            case measure => simp [intOf]; omega
          have hop : opB kk mm zz = [] := by simp [opB, hk1, hk2, hk3, hk4, hk5]
          rw [hop] at hcat'
          have b1 : (kk == 1) = false := by simpa using hk1
          have b2 : (kk == 2) = false := by simpa using hk2
          have b3 : (kk == 3) = false := by simpa using hk3
          have b4 : (kk == 4) = false := by simpa using hk4
          have b5 : (kk == 5) = false := by simpa using hk5
          clear hop hrest hk1 hk2 hk3 hk4 hk5 hRd
          go_wp2
          go_roundw
          case rel => exact ⟨j + 1, by omega, by go_num, by rw [hcat'.out]; exact hR'.out, hbe'.out⟩
          case measure => simp [intOf]; omega
        · have hjk : j = k := by omega
          subst hjk
          clear hlt hj
          rw [← hL'.out] at hR
          have hend := end_any r a4 c4 L L.length 0 wr hR
          rw [show endO L L.length 0 = 0 by simp [endO]] at hend
          have hend' := Lib.hid hend
          have hR' := Lib.hid hR
          have hbe' := Lib.hid hbe
          have hLb : L.length ≤ 202000 := hLl'.out
          have hlo : leftO L L.length 0 = 0 := by simp [leftO]
          have hlo' := Lib.hid hlo
          clear hend hR hbe hlo
          go_wp2_with fail
          refine hend'.out.mono ?_
          rintro e w1 ⟨rfl, m1⟩
          have hR1 := hR'.out.moved m1 (Nat.le_refl _)
          have hR1' := Lib.hid hR1
          clear hR1
          go_wp2_with fail
          refine (err_any r 0 w1 (hR1'.out.blk.cell 2)).mono ?_
          rintro e w' ⟨rfl, rfl⟩
          go_wp2_with fail
          refine (at_any r L.length w1 (hR1'.out.blk.cell 1)).mono ?_
          rintro e w' ⟨rfl, rfl⟩
          go_wp2_with fail
          refine (left_any r a4 c4 L L.length 0 w1 hR1'.out).mono ?_
          rw [hlo'.out]
          rintro e w' ⟨rfl, m, rfl⟩
          go_wp2
          go_ret
          exact ⟨rfl, Below.drewN (hbe'.out.trans ((m1.2.mono hbe'.out.size).toBelow (by simpa using hrw))) m⟩
end Go.Proofs.Ytnojapdcdjpebaa
