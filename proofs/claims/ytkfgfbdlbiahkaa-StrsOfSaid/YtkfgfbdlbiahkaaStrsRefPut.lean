/- The document's Put of a table. -/
import Derived.Test.YtkfgfbdlbiahkaaStrsPut
import Derived.Test.YtkfgfbdlbiahkaaPuts
namespace Go.Proofs.Ytkfgfbdlbiahkaa
open Go.RowKit
set_option linter.unusedVariables false
set_option linter.unusedSimpArgs false

theorem own_next {w w' : World} {B m n s : Nat} {e e' : TypeId} {v v' : Value} {xs ys : List Value} (ho : w.ownsRow B e s v n xs) (own : w'.ownsRow 0 e' s v' m ys) (hblk : v'.ownBlock = v.ownBlock ∨ v'.ownBlock = some w.heap.size) (hB : B ≤ w.heap.size) : w'.ownsRow B e' s v' m ys :=
  own_from own fun k hk => by
    rcases hblk with h | h
    · rw [h] at hk; exact (ho.lt k hk).1
    · rw [h] at hk; injection hk with hk; omega
set_option maxRecDepth 100000 in
set_option maxHeartbeats 4000000 in
theorem rtput_any (a : Option Addr) (n c : Nat) (l : List ByteArray) (hn : n ≤ 100000) (hM : ∀ s ∈ l, s.size ≤ 100000) (w : World) (h : TT w a n c l) :
    Calls Try.prog 12 #[.slice a n c] w (Made 5 .u8 w (putT l)) := by
  obtain ⟨i0, hi, hz0, hz1, hz2⟩ := info_parts infoU8
  have hT := Lib.hid h
  have hM' := Lib.hid hM
  have hnl := Lib.hid h.len
  have hni : (n : Int) ≤ 100000 := by omega
  have hnum := Lib.hid (rnum_any (n : Int) w (by omega) (by omega))
  simp only [Int.toNat_natCast] at hnum
  have hpl : Hid (∀ k, k ≤ n → (leb n ++ bodyT e0 (l.take k)).length ≤ 100000000000) := Lib.hid (fun k hk => by
    have q1 := body_len 100000 (by omega) (l := l.take k) e0 (fun s hs => hM s (List.mem_of_mem_take hs))
    have q2 := leb_len64 (n := n) (by omega)
    have q4 : (l.take k).length ≤ 100000 := by simp; omega
    have q5 : (l.take k).length * (100000 + 20) ≤ 100000 * (100000 + 20) := Nat.mul_le_mul_right _ q4
    rw [List.length_append]
    omega)
  clear h hM hn
  go_enter Try.func12, Try.ntmps12
  go_wp2_with fail
  refine hnum.out.mono ?_
  rintro e w1 ⟨v1, rfl, o1, b1⟩
  have o1' := Lib.hid o1
  have b1' := Lib.hid b1
  clear o1 b1 hnum
  go_wp2
  go_loopw [3, 4, 5] (fun v z i wr => ∃ k : Nat, k ≤ n ∧ i = .int .i64 k ∧ z = .string (lastT (l.take k)) ∧ Hid (wr.ownsRow w.heap.size 5 1 v (leb n ++ bodyT e0 (l.take k)).length (nums .u8 (leb n ++ bodyT e0 (l.take k)))) ∧ Hid (Below w.heap.size w wr)) (fun _ _ i _ => n - (intOf i).toNat)
  case atStart => exact ⟨0, Nat.zero_le _, rfl, rfl, Lib.hid (by simpa [bodyT] using o1'.out), b1'⟩
  case round =>
    obtain ⟨k, hk, rfl, rfl, hown, hB⟩ := hrel
    by_cases hlt : k < n
    · have hki : (k : Int) < (n : Int) := by omega
      have hkl : k < l.length := by have := hnl.out; omega
      obtain ⟨b, off, rfl, hbw, hc⟩ := hT.out.at_ hkl
      have hmem : l.getD k e0 ∈ l := by simp [List.getD, hkl]
      have hsz := hM'.out _ hmem
      have hlsz : (lastT (l.take k)).size ≤ 100000 := by
        rcases List.eq_nil_or_concat (l.take k) with e | ⟨x, y, e⟩
        · rw [e]; simp [lastT, ByteArray.size]
        · rw [e]; simp only [lastT, List.concat_eq_append, List.getLast?_append, List.getLast?_singleton, Option.some_or, Option.getD_some]
          exact hM'.out y (List.mem_of_mem_take (by rw [e]; simp))
      have hst := Lib.hid (body_step hkl)
      have hls := Lib.hid (last_step hkl)
      have hpk := Lib.hid (hpl.out k (by omega))
      have hc0 : ∀ W, Below w.heap.size w W → W.cell? ⟨b, off + k, none⟩ = some (.string (l.getD k e0)) := fun W hW => (hW.cell (p := ⟨b, off + k, none⟩) hbw).trans (hc k hkl)
      have i0' := hc0 wr hB.out
      clear hc hmem hkl
      generalize l.getD k e0 = s at *
      generalize lastT (l.take k) = la at *
      have hal := alike_sz la s
      have hal2 := Lib.hid (fun W => shares_any la s (by omega) (by omega) W)
      have htl := tail_run s (alikeL (byt la) (byt s)) hal.2
      have htz := tail_size s (alikeL (byt la) (byt s))
      have hst2 : Hid (∀ X : List Int, X ++ (leb (alikeL (byt la) (byt s)) ++ txtL (tailT s (alikeL (byt la) (byt s)))) = X ++ oneT la s) := Lib.hid (fun X => rfl)
      have hlb := Lib.hid (leb_len64 (n := alikeL (byt la) (byt s)) (by omega))
      have htx := Lib.hid (fun W => rtxt_any (tailT s (alikeL (byt la) (byt s))) W (by omega))
      have htxl := Lib.hid (txt_len (s := tailT s (alikeL (byt la) (byt s))) (by omega)).1
      have htz2 : Hid ((tailT s (alikeL (byt la) (byt s))).size ≤ 100000) := Lib.hid (by omega)
      have hnm := Lib.hid (fun W => rnum_any ((alikeL (byt la) (byt s) : Nat) : Int) W (by omega) (by omega))
      simp only [Int.toNat_natCast] at hnm
      change Hid (∀ W, Calls _ _ _ _ (Made 5 .u8 W (txtL (tailT s (alikeL (byt la) (byt s)))))) at htx
      have hali : ((alikeL (byt la) (byt s) : Nat) : Int) ≤ 100000 := by omega
      generalize txtL (tailT s (alikeL (byt la) (byt s))) = T at *
      generalize leb (alikeL (byt la) (byt s)) = Q at *
      generalize oneT la s = O at *
      generalize tailT s (alikeL (byt la) (byt s)) = ts at *
      generalize alikeL (byt la) (byt s) = q at *
      generalize hPP : leb n ++ bodyT e0 (l.take k) = P at *
      have hPP' := Lib.hid hPP
      clear hal hlsz hsz htz hPP
      go_wp2_with fail
      refine (hal2.out _).mono ?_
      rintro e w2 ⟨rfl, m2, rfl⟩
      have ho2 : (wr.drewN m2).drew.ownsRow w.heap.size 5 1 u3 P.length (nums .u8 P) := hown.out
      have hB2 : Below w.heap.size w (wr.drewN m2).drew := Below.drewN hB.out (m2 + 1)
      clear hal2 i0'
      have hB2' := Lib.hid hB2
      clear hB
      go_wp2
      refine wp_drawn_on (fun W' => Below w.heap.size w W') (by kernel_rfl) (hB2'.out) (fun hHeld => ?_)
      refine wpAnyH_take (i := 0) (oi := { dst := some 22, op := Go.Op.move (Go.Operand.tmp 3), type := 25, pos := "ref.go:59", after := #[], guard := none }) (v := ?v1) rfl (by kernel_rfl) (by kernel_rfl) (by kernel_rfl) (fun _ _ _ h => h) (Or.inl ⟨by kernel_rfl, ?h1⟩) (by assumption) ?r1
      case h1 => (intro w hSw; (try dsimp only at hSw); go_simp; try with_reducible rfl)
      try simp only [Act.put, List.setIfInBounds_toArray, List.set_cons_zero, List.set_cons_succ]
      refine wpAnyH_take (i := 1) (oi := { dst := some 23, op := Go.Op.move (Go.Operand.tmp 6), type := 3, pos := "ref.go:59", after := #[], guard := none }) (v := ?v2) rfl (by kernel_rfl) (by kernel_rfl) (by kernel_rfl) (fun _ _ _ h => h) (Or.inl ⟨by kernel_rfl, ?h2⟩) (by assumption) ?r2
      case h2 => (intro w hSw; (try dsimp only at hSw); go_simp; try with_reducible rfl)
      try simp only [Act.put, List.setIfInBounds_toArray, List.set_cons_zero, List.set_cons_succ]
      refine wpAnyH_take (i := 4) (oi := { dst := some 26, op := Go.Op.move (Go.Operand.tmp 0), type := 22, pos := "ref.go:59", after := #[], guard := none }) (v := ?v3) rfl (by kernel_rfl) (by kernel_rfl) (by kernel_rfl) (fun _ _ _ h => h) (Or.inl ⟨by kernel_rfl, ?h3⟩) (by assumption) ?r3
      case h3 => (intro w hSw; (try dsimp only at hSw); go_simp; try with_reducible rfl)
      try simp only [Act.put, List.setIfInBounds_toArray, List.set_cons_zero, List.set_cons_succ]
      refine wpAnyH_take (i := 5) (oi := { dst := some 27, op := Go.Op.move (Go.Operand.tmp 5), type := 3, pos := "ref.go:59", after := #[], guard := none }) (v := ?v4) rfl (by kernel_rfl) (by kernel_rfl) (by kernel_rfl) (fun _ _ _ h => h) (Or.inl ⟨by kernel_rfl, ?h4⟩) (by assumption) ?r4
      case h4 => (intro w hSw; (try dsimp only at hSw); go_simp; try with_reducible rfl)
      try simp only [Act.put, List.setIfInBounds_toArray, List.set_cons_zero, List.set_cons_succ]
      refine wpAnyH_take (i := 6) (oi := { dst := some 28, op := Go.Op.indexAddr 22 (Go.Operand.tmp 26) (Go.Operand.tmp 27), type := 0, pos := "ref.go:59", after := #[{ on := 4, ground := Go.Ground.data }, { on := 5, ground := Go.Ground.data }], guard := none }) (v := ?v5) rfl (by kernel_rfl) (by kernel_rfl) (by kernel_rfl) (fun _ _ _ h => h) (Or.inl ⟨by kernel_rfl, ?h5⟩) (by assumption) ?r5
      case h5 => (intro w hSw; (try dsimp only at hSw); go_simp; try with_reducible rfl)
      try simp only [Act.put, List.setIfInBounds_toArray, List.set_cons_zero, List.set_cons_succ]
      refine wpAnyH_take (i := 7) (oi := { dst := some 29, op := Go.Op.load 9 (Go.Operand.tmp 28), type := 9, pos := "ref.go:59", after := #[{ on := 6, ground := Go.Ground.data }], guard := none }) (v := ?v6) rfl (by kernel_rfl) (by kernel_rfl) (by kernel_rfl) (fun _ _ _ h => h) (Or.inl ⟨by kernel_rfl, ?h6⟩) (by assumption) ?r6
      case h6 => (intro w hSw; (try dsimp only at hSw); go_simp; try with_reducible rfl)
      try simp only [Act.put, List.setIfInBounds_toArray, List.set_cons_zero, List.set_cons_succ]
      refine wpAnyH_take (i := 8) (oi := { dst := some 30, op := Go.Op.move (Go.Operand.tmp 6), type := 3, pos := "ref.go:59", after := #[], guard := none }) (v := ?v7) rfl (by kernel_rfl) (by kernel_rfl) (by kernel_rfl) (fun _ _ _ h => h) (Or.inl ⟨by kernel_rfl, ?h7⟩) (by assumption) ?r7
      case h7 => (intro w hSw; (try dsimp only at hSw); go_simp; try with_reducible rfl)
      try simp only [Act.put, List.setIfInBounds_toArray, List.set_cons_zero, List.set_cons_succ]
      refine wpAnyH_take (i := 9) (oi := { dst := some 31, op := Go.Op.slice 9 (Go.Operand.tmp 29) (some (Go.Operand.tmp 30)) none none, type := 9, pos := "ref.go:59", after := #[{ on := 7, ground := Go.Ground.data }, { on := 8, ground := Go.Ground.data }], guard := none }) (v := ?v8) rfl (by kernel_rfl) (by kernel_rfl) (by kernel_rfl) (fun _ _ _ h => h) (Or.inl ⟨by kernel_rfl, ?h8⟩) (by assumption) ?r8
      case h8 => (intro w hSw; (try dsimp only at hSw); go_simp; try with_reducible rfl)
      try simp only [Act.put, List.setIfInBounds_toArray, List.set_cons_zero, List.set_cons_succ]
      refine wpAnyH_ready (rs := [2]) (by kernel_rfl) (by simp) ?_
      refine AllReadyH.cons (o := { dst := some 24, op := Go.Op.call { callee := Go.Callee.value (Go.Operand.func 34), args := #[Go.Operand.tmp 23], argTypes := #[3] }, type := 25, pos := "ref.go:59", after := #[{ on := 1, ground := Go.Ground.data }], guard := none }) rfl (fun K hK => ?_) AllReadyH.nil
      go_simp
      refine (hnm.out _).mono ?_
      intro e w3 h3
      obtain ⟨a3, c3, rfl, s3, b3⟩ := h3.open Q.length rfl
      have hx3 := hHeld.trans (b3.mono hHeld.size)
      have o3 := own_below ho2 b3
      go_simp
      refine hK.out _ _ (hx3) (fun hHeld => ?_)
      clear hK K
      try simp only [Act.put, List.setIfInBounds_toArray, List.set_cons_zero, List.set_cons_succ]
      refine wpAnyH_ready (rs := [3]) (by kernel_rfl) (by simp) ?_
      refine AllReadyH.cons (o := { dst := some 25, op := Go.Op.call { callee := Go.Callee.builtin Go.Builtin.append, args := #[Go.Operand.tmp 22, Go.Operand.tmp 24], argTypes := #[25, 25] }, type := 25, pos := "ref.go:59", after := #[{ on := 0, ground := Go.Ground.data }, { on := 2, ground := Go.Ground.data }, { on := 2, ground := Go.Ground.chain }], guard := none }) rfl (fun K hK => ?_) AllReadyH.nil
      refine wp_append_foot _ (.tmp 22) (.tmp 24) 25 rfl 5 i0 (.int .u8 0) 1 Try.underlying25 hi hz0 hz1 hz2 rfl .u8 _ P (own_zero o3) _ a3 Q s3 Q.length c3 rfl rfl rfl (by have := hpk.out; have := hlb.out; simp [maxLen]; omega) (by have := hpk.out; have := hlb.out; simp; omega) ?_
      intro v4 w4 own4 grow4 blk4
      have hx4 := hHeld.grown grow4 hHeld.size (fun k hk => (o3.lt k hk).1)
      have o4 := own_next o3 own4 blk4 hHeld.size
      refine hK.out _ _ (hx4) (fun hHeld => ?_)
      clear hK K
      try simp only [Act.put, List.setIfInBounds_toArray, List.set_cons_zero, List.set_cons_succ]
      refine wpAnyH_ready (rs := [10]) (by kernel_rfl) (by simp) ?_
      refine AllReadyH.cons (o := { dst := some 32, op := Go.Op.call { callee := Go.Callee.value (Go.Operand.func 36), args := #[Go.Operand.tmp 31], argTypes := #[9] }, type := 25, pos := "ref.go:59", after := #[{ on := 9, ground := Go.Ground.data }, { on := 3, ground := Go.Ground.chain }], guard := none }) rfl (fun K hK => ?_) AllReadyH.nil
      go_simp
      refine (htx.out _).mono ?_
      intro e w5 h5
      obtain ⟨a5, c5, rfl, s5, b5⟩ := h5.open T.length rfl
      have hx5 := hHeld.trans (b5.mono hHeld.size)
      have o5 := own_below o4 b5
      go_simp
      refine hK.out _ _ (hx5) (fun hHeld => ?_)
      clear hK K
      try simp only [Act.put, List.setIfInBounds_toArray, List.set_cons_zero, List.set_cons_succ]
      refine wpAnyH_ready (rs := [11]) (by kernel_rfl) (by simp) ?_
      refine AllReadyH.cons (o := { dst := some 33, op := Go.Op.call { callee := Go.Callee.builtin Go.Builtin.append, args := #[Go.Operand.tmp 25, Go.Operand.tmp 32], argTypes := #[25, 25] }, type := 25, pos := "ref.go:59", after := #[{ on := 3, ground := Go.Ground.data }, { on := 10, ground := Go.Ground.data }, { on := 10, ground := Go.Ground.chain }], guard := none }) rfl (fun K hK => ?_) AllReadyH.nil
      refine wp_append_foot _ (.tmp 25) (.tmp 32) 25 rfl 5 i0 (.int .u8 0) 1 Try.underlying25 hi hz0 hz1 hz2 rfl .u8 _ (P ++ Q) (own_zero o5) _ a5 T s5 T.length c5 rfl rfl rfl (by have := hpk.out; have := hlb.out; have := htxl.out; have := htz2.out; simp [maxLen]; omega) (by have := hpk.out; have := hlb.out; have := htxl.out; have := htz2.out; simp; omega) ?_
      intro v6 w6 own6 grow6 blk6
      have hx6 := hHeld.grown grow6 hHeld.size (fun k hk => (o5.lt k hk).1)
      have o6 := own_next o5 own6 blk6 hHeld.size
      refine hK.out _ _ (hx6) (fun hHeld => ?_)
      clear hK K
      try simp only [Act.put, List.setIfInBounds_toArray, List.set_cons_zero, List.set_cons_succ]
      refine wpAnyH_take (i := 12) (oi := { dst := some 3, op := Go.Op.assign (Go.Operand.tmp 33), type := 25, pos := "ref.go:59", after := #[{ on := 11, ground := Go.Ground.data }, { on := 11, ground := Go.Ground.chain }, { on := 0, ground := Go.Ground.phase }, { on := 1, ground := Go.Ground.phase }, { on := 2, ground := Go.Ground.phase }, { on := 3, ground := Go.Ground.phase }, { on := 4, ground := Go.Ground.phase }, { on := 5, ground := Go.Ground.phase }, { on := 6, ground := Go.Ground.phase }, { on := 7, ground := Go.Ground.phase }, { on := 8, ground := Go.Ground.phase }, { on := 9, ground := Go.Ground.phase }, { on := 10, ground := Go.Ground.phase }, { on := 11, ground := Go.Ground.phase }], guard := none }) (v := ?v9) rfl (by kernel_rfl) (by kernel_rfl) (by kernel_rfl) (fun _ _ _ h => h) (Or.inl ⟨by kernel_rfl, ?h9⟩) (by assumption) ?r9
      case h9 => (intro w hSw; (try dsimp only at hSw); go_simp; try with_reducible rfl)
      try simp only [Act.put, List.setIfInBounds_toArray, List.set_cons_zero, List.set_cons_succ]
      refine wpAnyH_done (by kernel_rfl) ?_ _
      have o6' := Lib.hid o6
      have hx6' := Lib.hid hHeld
      have i0' := hc0 _ hHeld
      clear o6 hx6 own6 grow6 blk6 o5 s5 o4 s3 own4 grow4 blk4 o3 hx4 hx5 hx3 hHeld hc0
      go_wp2
      go_roundw
      case rel => exact ⟨k + 1, by omega, by go_num, by rw [hls.out], Lib.hid (by
        rw [hst.out, ← List.append_assoc, hPP'.out, ← hst2.out, ← List.append_assoc]; exact o6'.out), hx6'⟩
      case measure => simp [intOf]; omega
    · have hki : ¬ (k : Int) < (n : Int) := by omega
      have hfin : Hid (Made 5 .u8 w (putT l) (.returned u3) wr) := Lib.hid (by
        have := hown.out
        rw [List.take_of_length_le (by have := hnl.out; omega), hnl.out] at this
        exact ⟨_, rfl, this, hB.out⟩)
      go_wp2
      go_ret
      exact hfin.out
end Go.Proofs.Ytkfgfbdlbiahkaa
