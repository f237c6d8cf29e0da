/- StrsPuts: the walk of the statement's function. -/
import Derived.Test.YtkfgfbdlbiahkaaStrsLives
import Derived.Test.YtkfgfbdlbiahkaaStrsRefPut
namespace Go.Proofs.Ytkfgfbdlbiahkaa
open Go.RowKit
set_option linter.unusedVariables false
set_option linter.unusedSimpArgs false

theorem large_no {l : List ByteArray} (h : largeT l = false) : l.length ≤ 200 ∧ ∀ s ∈ l, s.size ≤ 400 := by
  unfold largeT at h
  rw [Bool.or_eq_false_iff, decide_eq_false_iff_not, List.any_eq_false] at h
  exact ⟨by omega, fun s hs => by have := h.2 s hs; simpa using this⟩
/-- The rest, of no table. -/
theorem check_many {l : List ByteArray} (h : 4096 < l.length) : checkT l = 3 := by unfold checkT; rw [if_pos (.inl h)]
theorem put_short {l : List ByteArray} (h1 : l.length ≤ 200) (h2 : ∀ s ∈ l, s.size ≤ 400) : (putT l).length ≤ 100000 := by
  have q1 := body_len 400 (by omega) (l := l) e0 h2
  have q2 := leb_len64 (n := l.length) (by omega)
  have q5 : l.length * (400 + 20) ≤ 200 * (400 + 20) := Nat.mul_le_mul_right _ h1
  unfold putT
  rw [List.length_append]
  omega
set_option maxRecDepth 100000 in
set_option maxHeartbeats 4000000 in
theorem strsPuts_walk (w : World) (a : Option Addr) (n c : Nat) (hrow : TSl w a n c) :
    Calls Try.prog 3 #[.slice a n c] w (Gives (.bool true) w) := by
  obtain ⟨l, hT, hsz, hn⟩ := hrow
  have hT' := Lib.hid hT
  have hni : (n : Int) ≤ 8796093022000 := by omega
  have hlen := Lib.hid hT.len
  have hlg := Lib.hid (rlarge_any a n c l w hT)
  have hlg2 : Hid (largeT l = false → l.length ≤ 200 ∧ ∀ s ∈ l, s.size ≤ 400) := Lib.hid large_no
  have hput := Lib.hid (tput_any a n c l (by omega) w hT)
  clear hT hsz
  by_cases h5 : 5000 < n
  · have h5i : (5000 : Int) < (n : Int) := by omega
    clear h5 hlg hput
    go_enter Try.func3, Try.ntmps3
    go_wp2_with fail
    refine (tlives_any _).mono ?_
    rintro e w1 ⟨rfl, b1⟩
    have b1' := Lib.hid b1
    clear b1
    go_wp2
    go_ret
    exact ⟨rfl, b1'.out⟩
  have h5i : ¬ (5000 : Int) < (n : Int) := by omega
  by_cases h4 : 4096 < n
  · have h4i : ¬ (n : Int) ≤ 4096 := by omega
    have hc3 : checkT l = 3 := check_many (by have := hlen.out; omega)
    have hck := Lib.hid (fun W (hb : Below w.heap.size w W) => rcheck_any a n c l W (hT'.out.below hb))
    have hck2 := Lib.hid (fun W (hb : Below w.heap.size w W) => check_any a n c l (by omega) W (hT'.out.below hb))
    rw [hc3] at hck hck2
    clear h4 h5 hlg
    go_enter Try.func3, Try.ntmps3
    go_wp2_with fail
    refine hput.out.mono ?_
    rintro e w1 ⟨b1, ⟨hc0, -⟩ | ⟨hc0, rfl⟩⟩
    · exact absurd (hc3.symm.trans hc0) (by decide)
    rw [hc3]
    have b1' := Lib.hid b1
    clear b1 hput
    go_wp2_with fail
    refine (tlives_any _).mono ?_
    rintro e w2 ⟨rfl, b2⟩
    have b2' := Lib.hid (b1'.out.trans (b2.mono b1'.out.size))
    clear b2 b1'
    go_wp2_with fail
    refine (hck.out _ b2'.out).mono ?_
    rintro e w3 ⟨rfl, m3, rfl⟩
    have b3' := Lib.hid (Below.drewN b2'.out m3)
    clear hck
    go_wp2_with fail
    refine (hck2.out _ b3'.out).mono ?_
    rintro e w4 ⟨rfl, m4, rfl⟩
    go_wp2
    go_ret
    exact ⟨rfl, Below.drewN b2'.out _⟩
  have h4i : (n : Int) ≤ 4096 := by omega
  cases hl : largeT l
  rotate_left
  · rw [hl] at hlg
    clear h4 h5 hput
    go_enter Try.func3, Try.ntmps3
    go_wp2_with fail
    refine hlg.out.mono ?_
    rintro e w1 ⟨rfl, rfl⟩
    clear hlg
    go_wp2_with fail
    refine (tlives_any _).mono ?_
    rintro e w1 ⟨rfl, b1⟩
    have b1' := Lib.hid b1
    clear b1
    go_wp2
    go_ret
    exact ⟨rfl, b1'.out⟩
  obtain ⟨hs1, hs2⟩ := hlg2.out hl
  rw [hl] at hlg
  have hck := Lib.hid (fun W (hb : Below w.heap.size w W) => rcheck_any a n c l W (hT'.out.below hb))
  have hck2 := Lib.hid (fun W (hb : Below w.heap.size w W) => check_any a n c l (by omega) W (hT'.out.below hb))
  by_cases hc0 : checkT l = 0
  · rw [hc0] at hck hck2
    have hP : Hid ((putT l).length ≤ 100000) := Lib.hid (put_short hs1 hs2)
    have hPi : ((putT l).length : Int) ≤ 100000 := by have := hP.out; omega
    have hget := Lib.hid (fun a3 c3 W (h : Sees .u8 W.heap.size W a3 (putT l)) => tget_any a3 (putT l) (putT l).length c3 rfl (by have := hP.out; omega) (put_bs l) W h)
    rw [get_putT hc0] at hget
    have hrp : Hid (∀ W, Below w.heap.size w W → Calls Try.prog 12 #[.slice a n c] W (fun e w' => ∃ a c, e = .returned (.slice a (putT l).length c) ∧ (∀ W', Below w'.heap.size w' W' → (convert 25 9 (.slice a (putT l).length c)).run Try.prog W' = .ok (.string (strOfNums (putT l))) W') ∧ Below W.heap.size W w')) := Lib.hid (fun W hb =>
      (rtput_any a n c l (by have := hlen.out; omega) (fun s hs => by have := hs2 s hs; omega) W (hT'.out.below hb)).mono (by
        intro e w' hm
        obtain ⟨a, c, rfl, hs, hb⟩ := hm.open _ rfl
        exact ⟨a, c, rfl, fun W' hW' => conv_sees _ 9 5 Try.underlying25 Try.underlying5 Try.underlying9 (hs.below hW') _ c rfl, hb⟩))
    have hsm : Hid (∀ a4 c4 W, Below w.heap.size w W → TT W a4 l.length c4 l → Calls Try.prog 13 #[.slice a n c, .slice a4 l.length c4] W (Gives (.bool true) W)) := Lib.hid (fun a4 c4 W hb h4 => (rsame_any a a4 n l.length c c4 l l (by omega) W (hT'.out.below hb) h4).mono (by
      rintro e w' ⟨rfl, m, rfl⟩
      rw [same_self]
      exact ⟨rfl, drewN_below _ _⟩))
    have hc0' := Lib.hid hc0
    clear h4 h5 hs1 hs2 hl hlg2 hP hc0
    go_enter Try.func3, Try.ntmps3
    go_wp2_with fail
    refine hlg.out.mono ?_
    rintro e w1 ⟨rfl, rfl⟩
    clear hlg
    go_wp2_with fail
    refine hput.out.mono ?_
    rintro e w1 ⟨b1, ⟨-, a3, c3, rfl, hc3, s3⟩ | ⟨hh, -⟩⟩
    rotate_left
    · exact absurd hc0'.out hh
    have b1' := Lib.hid b1
    have s3' := Lib.hid s3
    have hcv : Hid (∀ W, Below w1.heap.size w1 W → (convert 25 9 (.slice a3 (putT l).length c3)).run Try.prog W = .ok (.string (strOfNums (putT l))) W) := Lib.hid (fun W hW => conv_sees _ 9 5 Try.underlying25 Try.underlying5 Try.underlying9 (s3'.out.below hW) _ c3 rfl)
    clear b1 s3 hput hc3
    go_wp2_with fail
    refine (tlives_any _).mono ?_
    rintro e w2 ⟨rfl, b2⟩
    have b12 := Lib.hid b2
    have b2' := Lib.hid (b1'.out.trans (b2.mono b1'.out.size))
    clear b2
    go_wp2_with fail
    refine (hck.out _ b2'.out).mono ?_
    rintro e w3 ⟨rfl, m3, rfl⟩
    have b3' := Lib.hid (Below.drewN b2'.out m3)
    have b13 := Lib.hid (Below.drewN b12.out m3)
    clear b2' hck b12
    go_wp2_with fail
    refine (hck2.out _ b3'.out).mono ?_
    rintro e w4 ⟨rfl, m4, hw4⟩
    have b4' := Lib.hid (Below.drewN b3'.out m4)
    have b14 := Lib.hid (Below.drewN b13.out m4)
    rw [← hw4] at b4' b14
    have s4' := Lib.hid ((s3'.out.below b14.out).mono b14.out.size)
    clear hw4 hck2 b13 b3' s3'
    go_wp2_with fail
    refine (hget.out _ _ _ s4'.out).mono ?_
    rintro e w5 ⟨b5, a5, c5, rfl, T5⟩
    have T5' : Hid (TT w5 a5 l.length c5 l) := Lib.hid T5
    have B5 := Lib.hid (b4'.out.trans (b5.mono b4'.out.size))
    have B15 := b14.out.trans (b5.mono b14.out.size)
    have hcv5 : ∀ W, Below w5.heap.size w5 W → (convert 25 9 (.slice a3 (putT l).length c3)).run Try.prog W = .ok (.string (strOfNums (putT l))) W := fun W hW => hcv.out W (B15.trans (hW.mono B15.size))
    clear b5 T5 hget b14 b4' s4' B15 hcv
    generalize strOfNums (putT l) = X at *
    simp only [show (l, (putT l).length, (0 : Int)).1 = l from rfl, show (l, (putT l).length, (0 : Int)).2.1 = (putT l).length from rfl, show (l, (putT l).length, (0 : Int)).2.2 = 0 from rfl]
    generalize (putT l).length = pn at *
    go_wp2
    refine wp_drawn (by kernel_rfl) (fun hHeld => ?_)
    refine wpAnyH_take (i := 0) (oi := { dst := some 51, op := Go.Op.move (Go.Operand.tmp 3), type := 25, pos := "law.go:34", after := #[], guard := none }) (v := ?v1) rfl (by kernel_rfl) (by kernel_rfl) (by kernel_rfl) (fun _ _ _ h => h) (Or.inl ⟨by kernel_rfl, ?h1⟩) (by assumption) ?r1
    case h1 => (intro w hSw; (try dsimp only at hSw); go_simp; try with_reducible rfl)
    try simp only [Act.put, List.setIfInBounds_toArray, List.set_cons_zero, List.set_cons_succ]
    refine wpAnyH_take (i := 1) (oi := { dst := some 52, op := Go.Op.convert 25 9 (Go.Operand.tmp 51), type := 9, pos := "law.go:34", after := #[{ on := 0, ground := Go.Ground.data }], guard := none }) (v := ?v2) rfl (by kernel_rfl) (by kernel_rfl) (by kernel_rfl) (fun _ _ _ h => h) (Or.inl ⟨by kernel_rfl, ?h2⟩) (by assumption) ?r2
    case h2 => (intro w hSw; (try dsimp only at hSw); go_simp; try with_reducible rfl)
    try simp only [Act.put, List.setIfInBounds_toArray, List.set_cons_zero, List.set_cons_succ]
    refine wpAnyH_take (i := 2) (oi := { dst := some 53, op := Go.Op.move (Go.Operand.tmp 0), type := 22, pos := "law.go:34", after := #[], guard := none }) (v := ?v3) rfl (by kernel_rfl) (by kernel_rfl) (by kernel_rfl) (fun _ _ _ h => h) (Or.inl ⟨by kernel_rfl, ?h3⟩) (by assumption) ?r3
    case h3 => (intro w hSw; (try dsimp only at hSw); go_simp; try with_reducible rfl)
    try simp only [Act.put, List.setIfInBounds_toArray, List.set_cons_zero, List.set_cons_succ]
    refine wpAnyH_ready (rs := [3]) (by kernel_rfl) (by simp) ?_
    refine AllReadyH.cons (o := { dst := some 54, op := Go.Op.call { callee := Go.Callee.value (Go.Operand.func 12), args := #[Go.Operand.tmp 53], argTypes := #[22] }, type := 25, pos := "law.go:34", after := #[{ on := 2, ground := Go.Ground.data }], guard := none }) rfl (fun K hK => ?_) AllReadyH.nil
    go_simp
    have hbb := B5.out.trans (hHeld.mono B5.out.size)
    refine (hrp.out _ hbb).mono ?_
    rintro e w6 ⟨a6, c6, rfl, hcv6, hb6⟩
    have hb3 : Below w5.heap.size w5 w6 := hHeld.trans (hb6.mono hHeld.size)
    go_simp
    refine hK.out _ _ (hb3) (fun hHeld => ?_)
    clear hK K
    try simp only [Act.put, List.setIfInBounds_toArray, List.set_cons_zero, List.set_cons_succ]
    refine wpAnyH_now hHeld (fun hHeld => ?_)
    replace hcv5 := rebase hcv5 (hb3)
    refine wpAnyH_take (i := 4) (oi := { dst := some 55, op := Go.Op.convert 25 9 (Go.Operand.tmp 54), type := 9, pos := "law.go:34", after := #[{ on := 3, ground := Go.Ground.data }], guard := none }) (v := ?v4) rfl (by kernel_rfl) (by kernel_rfl) (by kernel_rfl) (fun _ _ _ h => h) (Or.inl ⟨by kernel_rfl, ?h4⟩) (by assumption) ?r4
    case h4 => (intro w hSw; (try dsimp only at hSw); go_simp; try with_reducible rfl)
    try simp only [Act.put, List.setIfInBounds_toArray, List.set_cons_zero, List.set_cons_succ]
    refine wpAnyH_take (i := 5) (oi := { dst := some 56, op := Go.Op.binOp Go.BinOp.eql 9 (Go.Operand.tmp 52) (Go.Operand.tmp 55) 9, type := 4, pos := "law.go:34", after := #[{ on := 1, ground := Go.Ground.data }, { on := 4, ground := Go.Ground.data }], guard := none }) (v := ?v5) rfl (by kernel_rfl) (by kernel_rfl) (by kernel_rfl) (fun _ _ _ h => h) (Or.inl ⟨by kernel_rfl, ?h5⟩) (by assumption) ?r5
    case h5 => (intro w hSw; (try dsimp only at hSw); go_simp; try with_reducible rfl)
    try simp only [Act.put, List.setIfInBounds_toArray, List.set_cons_zero, List.set_cons_succ]
    refine wpAnyH_take (i := 6) (oi := { dst := some 57, op := Go.Op.move (Go.Operand.tmp 56), type := 4, pos := "law.go:34", after := #[{ on := 5, ground := Go.Ground.data }, { on := 3, ground := Go.Ground.chain }], guard := none }) (v := ?v6) rfl (by kernel_rfl) (by kernel_rfl) (by kernel_rfl) (fun _ _ _ h => h) (Or.inl ⟨by kernel_rfl, ?h6⟩) (by assumption) ?r6
    case h6 => (intro w hSw; (try dsimp only at hSw); go_simp; try with_reducible rfl)
    try simp only [Act.put, List.setIfInBounds_toArray, List.set_cons_zero, List.set_cons_succ]
    refine wpAnyH_take (i := 7) (oi := { dst := some 58, op := Go.Op.move (Go.Operand.tmp 7), type := 26, pos := "law.go:34", after := #[{ on := 6, ground := Go.Ground.guard }], guard := some (6, true) }) (v := ?v7) rfl (by kernel_rfl) (by kernel_rfl) (by kernel_rfl) (fun _ _ _ h => h) (Or.inl ⟨by kernel_rfl, ?h7⟩) (by assumption) ?r7
    case h7 => (intro w hSw; (try dsimp only at hSw); go_simp; try with_reducible rfl)
    try simp only [Act.put, List.setIfInBounds_toArray, List.set_cons_zero, List.set_cons_succ]
    refine wpAnyH_take (i := 8) (oi := { dst := some 59, op := Go.Op.binOp Go.BinOp.eql 26 (Go.Operand.tmp 58) (Go.Operand.const (Go.Value.int Go.IntKind.i64 0)) 26, type := 4, pos := "law.go:34", after := #[{ on := 7, ground := Go.Ground.data }, { on := 6, ground := Go.Ground.guard }], guard := some (6, true) }) (v := ?v8) rfl (by kernel_rfl) (by kernel_rfl) (by kernel_rfl) (fun _ _ _ h => h) (Or.inl ⟨by kernel_rfl, ?h8⟩) (by assumption) ?r8
    case h8 => (intro w hSw; (try dsimp only at hSw); go_simp; try with_reducible rfl)
    try simp only [Act.put, List.setIfInBounds_toArray, List.set_cons_zero, List.set_cons_succ]
    refine wpAnyH_take (i := 9) (oi := { dst := some 60, op := Go.Op.pick (Go.Operand.tmp 57) (Go.Operand.tmp 59) (Go.Operand.const (Go.Value.bool false)), type := 4, pos := "law.go:34", after := #[{ on := 6, ground := Go.Ground.data }, { on := 8, ground := Go.Ground.data }], guard := none }) (v := ?v9) rfl (by kernel_rfl) (by kernel_rfl) (by kernel_rfl) (fun _ _ _ h => h) (Or.inl ⟨by kernel_rfl, ?h9⟩) (by assumption) ?r9
    case h9 => (intro w hSw; (try dsimp only at hSw); go_simp; try with_reducible rfl)
    try simp only [Act.put, List.setIfInBounds_toArray, List.set_cons_zero, List.set_cons_succ]
    refine wpAnyH_take (i := 10) (oi := { dst := some 61, op := Go.Op.move (Go.Operand.tmp 60), type := 4, pos := "law.go:34", after := #[{ on := 9, ground := Go.Ground.data }, { on := 6, ground := Go.Ground.chain }], guard := none }) (v := ?v10) rfl (by kernel_rfl) (by kernel_rfl) (by kernel_rfl) (fun _ _ _ h => h) (Or.inl ⟨by kernel_rfl, ?h10⟩) (by assumption) ?r10
    case h10 => (intro w hSw; (try dsimp only at hSw); go_simp; try with_reducible rfl)
    try simp only [Act.put, List.setIfInBounds_toArray, List.set_cons_zero, List.set_cons_succ]
    refine wpAnyH_take (i := 11) (oi := { dst := some 62, op := Go.Op.move (Go.Operand.tmp 6), type := 3, pos := "law.go:34", after := #[{ on := 10, ground := Go.Ground.guard }], guard := some (10, true) }) (v := ?v11) rfl (by kernel_rfl) (by kernel_rfl) (by kernel_rfl) (fun _ _ _ h => h) (Or.inl ⟨by kernel_rfl, ?h11⟩) (by assumption) ?r11
    case h11 => (intro w hSw; (try dsimp only at hSw); go_simp; try with_reducible rfl)
    try simp only [Act.put, List.setIfInBounds_toArray, List.set_cons_zero, List.set_cons_succ]
    refine wpAnyH_take (i := 12) (oi := { dst := some 63, op := Go.Op.move (Go.Operand.tmp 3), type := 25, pos := "law.go:34", after := #[{ on := 10, ground := Go.Ground.guard }], guard := some (10, true) }) (v := ?v12) rfl (by kernel_rfl) (by kernel_rfl) (by kernel_rfl) (fun _ _ _ h => h) (Or.inl ⟨by kernel_rfl, ?h12⟩) (by assumption) ?r12
    case h12 => (intro w hSw; (try dsimp only at hSw); go_simp; try with_reducible rfl)
    try simp only [Act.put, List.setIfInBounds_toArray, List.set_cons_zero, List.set_cons_succ]
    refine wpAnyH_take (i := 13) (oi := { dst := some 64, op := Go.Op.call { callee := Go.Callee.builtin Go.Builtin.len, args := #[Go.Operand.tmp 63], argTypes := #[25] }, type := 3, pos := "law.go:34", after := #[{ on := 12, ground := Go.Ground.data }, { on := 10, ground := Go.Ground.guard }], guard := some (10, true) }) (v := ?v13) rfl (by kernel_rfl) (by kernel_rfl) (by kernel_rfl) (fun _ _ _ h => h) (Or.inl ⟨by kernel_rfl, ?h13⟩) (by assumption) ?r13
    case h13 => (intro w hSw; (try dsimp only at hSw); go_simp; try with_reducible rfl)
    try simp only [Act.put, List.setIfInBounds_toArray, List.set_cons_zero, List.set_cons_succ]
    refine wpAnyH_take (i := 14) (oi := { dst := some 65, op := Go.Op.binOp Go.BinOp.eql 3 (Go.Operand.tmp 62) (Go.Operand.tmp 64) 3, type := 4, pos := "law.go:34", after := #[{ on := 11, ground := Go.Ground.data }, { on := 13, ground := Go.Ground.data }, { on := 10, ground := Go.Ground.guard }], guard := some (10, true) }) (v := ?v14) rfl (by kernel_rfl) (by kernel_rfl) (by kernel_rfl) (fun _ _ _ h => h) (Or.inl ⟨by kernel_rfl, ?h14⟩) (by assumption) ?r14
    case h14 => (intro w hSw; (try dsimp only at hSw); go_simp; try with_reducible rfl)
    try simp only [Act.put, List.setIfInBounds_toArray, List.set_cons_zero, List.set_cons_succ]
    refine wpAnyH_take (i := 15) (oi := { dst := some 66, op := Go.Op.pick (Go.Operand.tmp 61) (Go.Operand.tmp 65) (Go.Operand.const (Go.Value.bool false)), type := 4, pos := "law.go:34", after := #[{ on := 10, ground := Go.Ground.data }, { on := 14, ground := Go.Ground.data }], guard := none }) (v := ?v15) rfl (by kernel_rfl) (by kernel_rfl) (by kernel_rfl) (fun _ _ _ h => h) (Or.inl ⟨by kernel_rfl, ?h15⟩) (by assumption) ?r15
    case h15 => (intro w hSw; (try dsimp only at hSw); go_simp; try with_reducible rfl)
    try simp only [Act.put, List.setIfInBounds_toArray, List.set_cons_zero, List.set_cons_succ]
    refine wpAnyH_take (i := 16) (oi := { dst := some 67, op := Go.Op.move (Go.Operand.tmp 66), type := 4, pos := "law.go:34", after := #[{ on := 15, ground := Go.Ground.data }, { on := 10, ground := Go.Ground.chain }], guard := none }) (v := ?v16) rfl (by kernel_rfl) (by kernel_rfl) (by kernel_rfl) (fun _ _ _ h => h) (Or.inl ⟨by kernel_rfl, ?h16⟩) (by assumption) ?r16
    case h16 => (intro w hSw; (try dsimp only at hSw); go_simp; try with_reducible rfl)
    try simp only [Act.put, List.setIfInBounds_toArray, List.set_cons_zero, List.set_cons_succ]
    refine wpAnyH_take (i := 17) (oi := { dst := some 68, op := Go.Op.move (Go.Operand.tmp 0), type := 22, pos := "law.go:34", after := #[{ on := 16, ground := Go.Ground.guard }], guard := some (16, true) }) (v := ?v17) rfl (by kernel_rfl) (by kernel_rfl) (by kernel_rfl) (fun _ _ _ h => h) (Or.inl ⟨by kernel_rfl, ?h17⟩) (by assumption) ?r17
    case h17 => (intro w hSw; (try dsimp only at hSw); go_simp; try with_reducible rfl)
    try simp only [Act.put, List.setIfInBounds_toArray, List.set_cons_zero, List.set_cons_succ]
    refine wpAnyH_take (i := 18) (oi := { dst := some 69, op := Go.Op.move (Go.Operand.tmp 5), type := 22, pos := "law.go:34", after := #[{ on := 16, ground := Go.Ground.guard }], guard := some (16, true) }) (v := ?v18) rfl (by kernel_rfl) (by kernel_rfl) (by kernel_rfl) (fun _ _ _ h => h) (Or.inl ⟨by kernel_rfl, ?h18⟩) (by assumption) ?r18
    case h18 => (intro w hSw; (try dsimp only at hSw); go_simp; try with_reducible rfl)
    try simp only [Act.put, List.setIfInBounds_toArray, List.set_cons_zero, List.set_cons_succ]
    refine wpAnyH_ready (rs := [19]) (by kernel_rfl) (by simp) ?_
    refine AllReadyH.cons (o := { dst := some 70, op := Go.Op.call { callee := Go.Callee.value (Go.Operand.func 13), args := #[Go.Operand.tmp 68, Go.Operand.tmp 69], argTypes := #[22, 22] }, type := 4, pos := "law.go:34", after := #[{ on := 17, ground := Go.Ground.data }, { on := 18, ground := Go.Ground.data }, { on := 16, ground := Go.Ground.chain }, { on := 16, ground := Go.Ground.guard }], guard := some (16, true) }) rfl (fun K hK => ?_) AllReadyH.nil
    go_simp
    have hb45 := B5.out.trans (hb3.mono B5.out.size)
    refine (hsm.out a5 c5 w6 hb45 (T5'.out.below hb3)).mono ?_
    rintro e w7 ⟨rfl, b7⟩
    have hb19 : Below w6.heap.size w6 w7 := b7
    go_simp
    refine hK.out _ _ (hb19) (fun hHeld => ?_)
    clear hK K
    try simp only [Act.put, List.setIfInBounds_toArray, List.set_cons_zero, List.set_cons_succ]
    refine wpAnyH_now hHeld (fun hHeld => ?_)
    replace hcv5 := rebase hcv5 (hb19)
    replace hcv6 := rebase hcv6 (hb19)
    refine wpAnyH_take (i := 20) (oi := { dst := some 71, op := Go.Op.pick (Go.Operand.tmp 67) (Go.Operand.tmp 70) (Go.Operand.const (Go.Value.bool false)), type := 4, pos := "law.go:34", after := #[{ on := 16, ground := Go.Ground.data }, { on := 19, ground := Go.Ground.data }], guard := none }) (v := ?v19) rfl (by kernel_rfl) (by kernel_rfl) (by kernel_rfl) (fun _ _ _ h => h) (Or.inl ⟨by kernel_rfl, ?h19⟩) (by assumption) ?r19
    case h19 => (intro w hSw; (try dsimp only at hSw); go_simp; try with_reducible rfl)
    try simp only [Act.put, List.setIfInBounds_toArray, List.set_cons_zero, List.set_cons_succ]
    refine wpAnyH_take (i := 21) (oi := { dst := some 2, op := Go.Op.assign (Go.Operand.tmp 71), type := 4, pos := "law.go:34", after := #[{ on := 20, ground := Go.Ground.data }, { on := 19, ground := Go.Ground.chain }, { on := 0, ground := Go.Ground.phase }, { on := 1, ground := Go.Ground.phase }, { on := 2, ground := Go.Ground.phase }, { on := 3, ground := Go.Ground.phase }, { on := 4, ground := Go.Ground.phase }, { on := 5, ground := Go.Ground.phase }, { on := 6, ground := Go.Ground.phase }, { on := 7, ground := Go.Ground.phase }, { on := 8, ground := Go.Ground.phase }, { on := 9, ground := Go.Ground.phase }, { on := 10, ground := Go.Ground.phase }, { on := 11, ground := Go.Ground.phase }, { on := 12, ground := Go.Ground.phase }, { on := 13, ground := Go.Ground.phase }, { on := 14, ground := Go.Ground.phase }, { on := 15, ground := Go.Ground.phase }, { on := 16, ground := Go.Ground.phase }, { on := 17, ground := Go.Ground.phase }, { on := 18, ground := Go.Ground.phase }, { on := 19, ground := Go.Ground.phase }, { on := 20, ground := Go.Ground.phase }], guard := none }) (v := ?v20) rfl (by kernel_rfl) (by kernel_rfl) (by kernel_rfl) (fun _ _ _ h => h) (Or.inl ⟨by kernel_rfl, ?h20⟩) (by assumption) ?r20
    case h20 => (intro w hSw; (try dsimp only at hSw); go_simp; try with_reducible rfl)
    try simp only [Act.put, List.setIfInBounds_toArray, List.set_cons_zero, List.set_cons_succ]
    refine wpAnyH_done (by kernel_rfl) ?_ _
    go_wp2
    go_ret
    have q2 := B5.out.trans (hb3.mono B5.out.size)
    exact ⟨rfl, q2.trans (hb19.mono q2.size)⟩
  · have hc0' := Lib.hid hc0
    have hcb : (checkT l != 0) = true := by simpa using hc0
    clear h4 h5 hs1 hs2 hl hlg2 hc0
    go_enter Try.func3, Try.ntmps3
    go_wp2_with fail
    refine hlg.out.mono ?_
    rintro e w1 ⟨rfl, rfl⟩
    clear hlg
    go_wp2_with fail
    refine hput.out.mono ?_
    rintro e w1 ⟨b1, ⟨hc, -⟩ | ⟨-, rfl⟩⟩
    · exact absurd hc hc0'.out
    have b1' := Lib.hid b1
    clear b1 hput hc0'
    generalize checkT l = x at *
    go_wp2_with fail
    refine (tlives_any _).mono ?_
    rintro e w2 ⟨rfl, b2⟩
    have b2' := Lib.hid (b1'.out.trans (b2.mono b1'.out.size))
    clear b2 b1'
    go_wp2_with fail
    refine (hck.out _ b2'.out).mono ?_
    rintro e w3 ⟨rfl, m3, rfl⟩
    have b3' := Lib.hid (Below.drewN b2'.out m3)
    clear hck
    go_wp2_with fail
    refine (hck2.out _ b3'.out).mono ?_
    rintro e w4 ⟨rfl, m4, rfl⟩
    go_wp2
    go_ret
    exact ⟨rfl, Below.drewN b2'.out _⟩
end Go.Proofs.Ytkfgfbdlbiahkaa
