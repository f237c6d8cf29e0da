/- FileDoes: whatever is called of a disk. -/
import Derived.Test.YtjhakmpinloioaaFileDo2
import Derived.Test.YtjhakmpinloioaaStructs
namespace Go.Proofs.Ytjhakmpinloioaa
open Go.RowKit Go.ChangeShapes Go.WideShapes Go.Deep
set_option linter.unusedVariables false
set_option linter.unusedSimpArgs false

theorem do_any (kd : Int) (d : Nat) (F : List Nat) (x : Nat) (s : St) (n k : Int) (hk : k ≤ 9223372036854775807) (A : Option Addr) (m c : Nat) (w : World) (b : List Int) (hm : b.length = m) (hmc : m ≤ c) (hbl : b.length ≤ 50000000) (hA : SeesE (x :: F) .u8 w.heap.size w A b) (h : Pr w d F x s) :
    Calls Try.prog 11 #[.pointer (some ⟨d, 0, none⟩), .pointer (some ⟨x, 0, none⟩), .agg #[.int .i64 kd, .int .i64 n, .int .i64 k, .slice A m c]] w (Does w d F x) := by
  by_cases h1 : kd = 1
  · subst h1; exact do_1 d F x s n k hk A m c w b hm hmc hbl hA h
  by_cases h2 : kd = 2
  · subst h2; exact do_2 d F x s n k hk A m c w h
  by_cases h3 : kd = 3
  · subst h3; exact do_3 d F x s n k hk A m c w h
  by_cases h4 : kd = 4
  · subst h4; exact do_4 d F x s n k hk A m c w h
  by_cases h5 : kd = 5
  · subst h5; exact do_5 d F x s n k hk A m c w h
  by_cases h6 : kd = 6
  · subst h6; exact do_6 d F x s n k hk A m c w h
  by_cases h7 : kd = 7
  · subst h7; exact do_7 d F x s n k hk A m c w b hm hmc hbl hA h
  exact do_no d F x s kd ⟨h1, h2, h3, h4, h5, h6, h7⟩ n k hk A m c w h

theorem alike_any (d : Nat) (F : List Nat) (x : Nat) (s : St) (w : World) (h : Pr w d F x s) :
    Calls Try.prog 12 #[.pointer (some ⟨d, 0, none⟩), .pointer (some ⟨x, 0, none⟩)] w (Gives (.bool true) w) := by
  have k3 := Holds.cell h.rk 3
  simp at k3
  have lx := h.rk.lt
  have j3 : ∀ W', Below w.heap.size w W' → W'.cell? ⟨x, 3, none⟩ = some (.bool s.off) := fun W' hb => (hb.cell (p := ⟨x, 3, none⟩) lx).trans k3
  have c1 := Lib.hid (fun W' (hb : Below w.heap.size w W') => off_any d F s W' (h.dk.below hb))
  have c2 := Lib.hid (fun n W' (hb : Below w.heap.size w W') => read_any d F s n W' (h.dk.below hb) h.fine)
  have c3 := Lib.hid (fun n W' (hb : Below w.heap.size w W') => rread_any x s n W' (h.rk.below hb))
  clear h k3 lx
  go_enter Try.func12, Try.ntmps12
  go_wp2
  refine wp_drawn_on (fun W' => Below w.heap.size w W') (by kernel_rfl) ((Below.refl _ _).drew) (fun hHeld => ?_)
  refine wpAnyH_take (i := 0) (oi := { dst := some 10, op := Go.Op.move (Go.Operand.tmp 0), type := 25, pos := "law.go:55", after := #[], guard := none }) (v := ?v1) rfl (by kernel_rfl) (by kernel_rfl) (by kernel_rfl) (fun _ _ _ h => h) (Or.inl ⟨by kernel_rfl, ?h1⟩) (by assumption) ?r1
  case h1 => (intro w hSw; (try dsimp only at hSw); go_simp; try with_reducible rfl)
  try simp only [Act.put, List.setIfInBounds_toArray, List.set_cons_zero, List.set_cons_succ]
  refine wpAnyH_take (i := 2) (oi := { dst := some 12, op := Go.Op.move (Go.Operand.tmp 1), type := 27, pos := "law.go:55", after := #[], guard := none }) (v := ?v2) rfl (by kernel_rfl) (by kernel_rfl) (by kernel_rfl) (fun _ _ _ h => h) (Or.inl ⟨by kernel_rfl, ?h2⟩) (by assumption) ?r2
  case h2 => (intro w hSw; (try dsimp only at hSw); go_simp; try with_reducible rfl)
  try simp only [Act.put, List.setIfInBounds_toArray, List.set_cons_zero, List.set_cons_succ]
  refine wpAnyH_take (i := 3) (oi := { dst := some 13, op := Go.Op.nilCheck (Go.Operand.tmp 12), type := 0, pos := "law.go:55", after := #[{ on := 2, ground := Go.Ground.data }], guard := none }) (v := ?v3) rfl (by kernel_rfl) (by kernel_rfl) (by kernel_rfl) (fun _ _ _ h => h) (Or.inl ⟨by kernel_rfl, ?h3⟩) (by assumption) ?r3
  case h3 => (intro w hSw; (try dsimp only at hSw); go_simp; try with_reducible rfl)
  try simp only [Act.put, List.setIfInBounds_toArray, List.set_cons_zero, List.set_cons_succ]
  refine wpAnyH_take (i := 4) (oi := { dst := some 14, op := Go.Op.fieldAddr 50 (Go.Operand.tmp 13) 2, type := 0, pos := "law.go:55", after := #[{ on := 3, ground := Go.Ground.data }], guard := none }) (v := ?v4) rfl (by kernel_rfl) (by kernel_rfl) (by kernel_rfl) (fun _ _ _ h => h) (Or.inl ⟨by kernel_rfl, ?h4⟩) (by assumption) ?r4
  case h4 => (intro w hSw; (try dsimp only at hSw); go_simp; try with_reducible rfl)
  try simp only [Act.put, List.setIfInBounds_toArray, List.set_cons_zero, List.set_cons_succ]
  refine wpAnyH_take (i := 5) (oi := { dst := some 15, op := Go.Op.load 4 (Go.Operand.tmp 14), type := 4, pos := "law.go:55", after := #[{ on := 4, ground := Go.Ground.data }], guard := none }) (v := ?v5) rfl (by kernel_rfl) (by kernel_rfl) (by kernel_rfl) (fun _ _ _ h => h) (Or.inl ⟨by kernel_rfl, ?h5⟩) (by assumption) ?r5
  case h5 => (intro w hSw; (try dsimp only at hSw); go_simp; try with_reducible rfl)
  try simp only [Act.put, List.setIfInBounds_toArray, List.set_cons_zero, List.set_cons_succ]
  refine wpAnyH_ready (rs := [1]) (by kernel_rfl) (by simp) ?_
  refine AllReadyH.cons (o := { dst := some 11, op := Go.Op.call { callee := Go.Callee.value (Go.Operand.func 20), args := #[Go.Operand.tmp 10], argTypes := #[25] }, type := 4, pos := "law.go:55", after := #[{ on := 0, ground := Go.Ground.data }], guard := none }) rfl (fun K hK => ?_) AllReadyH.nil
  go_simp
  refine (c1.out _ hHeld).mono ?_
  rintro e w1 ⟨rfl, rfl⟩
  go_simp
  refine hK.out _ _ hHeld (fun hHeld => ?_)
  clear hK K
  try simp only [Act.put, List.setIfInBounds_toArray, List.set_cons_zero, List.set_cons_succ]
  refine wpAnyH_take (i := 6) (oi := { dst := some 16, op := Go.Op.binOp Go.BinOp.neq 4 (Go.Operand.tmp 11) (Go.Operand.tmp 15) 4, type := 4, pos := "law.go:55", after := #[{ on := 1, ground := Go.Ground.data }, { on := 5, ground := Go.Ground.data }], guard := none }) (v := ?v6) rfl (by kernel_rfl) (by kernel_rfl) (by kernel_rfl) (fun _ _ _ h => h) (Or.inl ⟨by kernel_rfl, ?h6⟩) (by assumption) ?r6
  case h6 => (intro w hSw; (try dsimp only at hSw); go_simp; try with_reducible rfl)
  try simp only [Act.put, List.setIfInBounds_toArray, List.set_cons_zero, List.set_cons_succ]
  refine wpAnyH_done (by kernel_rfl) ?_ _
  clear j3
  go_wp2
  go_loopw [5] (fun i wr => ∃ k : Nat, k ≤ 2 ∧ i = .int .i64 k ∧ Hid (Below w.heap.size w wr)) (fun i _ => 2 - (intOf i).toNat)
  case atStart => exact ⟨0, by omega, rfl, Lib.hid (Below.refl _ _).drew⟩
  case round =>
    obtain ⟨k, hk, rfl, hB⟩ := hrel
    by_cases hlt : k < 2
    · have e2 := Lib.hid (c2.out k wr hB.out)
      have e3 := Lib.hid (fun w1 (b1 : Below wr.heap.size wr w1) => c3.out k w1 (hB.out.trans (b1.mono hB.out.size)))
      generalize readO s k = r at *
      obtain ⟨rb, rv⟩ := r
      go_wp2_with fail
      refine e2.out.mono ?_
      rintro e w1 ⟨v, rfl, o1, b1⟩
      obtain ⟨a1, q1, rfl, -, s1⟩ := sees_own o1
      have hcv : (convert 30 9 (.slice a1 rb.length q1)).run Try.prog w1 = .ok (.string (strOfNums rb)) w1 := conv_sees _ 9 5 Try.underlying30 Try.underlying5 Try.underlying9 s1 rb.length q1 rfl
      have e4 := Lib.hid (e3.out w1 b1)
      have b1' := Lib.hid b1
      clear b1 o1 s1 e2 e3 c1 c2 c3
      simp only
      generalize strOfNums rb = sb at *
      generalize rb.length = lb at *
      go_wp2_with fail
      refine e4.out.mono ?_
      rintro e w2 ⟨rfl, rfl⟩
      go_wp2
      go_roundw
      case rel => exact ⟨k + 1, by omega, by go_num, Lib.hid (hB.out.trans (b1'.out.mono hB.out.size))⟩
      case measure => simp [intOf]; omega
    · go_wp2
      go_ret
      exact ⟨rfl, hB.out⟩

/-- The calls that came in: kinds, files, numbers, bytes. -/
structure OpD where
  kd : Int
  n : Int
  k : Int
  a : Option Addr
  m : Nat
  c : Nat
  b : List Int
def OneOp (w W : World) (b off i : Nat) (o : OpD) : Prop :=
  w.cell? ⟨b, off + i * 4, none⟩ = some (.int .i64 o.kd) ∧ w.cell? ⟨b, off + i * 4 + 1, none⟩ = some (.int .i64 o.n) ∧ w.cell? ⟨b, off + i * 4 + 2, none⟩ = some (.int .i64 o.k) ∧ w.cell? ⟨b, off + i * 4 + 3, none⟩ = some (.slice o.a o.m o.c) ∧
    o.k ≤ 9223372036854775807 ∧ o.m ≤ o.c ∧ o.c ≤ maxLen ∧ o.b.length = o.m ∧ Sees .u8 W.heap.size w o.a o.b
def FRow (w : World) (r : Option Addr) (len : Nat) (o : Nat → OpD) : Prop := len = 0 ∨ ∃ b off, r = some ⟨b, off, none⟩ ∧ b < w.heap.size ∧ ∀ i, i < len → OneOp w w b off i (o i)
def FSl (w : World) (r : Option Addr) (len cap : Nat) : Prop := len ≤ cap ∧ cap ≤ maxLen ∧ ∃ o, FRow w r len o
theorem FRow.at_ {w w' : World} {r : Option Addr} {len : Nat} {o : Nat → OpD} (h : FRow w r len o) (hb : Below w.heap.size w w') {i : Nat} (hi : i < len) : ∃ b off, r = some ⟨b, off, none⟩ ∧ b < w.heap.size ∧ OneOp w' w b off i (o i) := by
  rcases h with h | ⟨b, off, hr, hlt, h⟩
  · omega
  · obtain ⟨h0, h1, h2, h3, h4, h5, h6, h7, h8⟩ := h i hi
    exact ⟨b, off, hr, hlt, (hb.cell (p := ⟨b, _, none⟩) hlt).trans h0, (hb.cell (p := ⟨b, _, none⟩) hlt).trans h1, (hb.cell (p := ⟨b, _, none⟩) hlt).trans h2, (hb.cell (p := ⟨b, _, none⟩) hlt).trans h3, h4, h5, h6, h7, h8.below hb⟩
theorem f_row {H : Type} {enc : TypeId × Value → H} {w : World} {fuel : Nat} {r : Option Addr} {len cap : Nat} {x : DataW H × List MemPlace}
    (h : DataW.trod enc Try.prog w 0 (fun _ => true) true fuel 22 [.slice r len cap] = some x) : FSl w r len cap := by
  obtain ⟨h1, h2, h3⟩ := struct_row Try.underlying22 Try.underlying32 (by kernel_rfl) (by kernel_rfl) (by decide) h
  refine ⟨h1, h2, ?_⟩
  rcases h3 with rfl | ⟨b, off, rfl, hlt, h3⟩
  · exact ⟨fun _ => ⟨0, 0, 0, none, 0, 0, []⟩, .inl rfl⟩
  · have key : ∀ i, ∃ o : OpD, i < len → OneOp w w b off i o := by
      intro i
      by_cases hi : i < len
      · obtain ⟨v0, y0, n0, c0, t0⟩ := h3 i hi 0 _ rfl
        obtain ⟨v1, y1, n1, c1, t1⟩ := h3 i hi 1 _ rfl
        obtain ⟨v2, y2, n2, c2, t2⟩ := h3 i hi 2 _ rfl
        obtain ⟨v3, y3, n3, c3, t3⟩ := h3 i hi 3 _ rfl
        obtain ⟨k0, e0, _, _⟩ := DataW.trod_int Try.underlying3 t0
        obtain ⟨k1, e1, _, _⟩ := DataW.trod_int Try.underlying3 t1
        obtain ⟨k2, e2, _, w2⟩ := DataW.trod_int Try.underlying3 t2
        simp at e0 e1 e2
        subst e0 e1 e2
        have hk := (i64_wf w2).2
        rcases open_ints Try.underlying30 Try.underlying5 (by kernel_rfl) t3 with ⟨hcs, _⟩ | ⟨a', l, c, zs, hcs, _, hl, hm, hz, _, hcell, hwz⟩
        · simp at hcs
          subst hcs
          exact ⟨⟨k0, k1, k2, none, 0, 0, []⟩, fun _ => ⟨c0, c1, c2, c3, hk, by simp, by simp, rfl, .inl rfl⟩⟩
        · simp at hcs
          subst hcs
          simp only [if_true] at hz
          refine ⟨⟨k0, k1, k2, some a', l, c, zs.take l⟩, fun _ => ⟨c0, c1, c2, c3, hk, hl, hm, by simp; omega, ?_⟩⟩
          by_cases hL : l = 0
          · left; simp [hL]
          · right
            obtain ⟨b', off', spot'⟩ := a'
            have h8 := hcell 0 (by omega)
            have hs : spot' = none := spot_none h8
            subst hs
            rw [add_plain] at h8
            refine ⟨b', off', rfl, World.block_lt_of_cell? w _ h8, fun j hj => ?_⟩
            have hj' : j < l := by simp at hj; omega
            have h9 := hcell j (by omega)
            rw [add_plain] at h9
            rw [h9]
            simp [List.getD, hj']
      · exact ⟨⟨0, 0, 0, none, 0, 0, []⟩, fun h => absurd h hi⟩
    exact ⟨fun i => Classical.choose (key i), .inr ⟨b, off, rfl, hlt, fun i hi => Classical.choose_spec (key i) hi⟩⟩

def Larges (len : Nat) (o : Nat → OpD) (w : World) (e : Ending) (w' : World) : Prop := w = w' ∧ (e = .returned (.bool true) ∨ (e = .returned (.bool false) ∧ len ≤ 60 ∧ ∀ i, i < len → (o i).m ≤ 300))
theorem large_any (w : World) (r : Option Addr) (len cap : Nat) (hlc : len ≤ cap) (hcm : cap ≤ maxLen) (o : Nat → OpD) (h : FRow w r len o) :
    Calls Try.prog 7 #[.slice r len cap] w (Larges len o w) := by
  unfold maxLen at hcm
  by_cases hbig : 60 < len
  · clear h
    go_enter Try.func7, Try.ntmps7
    go_wp2
    go_ret
    exact ⟨rfl, .inl rfl⟩
  · have hd : decide ((60 : Int) < (len : Int)) = false := by simp; omega
    have hll : len ≤ 60 := by omega
    have h' := Lib.hid h
    clear hbig h
    go_enter Try.func7, Try.ntmps7
    go_wp2
    go_loop [3] (fun i => ∃ k : Nat, k ≤ len ∧ Hid (∀ i, i < k → (o i).m ≤ 300) ∧ i = .int .i64 k) (fun i => len - (intOf i).toNat)
    case atStart => exact ⟨0, Nat.zero_le _, Lib.hid (fun i hi => by omega), rfl⟩
    case round =>
      obtain ⟨k, hk, hs, rfl⟩ := hrel
      by_cases hlt : k < len
      · obtain ⟨b, off, rfl, hbl, g0, g1, g2, g3, g4, g5, g6, g7, g8⟩ := h'.out.at_ (Below.refl _ _) hlt
        clear g0 g1 g2 g4 g7 g8
        unfold maxLen at g6
        by_cases hlong : 300 < (o k).m
        · have hd3 : decide ((300 : Int) < ((o k).m : Int)) = true := by simp; omega
          clear hs
          go_wp2
          go_ret
          exact ⟨rfl, .inl rfl⟩
        · have hd3 : ¬ ((300 : Int) < ((o k).m : Int)) := by omega
          have hs2 : Hid (∀ i, i < k + 1 → (o i).m ≤ 300) := Lib.hid fun i hi => by
            by_cases e : i = k
            · subst e; omega
            · exact hs.out i (by omega)
          clear hlong hs
          go_wp2
          go_round
          case rel => exact ⟨k + 1, by omega, hs2, by go_num⟩
          case measure => simp [intOf]; omega
      · have hke : k = len := by omega
        subst hke
        go_wp2
        go_ret
        exact ⟨rfl, .inr ⟨rfl, hll, hs.out⟩⟩

set_option maxRecDepth 100000 in
set_option maxHeartbeats 4000000 in
theorem fileDoes_walk (w : World) (ro : Option Addr) (len co : Nat) (hrow : FSl w ro len co) :
    Calls Try.prog 3 #[.slice ro len co] w (Gives (.bool true) w) := by
  obtain ⟨hlc, hcm, o, hops⟩ := hrow
  have hlg := Lib.hid (large_any w ro len co hlc hcm o hops)
  have hops' := Lib.hid hops
  unfold maxLen at hcm
  have hlc' := Lib.hid hlc
  clear hops
  go_enter Try.func3, Try.ntmps3
  go_wp2_with fail
  refine hlg.out.mono ?_
  rintro e w' ⟨rfl, rfl | ⟨rfl, hll, hsm⟩⟩
  · clear hlg hops' hlc hlc'
    go_wp2_with fail
    refine (lives_any _).mono ?_
    rintro e w' ⟨rfl, hb'⟩
    go_wp2
    go_ret
    exact ⟨rfl, hb'⟩
  have hsm' := Lib.hid hsm
  clear hlg hsm hlc
  go_wp2_with fail
  refine (new_any w).mono ?_
  rintro e w1 ⟨d, F0, rfl, D, b1, f1⟩
  go_wp2_with fail
  refine (rnew_any w1).mono ?_
  rintro e w2 ⟨x, rfl, R, b2, hx⟩
  have hdx := D.all
  have nx : x ∉ F0 := fun hm => by have := hdx x hm; omega
  have P2 : Pr w2 d F0 x S0 := ⟨D.below b2, R, nx, s0_fine⟩
  have b3 := b1.trans (b2.mono b1.size)
  have hxw : w.heap.size ≤ x := Nat.le_trans b1.size hx
  clear D R hdx nx b1 b2 hx
  go_wp2_with fail
  refine (lives_any w2).mono ?_
  rintro e w3 ⟨rfl, h⟩
  have P3 := Lib.hid (P2.below h)
  have b4 := Lib.hid (b3.trans (h.mono b3.size))
  have f1' := Lib.hid f1
  clear P2 b3 h f1
  go_wp2
  go_loopw [5] (fun i wr => ∃ (k : Nat) (F : List Nat) (s : St), k ≤ len ∧ i = .int .i64 k ∧ Hid (Pr wr d F x s) ∧ Hid (∀ y ∈ F, w.heap.size ≤ y) ∧ Hid (Below w.heap.size w wr)) (fun i _ => len - (intOf i).toNat)
  case atStart => exact ⟨0, F0, S0, Nat.zero_le _, rfl, P3, f1', b4⟩
  case round =>
    obtain ⟨k, F, s, hk, rfl, hP, hF, hB⟩ := hrel
    by_cases hlt : k < len
    · obtain ⟨b, off, rfl, hbl, g0, g1, g2, g3, g4, g5, g6, g7, g8⟩ := hops'.out.at_ hB.out hlt
      have hm3 := hsm'.out k hlt
      have hxF : ∀ y ∈ x :: F, w.heap.size ≤ y := by
        intro y hy
        rcases List.mem_cons.1 hy with h | h
        · omega
        · exact hF.out y h
      have hdo := Lib.hid (do_any (o k).kd d F x s (o k).n (o k).k g4 (o k).a (o k).m (o k).c wr (o k).b g7 g5 (by omega) ((g8.out (X := x :: F) hxF).mono hB.out.size) hP.out)
      have hxF' := Lib.hid hxF
      clear g4 g5 g6 g7 g8 hm3 hP hxF hF
      generalize (o k).kd = kd at *
      generalize (o k).n = n at *
      generalize (o k).k = kk at *
      generalize (o k).a = a at *
      generalize (o k).m = m at *
      generalize (o k).c = c at *
      go_wp2_with fail
      refine hdo.out.mono ?_
      rintro e w4 ⟨rfl, F', s', p, q, r⟩
      have b5 : Below w.heap.size w w4 := hB.out.trans ((q.mono hB.out.size).toBelow hxF'.out)
      have f5 : Hid (∀ y ∈ F', w.heap.size ≤ y) := Lib.hid fun y hy => (r y hy).elim (fun h => hxF'.out y (List.mem_cons_of_mem _ h)) (fun h => Nat.le_trans hB.out.size h)
      have hal := Lib.hid (alike_any d F' x s' w4 p)
      have p' := Lib.hid p
      have b5' := Lib.hid b5
      clear p q r b5 g0 g1 g2 g3 hdo
      go_wp2_with fail
      refine hal.out.mono ?_
      rintro e w5 ⟨rfl, h⟩
      have P6 := Lib.hid (p'.out.below h)
      have b6 := Lib.hid (b5'.out.trans (h.mono b5'.out.size))
      clear h hal p' b5'
      go_wp2
      go_roundw
      case rel => exact ⟨k + 1, F', s', by omega, by go_num, P6, f5, b6⟩
      case measure => simp [intOf]; omega
    · go_wp2
      go_ret
      exact ⟨rfl, hB.out⟩
end Go.Proofs.Ytjhakmpinloioaa
