/- ZoneBoxes: the walk of the statement's function. (Written by gen-zone-boxes.py.) -/
import Derived.Test.YtacbkddkjlnklaaZoneBoxRef
import Derived.Test.YtacbkddkjlnklaaStructs
namespace Go.Proofs.Ytacbkddkjlnklaa
open Go.RowKit
set_option linter.unusedVariables false
set_option linter.unusedSimpArgs false

theorem rself_any (n : Int) (a1 a2 : Option Addr) (l : List Int) (m1 m2 c1 c2 : Nat) (w : World) (h1 : SL w a1 m1 c1 l) (h2 : SL w a2 m2 c2 l) :
    Calls Try.prog 16 #[.agg #[.int .i64 n, .slice a1 m1 c1], .agg #[.int .i64 n, .slice a2 m2 c2]] w (Gives (.bool true) w) := by
  have := rsame_any n n a1 a2 l l m1 m2 c1 c2 w h1 h2
  simpa using this
theorem beq_cast (a b : Nat) : ((a : Int) == (b : Int)) = decide (a = b) := by rw [Bool.eq_iff_iff, beq_iff_eq, decide_eq_true_iff]; omega
theorem its_up {B B' : Nat} {w : World} {a : Option Addr} {xs : List (Int × Int)} (h : ItS B w a xs) (hb : B ≤ B') : ItS B' w a xs := by
  rcases h with h | ⟨b, off, e, hB, h⟩
  · exact .inl h
  · exact .inr ⟨b, off, e, by omega, h⟩
/-- Intervals that came in. -/
def ItvSl (w : World) (r : Option Addr) (len cap : Nat) : Prop := len ≤ cap ∧ cap ≤ maxLen ∧ ∃ xs : List (Int × Int), xs.length = len ∧ ItS w.heap.size w r xs
theorem itv_row {H : Type} {enc : TypeId × Value → H} {w : World} {fuel : Nat} {r : Option Addr} {len cap : Nat} {x : DataW H × List MemPlace}
    (h : DataW.trod enc Try.prog w 0 (fun _ => true) true fuel 47 [.slice r len cap] = some x) : ItvSl w r len cap := by
  obtain ⟨h1, h2, h3⟩ := struct_row Try.underlying47 Try.underlying38 (by kernel_rfl) (by kernel_rfl) (by decide) h
  refine ⟨h1, h2, ?_⟩
  rcases h3 with rfl | ⟨b, off, rfl, hlt, h3⟩
  · exact ⟨[], rfl, .inl rfl⟩
  · have key : ∀ i, ∃ p : Int × Int, i < len → w.cell? ⟨b, off + i * 2, none⟩ = some (.int .i64 p.1) ∧ w.cell? ⟨b, off + i * 2 + 1, none⟩ = some (.int .i64 p.2) := by
      intro i
      by_cases hi : i < len
      · obtain ⟨v0, y0, n0, c0, t0⟩ := h3 i hi 0 _ rfl
        obtain ⟨v1, y1, n1, c1, t1⟩ := h3 i hi 1 _ rfl
        obtain ⟨k0, e0, _, w0⟩ := DataW.trod_int Try.underlying3 t0
        obtain ⟨k1, e1, _, w1⟩ := DataW.trod_int Try.underlying3 t1
        simp at e0 e1
        subst e0 e1
        exact ⟨(k0, k1), fun _ => ⟨c0, c1⟩⟩
      · exact ⟨(0, 0), fun h => absurd h hi⟩
    refine ⟨(List.range len).map fun i => Classical.choose (key i), by simp, .inr ⟨b, off, rfl, hlt, fun i hi => ?_⟩⟩
    have hi' : i < len := by simpa using hi
    rw [show ((List.range len).map fun i => Classical.choose (key i)).getD i (0, 0) = Classical.choose (key i) by simp [List.getD, hi']]
    exact Classical.choose_spec (key i) hi'
set_option maxRecDepth 100000 in
set_option maxHeartbeats 8000000 in
theorem boxes_g1 (n mv : Nat) (a0 av : Option Addr) (c0 cv : Nat) (xs : List (Int × Int)) (v : List Int) (w : World) (hx : xs.length = n) (h0 : ItS w.heap.size w a0 xs) (hv : SL w av mv cv v) (g1 : 20 < n) : Calls Try.prog 5 #[.slice a0 n c0, .slice av mv cv] w (Gives (.bool true) w) := by
  have g1i : (20 : Int) < (n : Int) := by omega
  have q := Lib.hid (zlivesAt w w (Below.refl _ _))
  clear h0 hv hx
  go_enter Try.func5, Try.ntmps5
  go_wp2_with fail
  with_reducible refine q.out.mono ?_
  rintro e w9 ⟨rfl, b9, bw9⟩
  have bw := Lib.hid bw9
  clear b9 bw9 q
  go_wp2
  go_ret
  exact ⟨rfl, bw.out⟩
set_option maxRecDepth 100000 in
set_option maxHeartbeats 8000000 in
theorem boxes_g2 (n mv : Nat) (a0 av : Option Addr) (c0 cv : Nat) (xs : List (Int × Int)) (v : List Int) (w : World) (hx : xs.length = n) (h0 : ItS w.heap.size w a0 xs) (hv : SL w av mv cv v) (g1 : ¬ 20 < n) (g2 : 20 < mv) : Calls Try.prog 5 #[.slice a0 n c0, .slice av mv cv] w (Gives (.bool true) w) := by
  have g1i : ¬ (20 : Int) < (n : Int) := by omega
  have g2i : (20 : Int) < (mv : Int) := by omega
  have q := Lib.hid (zlivesAt w w (Below.refl _ _))
  clear h0 hv hx
  go_enter Try.func5, Try.ntmps5
  go_wp2_with fail
  with_reducible refine q.out.mono ?_
  rintro e w9 ⟨rfl, b9, bw9⟩
  have bw := Lib.hid bw9
  clear b9 bw9 q
  go_wp2
  go_ret
  exact ⟨rfl, bw.out⟩
set_option maxRecDepth 100000 in
set_option maxHeartbeats 8000000 in
theorem boxes_long (n mv : Nat) (a0 av : Option Addr) (c0 cv : Nat) (xs : List (Int × Int)) (v : List Int) (w : World) (hx : xs.length = n) (h0 : ItS w.heap.size w a0 xs) (hv : SL w av mv cv v) (g1 : ¬ 20 < n) (g2 : ¬ 20 < mv) (g3 : 8 < n) : Calls Try.prog 5 #[.slice a0 n c0, .slice av mv cv] w (Gives (.bool true) w) := by
  have g1i : ¬ (20 : Int) < (n : Int) := by omega
  have g2i : ¬ (20 : Int) < (mv : Int) := by omega
  have g3i : (8 : Int) < (n : Int) := by omega
  have QX := Lib.hid (fun W => zbox_long a0 n c0 g3 (by omega) W)
  have BL := Lib.hid (Below.refl w.heap.size w)
  clear h0 hv hx
  go_enter Try.func5, Try.ntmps5
  have q := Lib.hid (QX.out w)
  go_wp2_with fail
  with_reducible refine q.out.mono ?_
  rintro e v1 ⟨aB, dB, rfl, sB, bB⟩
  clear q
  have B0 := box_below v1 #[.int .i64 0, .slice aB 0 dB] 24
  have B := bB.trans (B0.mono bB.size)
  replace BL := Lib.hid (BL.out.trans (B.mono BL.out.size))
  have ZB := Lib.hid (Holds.new v1 24 #[.int .i64 0, .slice aB 0 dB])
  have TB := Lib.hid (sB.below B0)
  clear bB B B0 sB
  have q := Lib.hid (zlivesAt w _ BL.out)
  go_wp2_with fail
  with_reducible refine q.out.mono ?_
  rintro e v2 ⟨rfl, b2, -⟩
  clear q
  have k1 : v2.cell? ⟨v1.heap.size, 0, none⟩ = some (.int .i64 0) := (ZB.out.below b2 ZB.out.lt).cell 0
  have k2 : v2.cell? ⟨v1.heap.size, 1, none⟩ = some (.slice aB 0 dB) := (ZB.out.below b2 ZB.out.lt).cell 1
  replace ZB := Lib.hid (ZB.out.below b2 ZB.out.lt)
  replace BL := Lib.hid (BL.out.trans (b2.mono BL.out.size))
  replace TB := Lib.hid (TB.out.below b2)
  clear b2
  have q := Lib.hid (rself_any 0 aB none [] 0 0 dB 0 v2 TB.out (SL.nil v2))
  go_wp2_with fail
  with_reducible refine q.out.mono ?_
  rintro e v3 ⟨rfl, b3⟩
  clear k1 k2
  clear q
  replace ZB := Lib.hid (ZB.out.below b3 ZB.out.lt)
  replace BL := Lib.hid (BL.out.trans (b3.mono BL.out.size))
  replace TB := Lib.hid (TB.out.below b3)
  clear b3
  go_wp2
  go_ret
  exact ⟨rfl, BL.out⟩
set_option maxRecDepth 100000 in
set_option maxHeartbeats 8000000 in
theorem boxes_es (n mv : Nat) (a0 av : Option Addr) (c0 cv : Nat) (xs : List (Int × Int)) (v : List Int) (w : World) (hx : xs.length = n) (h0 : ItS w.heap.size w a0 xs) (hv : SL w av mv cv v) (g1 : ¬ 20 < n) (g2 : ¬ 20 < mv) (g3 : ¬ 8 < n) (hR : boxL n xs = []) (hm : mv < n) : Calls Try.prog 5 #[.slice a0 n c0, .slice av mv cv] w (Gives (.bool true) w) := by
  have g1i : ¬ (20 : Int) < (n : Int) := by omega
  have g2i : ¬ (20 : Int) < (mv : Int) := by omega
  have g3i : ¬ (8 : Int) < (n : Int) := by omega
  have hn : n ≤ 8 := by omega
  have hvl := hv.len
  obtain ⟨mB, hmB⟩ : ∃ x, x = (boxL n xs).length := ⟨_, rfl⟩
  have rB : mB ≤ 81 := by rw [hmB]; exact (boxL_isz hn xs).small
  have QX := Lib.hid ((zbox_any n hn xs hx a0 c0 w h0).mono (fun e w' h => ends_of (m := mB) hmB.symm (by omega) h))
  have QR := Lib.hid (fun W (hI : ItS W.heap.size W a0 xs) => rbox_any n hn xs hx a0 c0 W hI)
  obtain ⟨P, hP⟩ : ∃ P : Nat → Bool, P = inK n xs v := ⟨_, rfl⟩
  have hP0 : Hid (P 0 = decide (mv = n)) := Lib.hid (by rw [hP, hvl]; simp [inK])
  have hPn : Hid (∀ k, P (k + 1) = (P k && itvB (xs.getD k (0, 0)) (v.getD k 0))) := Lib.hid (fun k => by rw [hP]; exact inK_next n xs v k)
  have hbh : hasB n (boxL n xs) v = P mv := by rw [hP, box_has hn, ← hvl, show min n mv = mv by omega]
  have QH := Lib.hid (fun W a c (hS : SL W a mB c (boxL n xs)) (hV : SL W av mv cv v) => has_any n a mB c _ av mv cv v W hS hV)
  rw [hbh] at QH
  have QI := Lib.hid (fun k (hk : k < n) W a c (hS : SL W a mB c (boxL n xs)) => zitvL_any n (k + 1) (by omega) _ (boxL_isz hn xs) a mB c W hS)
  have QE := Lib.hid (fun W a c (hS : SL W a mB c (boxL n xs)) => empty_any n a mB c _ W hS)
  have he : emptyB n (boxL n xs) = true := by unfold emptyB; rw [(boxL_isz hn xs).check]; simp [hR]
  rw [he] at QE
  have QN := Lib.hid (fun W => rnone_any W)
  have QP := Lib.hid (fun k W => rplainZ_any (xs.getD k (0, 0)).1 (xs.getD k (0, 0)).2 W)
  have hit : Hid (∀ k, k < n → itvL n (boxL n xs) (k + 1) = (1, 0)) := Lib.hid (fun k hk => by unfold itvL; rw [if_pos hR])
  have hI0 := Lib.hid h0
  have hx' := Lib.hid hx
  have hvl' := Lib.hid hvl
  have BL := Lib.hid (Below.refl w.heap.size w)
  have SV := Lib.hid hv
  clear h0 hv hx hvl hP hbh he hR hmB
  skip
  generalize boxL n xs = R at *
  go_enter Try.func5, Try.ntmps5
  have q := Lib.hid (QX.out)
  go_wp2_with fail
  with_reducible refine q.out.mono ?_
  rintro e v1 ⟨aB, dB, rfl, sB, bB⟩
  clear q QX
  have B0 := box_below v1 #[.int .i64 n, .slice aB mB dB] 24
  have B := bB.trans (B0.mono bB.size)
  replace BL := Lib.hid (BL.out.trans (B.mono BL.out.size))
  replace SV := Lib.hid (SV.out.below B)
  have ZB := Lib.hid (Holds.new v1 24 #[.int .i64 n, .slice aB mB dB])
  have TB := Lib.hid (sB.below B0)
  clear bB B B0 sB
  have q := Lib.hid (zlivesAt w _ BL.out)
  go_wp2_with fail
  with_reducible refine q.out.mono ?_
  rintro e v2 ⟨rfl, b2, -⟩
  clear q
  replace ZB := Lib.hid (ZB.out.below b2 ZB.out.lt)
  replace BL := Lib.hid (BL.out.trans (b2.mono BL.out.size))
  replace SV := Lib.hid (SV.out.below b2)
  replace TB := Lib.hid (TB.out.below b2)
  clear b2
  go_wp2
  go_loopw [7, 8] (fun y x wr => ∃ k : Nat, k ≤ mv ∧ x = .int .i64 k ∧ y = .bool (P k) ∧ Hid (Below w.heap.size w wr) ∧ Hid (Holds wr v1.heap.size 24 #[.int .i64 n, .slice aB mB dB]) ∧ Hid (SL wr aB mB dB R) ∧ Hid (SL wr av mv cv v)) (fun _ x _ => mv - (intOf x).toNat)
  case atStart => exact ⟨0, by omega, rfl, by rw [hP0.out]; congr 1; exact beq_cast _ _, BL, ZB, TB, SV⟩
  case round =>
    clear BL ZB TB SV
    obtain ⟨k, hk, rfl, rfl, BL, ZB, TB, SV⟩ := hrel
    by_cases hlt : k < mv
    · have k1 : (k : Int) < (n : Int) := by omega
      have k2 : (k : Int) < (mv : Int) := by omega
      obtain ⟨b, off, ea, hb, i0, i1⟩ := (hI0.out.below BL.out).at_ (k := k) (by have := hx'.out; omega)
      obtain ⟨b2, off2, ev, hb2, i2⟩ := sees_at' SV.out.sees (i := k) (by have := hvl'.out; omega)
      subst ea ev
      have hwb := BL.out.size
      have c0 : ∀ W, Below wr.heap.size wr W → W.cell? ⟨b, off + k * 2, none⟩ = some (.int .i64 (xs.getD k (0, 0)).1) := fun W hW => (hW.cell (p := ⟨b, off + k * 2, none⟩) (by show b < _; omega)).trans i0
      have c1 : ∀ W, Below wr.heap.size wr W → W.cell? ⟨b, off + k * 2 + 1, none⟩ = some (.int .i64 (xs.getD k (0, 0)).2) := fun W hW => (hW.cell (p := ⟨b, off + k * 2 + 1, none⟩) (by show b < _; omega)).trans i1
      have c2 : ∀ W, Below wr.heap.size wr W → W.cell? ⟨b2, off2 + k, none⟩ = some (.int .i64 (v.getD k 0)) := fun W hW => (hW.cell (p := ⟨b2, off2 + k, none⟩) (by show b2 < _; omega)).trans i2
      have qh := Lib.hid (fun W => ihas_any (xs.getD k (0, 0)) (v.getD k 0) W)
      have hn1 := Lib.hid (hPn.out k)
      clear i0 i1 i2
      generalize itvB (xs.getD k (0, 0)) (v.getD k 0) = u at *
      generalize (xs.getD k (0, 0)).1 = x at *
      generalize (xs.getD k (0, 0)).2 = y at *
      generalize v.getD k 0 = z at *
      obtain ⟨p1, hp1'⟩ : ∃ p, p = P (k + 1) := ⟨_, rfl⟩
      rw [← hp1'] at hn1
      have hp1 := Lib.hid hp1'
      clear hp1'
      cases hpk : P k
      · have hn2 : Hid (p1 = false) := Lib.hid (by rw [hn1.out, hpk]; rfl)
        clear hn1 hpk
        go_wp2
        refine wp_drawn_on (fun W => Below wr.heap.size wr W) (by kernel_rfl) (below_drew (Below.refl _ _)) (fun hHeld => ?_)
        refine wpAnyH_take (i := 0) (oi := { dst := some 55, op := Go.Op.move (Go.Operand.tmp 7), type := 4, pos := "law.go:91", after := #[], guard := none }) (v := ?v1) rfl (by kernel_rfl) (by kernel_rfl) (by kernel_rfl) (fun _ _ _ h => h) (Or.inl ⟨by kernel_rfl, ?h1⟩) (by assumption) ?r1
        case h1 => (intro w hSw; (try dsimp only at hSw); go_simp; try with_reducible rfl)
        try simp only [Act.put, List.setIfInBounds_toArray, List.set_cons_zero, List.set_cons_succ]
        refine wpAnyH_take (i := 1) (oi := { dst := some 56, op := Go.Op.move (Go.Operand.tmp 55), type := 4, pos := "law.go:91", after := #[{ on := 0, ground := Go.Ground.data }], guard := none }) (v := ?v2) rfl (by kernel_rfl) (by kernel_rfl) (by kernel_rfl) (fun _ _ _ h => h) (Or.inl ⟨by kernel_rfl, ?h2⟩) (by assumption) ?r2
        case h2 => (intro w hSw; (try dsimp only at hSw); go_simp; try with_reducible rfl)
        try simp only [Act.put, List.setIfInBounds_toArray, List.set_cons_zero, List.set_cons_succ]
        refine wpAnyH_take (i := 2) (oi := { dst := some 57, op := Go.Op.move (Go.Operand.tmp 0), type := 47, pos := "law.go:91", after := #[{ on := 1, ground := Go.Ground.guard }], guard := some (1, true) }) (v := undef) rfl (by kernel_rfl) (by kernel_rfl) (by kernel_rfl) (fun _ _ _ h => h) (Or.inr ⟨by kernel_rfl, rfl⟩) (by assumption) ?_
        try simp only [Act.put, List.setIfInBounds_toArray, List.set_cons_zero, List.set_cons_succ]
        refine wpAnyH_take (i := 3) (oi := { dst := some 58, op := Go.Op.move (Go.Operand.tmp 8), type := 3, pos := "law.go:91", after := #[{ on := 1, ground := Go.Ground.guard }], guard := some (1, true) }) (v := undef) rfl (by kernel_rfl) (by kernel_rfl) (by kernel_rfl) (fun _ _ _ h => h) (Or.inr ⟨by kernel_rfl, rfl⟩) (by assumption) ?_
        try simp only [Act.put, List.setIfInBounds_toArray, List.set_cons_zero, List.set_cons_succ]
        refine wpAnyH_take (i := 4) (oi := { dst := some 59, op := Go.Op.indexAddr 47 (Go.Operand.tmp 57) (Go.Operand.tmp 58), type := 0, pos := "law.go:91", after := #[{ on := 2, ground := Go.Ground.data }, { on := 3, ground := Go.Ground.data }, { on := 1, ground := Go.Ground.guard }], guard := some (1, true) }) (v := undef) rfl (by kernel_rfl) (by kernel_rfl) (by kernel_rfl) (fun _ _ _ h => h) (Or.inr ⟨by kernel_rfl, rfl⟩) (by assumption) ?_
        try simp only [Act.put, List.setIfInBounds_toArray, List.set_cons_zero, List.set_cons_succ]
        refine wpAnyH_take (i := 5) (oi := { dst := some 60, op := Go.Op.load 38 (Go.Operand.tmp 59), type := 38, pos := "law.go:91", after := #[{ on := 4, ground := Go.Ground.data }, { on := 1, ground := Go.Ground.guard }], guard := some (1, true) }) (v := undef) rfl (by kernel_rfl) (by kernel_rfl) (by kernel_rfl) (fun _ _ _ h => h) (Or.inr ⟨by kernel_rfl, rfl⟩) (by assumption) ?_
        try simp only [Act.put, List.setIfInBounds_toArray, List.set_cons_zero, List.set_cons_succ]
        refine wpAnyH_take (i := 6) (oi := { dst := some 61, op := Go.Op.move (Go.Operand.tmp 1), type := 22, pos := "law.go:91", after := #[{ on := 1, ground := Go.Ground.guard }], guard := some (1, true) }) (v := undef) rfl (by kernel_rfl) (by kernel_rfl) (by kernel_rfl) (fun _ _ _ h => h) (Or.inr ⟨by kernel_rfl, rfl⟩) (by assumption) ?_
        try simp only [Act.put, List.setIfInBounds_toArray, List.set_cons_zero, List.set_cons_succ]
        refine wpAnyH_take (i := 7) (oi := { dst := some 62, op := Go.Op.move (Go.Operand.tmp 8), type := 3, pos := "law.go:91", after := #[{ on := 1, ground := Go.Ground.guard }], guard := some (1, true) }) (v := undef) rfl (by kernel_rfl) (by kernel_rfl) (by kernel_rfl) (fun _ _ _ h => h) (Or.inr ⟨by kernel_rfl, rfl⟩) (by assumption) ?_
        try simp only [Act.put, List.setIfInBounds_toArray, List.set_cons_zero, List.set_cons_succ]
        refine wpAnyH_take (i := 8) (oi := { dst := some 63, op := Go.Op.indexAddr 22 (Go.Operand.tmp 61) (Go.Operand.tmp 62), type := 0, pos := "law.go:91", after := #[{ on := 6, ground := Go.Ground.data }, { on := 7, ground := Go.Ground.data }, { on := 1, ground := Go.Ground.guard }], guard := some (1, true) }) (v := undef) rfl (by kernel_rfl) (by kernel_rfl) (by kernel_rfl) (fun _ _ _ h => h) (Or.inr ⟨by kernel_rfl, rfl⟩) (by assumption) ?_
        try simp only [Act.put, List.setIfInBounds_toArray, List.set_cons_zero, List.set_cons_succ]
        refine wpAnyH_take (i := 9) (oi := { dst := some 64, op := Go.Op.load 3 (Go.Operand.tmp 63), type := 3, pos := "law.go:91", after := #[{ on := 8, ground := Go.Ground.data }, { on := 1, ground := Go.Ground.guard }], guard := some (1, true) }) (v := undef) rfl (by kernel_rfl) (by kernel_rfl) (by kernel_rfl) (fun _ _ _ h => h) (Or.inr ⟨by kernel_rfl, rfl⟩) (by assumption) ?_
        try simp only [Act.put, List.setIfInBounds_toArray, List.set_cons_zero, List.set_cons_succ]
        refine wpAnyH_take (i := 10) (oi := { dst := some 65, op := Go.Op.call { callee := Go.Callee.value (Go.Operand.func 33), args := #[Go.Operand.tmp 60, Go.Operand.tmp 64], argTypes := #[38, 3] }, type := 4, pos := "law.go:91", after := #[{ on := 5, ground := Go.Ground.data }, { on := 9, ground := Go.Ground.data }, { on := 1, ground := Go.Ground.chain }, { on := 1, ground := Go.Ground.guard }], guard := some (1, true) }) (v := undef) rfl (by kernel_rfl) (by kernel_rfl) (by kernel_rfl) (fun _ _ _ h => h) (Or.inr ⟨by kernel_rfl, rfl⟩) (by assumption) ?_
        try simp only [Act.put, List.setIfInBounds_toArray, List.set_cons_zero, List.set_cons_succ]
        refine wpAnyH_take (i := 11) (oi := { dst := some 66, op := Go.Op.pick (Go.Operand.tmp 56) (Go.Operand.tmp 65) (Go.Operand.const (Go.Value.bool false)), type := 4, pos := "law.go:91", after := #[{ on := 1, ground := Go.Ground.data }, { on := 10, ground := Go.Ground.data }], guard := none }) (v := ?v12) rfl (by kernel_rfl) (by kernel_rfl) (by kernel_rfl) (fun _ _ _ h => h) (Or.inl ⟨by kernel_rfl, ?h12⟩) (by assumption) ?r12
        case h12 => (intro w hSw; (try dsimp only at hSw); go_simp; try with_reducible rfl)
        try simp only [Act.put, List.setIfInBounds_toArray, List.set_cons_zero, List.set_cons_succ]
        refine wpAnyH_take (i := 12) (oi := { dst := some 7, op := Go.Op.assign (Go.Operand.tmp 66), type := 4, pos := "law.go:91", after := #[{ on := 11, ground := Go.Ground.data }, { on := 10, ground := Go.Ground.chain }, { on := 0, ground := Go.Ground.phase }, { on := 1, ground := Go.Ground.phase }, { on := 2, ground := Go.Ground.phase }, { on := 3, ground := Go.Ground.phase }, { on := 4, ground := Go.Ground.phase }, { on := 5, ground := Go.Ground.phase }, { on := 6, ground := Go.Ground.phase }, { on := 7, ground := Go.Ground.phase }, { on := 8, ground := Go.Ground.phase }, { on := 9, ground := Go.Ground.phase }, { on := 10, ground := Go.Ground.phase }, { on := 11, ground := Go.Ground.phase }], guard := none }) (v := ?v13) rfl (by kernel_rfl) (by kernel_rfl) (by kernel_rfl) (fun _ _ _ h => h) (Or.inl ⟨by kernel_rfl, ?h13⟩) (by assumption) ?r13
        case h13 => (intro w hSw; (try dsimp only at hSw); go_simp; try with_reducible rfl)
        try simp only [Act.put, List.setIfInBounds_toArray, List.set_cons_zero, List.set_cons_succ]
        refine wpAnyH_done (by kernel_rfl) ?_ _
        replace ZB := Lib.hid (ZB.out.below hHeld ZB.out.lt)
        replace BL := Lib.hid (BL.out.trans (hHeld.mono BL.out.size))
        replace TB := Lib.hid (TB.out.below hHeld)
        replace SV := Lib.hid (SV.out.below hHeld)
        clear hHeld c0 c1 c2
        go_wp2
        go_roundw
        case rel => exact ⟨k + 1, by omega, by go_num, by rw [← hp1.out, hn2.out], BL, ZB, TB, SV⟩
        case measure => simp [intOf]; omega
      · have hn2 : Hid (p1 = u) := Lib.hid (by rw [hn1.out, hpk]; rfl)
        clear hn1 hpk
        go_wp2
        refine wp_drawn_on (fun W => Below wr.heap.size wr W) (by kernel_rfl) (below_drew (Below.refl _ _)) (fun hHeld => ?_)
        refine wpAnyH_take (i := 0) (oi := { dst := some 55, op := Go.Op.move (Go.Operand.tmp 7), type := 4, pos := "law.go:91", after := #[], guard := none }) (v := ?v14) rfl (by kernel_rfl) (by kernel_rfl) (by kernel_rfl) (fun _ _ _ h => h) (Or.inl ⟨by kernel_rfl, ?h14⟩) (by assumption) ?r14
        case h14 => (intro w hSw; (try dsimp only at hSw); go_simp; try with_reducible rfl)
        try simp only [Act.put, List.setIfInBounds_toArray, List.set_cons_zero, List.set_cons_succ]
        refine wpAnyH_take (i := 1) (oi := { dst := some 56, op := Go.Op.move (Go.Operand.tmp 55), type := 4, pos := "law.go:91", after := #[{ on := 0, ground := Go.Ground.data }], guard := none }) (v := ?v15) rfl (by kernel_rfl) (by kernel_rfl) (by kernel_rfl) (fun _ _ _ h => h) (Or.inl ⟨by kernel_rfl, ?h15⟩) (by assumption) ?r15
        case h15 => (intro w hSw; (try dsimp only at hSw); go_simp; try with_reducible rfl)
        try simp only [Act.put, List.setIfInBounds_toArray, List.set_cons_zero, List.set_cons_succ]
        refine wpAnyH_take (i := 2) (oi := { dst := some 57, op := Go.Op.move (Go.Operand.tmp 0), type := 47, pos := "law.go:91", after := #[{ on := 1, ground := Go.Ground.guard }], guard := some (1, true) }) (v := ?v16) rfl (by kernel_rfl) (by kernel_rfl) (by kernel_rfl) (fun _ _ _ h => h) (Or.inl ⟨by kernel_rfl, ?h16⟩) (by assumption) ?r16
        case h16 => (intro w hSw; (try dsimp only at hSw); go_simp; try with_reducible rfl)
        try simp only [Act.put, List.setIfInBounds_toArray, List.set_cons_zero, List.set_cons_succ]
        refine wpAnyH_take (i := 3) (oi := { dst := some 58, op := Go.Op.move (Go.Operand.tmp 8), type := 3, pos := "law.go:91", after := #[{ on := 1, ground := Go.Ground.guard }], guard := some (1, true) }) (v := ?v17) rfl (by kernel_rfl) (by kernel_rfl) (by kernel_rfl) (fun _ _ _ h => h) (Or.inl ⟨by kernel_rfl, ?h17⟩) (by assumption) ?r17
        case h17 => (intro w hSw; (try dsimp only at hSw); go_simp; try with_reducible rfl)
        try simp only [Act.put, List.setIfInBounds_toArray, List.set_cons_zero, List.set_cons_succ]
        refine wpAnyH_take (i := 4) (oi := { dst := some 59, op := Go.Op.indexAddr 47 (Go.Operand.tmp 57) (Go.Operand.tmp 58), type := 0, pos := "law.go:91", after := #[{ on := 2, ground := Go.Ground.data }, { on := 3, ground := Go.Ground.data }, { on := 1, ground := Go.Ground.guard }], guard := some (1, true) }) (v := ?v18) rfl (by kernel_rfl) (by kernel_rfl) (by kernel_rfl) (fun _ _ _ h => h) (Or.inl ⟨by kernel_rfl, ?h18⟩) (by assumption) ?r18
        case h18 => (intro w hSw; (try dsimp only at hSw); go_simp; try with_reducible rfl)
        try simp only [Act.put, List.setIfInBounds_toArray, List.set_cons_zero, List.set_cons_succ]
        refine wpAnyH_take (i := 5) (oi := { dst := some 60, op := Go.Op.load 38 (Go.Operand.tmp 59), type := 38, pos := "law.go:91", after := #[{ on := 4, ground := Go.Ground.data }, { on := 1, ground := Go.Ground.guard }], guard := some (1, true) }) (v := ?v19) rfl (by kernel_rfl) (by kernel_rfl) (by kernel_rfl) (fun _ _ _ h => h) (Or.inl ⟨by kernel_rfl, ?h19⟩) (by assumption) ?r19
        case h19 => (intro w hSw; (try dsimp only at hSw); go_simp; try with_reducible rfl)
        try simp only [Act.put, List.setIfInBounds_toArray, List.set_cons_zero, List.set_cons_succ]
        refine wpAnyH_take (i := 6) (oi := { dst := some 61, op := Go.Op.move (Go.Operand.tmp 1), type := 22, pos := "law.go:91", after := #[{ on := 1, ground := Go.Ground.guard }], guard := some (1, true) }) (v := ?v20) rfl (by kernel_rfl) (by kernel_rfl) (by kernel_rfl) (fun _ _ _ h => h) (Or.inl ⟨by kernel_rfl, ?h20⟩) (by assumption) ?r20
        case h20 => (intro w hSw; (try dsimp only at hSw); go_simp; try with_reducible rfl)
        try simp only [Act.put, List.setIfInBounds_toArray, List.set_cons_zero, List.set_cons_succ]
        refine wpAnyH_take (i := 7) (oi := { dst := some 62, op := Go.Op.move (Go.Operand.tmp 8), type := 3, pos := "law.go:91", after := #[{ on := 1, ground := Go.Ground.guard }], guard := some (1, true) }) (v := ?v21) rfl (by kernel_rfl) (by kernel_rfl) (by kernel_rfl) (fun _ _ _ h => h) (Or.inl ⟨by kernel_rfl, ?h21⟩) (by assumption) ?r21
        case h21 => (intro w hSw; (try dsimp only at hSw); go_simp; try with_reducible rfl)
        try simp only [Act.put, List.setIfInBounds_toArray, List.set_cons_zero, List.set_cons_succ]
        refine wpAnyH_take (i := 8) (oi := { dst := some 63, op := Go.Op.indexAddr 22 (Go.Operand.tmp 61) (Go.Operand.tmp 62), type := 0, pos := "law.go:91", after := #[{ on := 6, ground := Go.Ground.data }, { on := 7, ground := Go.Ground.data }, { on := 1, ground := Go.Ground.guard }], guard := some (1, true) }) (v := ?v22) rfl (by kernel_rfl) (by kernel_rfl) (by kernel_rfl) (fun _ _ _ h => h) (Or.inl ⟨by kernel_rfl, ?h22⟩) (by assumption) ?r22
        case h22 => (intro w hSw; (try dsimp only at hSw); go_simp; try with_reducible rfl)
        try simp only [Act.put, List.setIfInBounds_toArray, List.set_cons_zero, List.set_cons_succ]
        refine wpAnyH_take (i := 9) (oi := { dst := some 64, op := Go.Op.load 3 (Go.Operand.tmp 63), type := 3, pos := "law.go:91", after := #[{ on := 8, ground := Go.Ground.data }, { on := 1, ground := Go.Ground.guard }], guard := some (1, true) }) (v := ?v23) rfl (by kernel_rfl) (by kernel_rfl) (by kernel_rfl) (fun _ _ _ h => h) (Or.inl ⟨by kernel_rfl, ?h23⟩) (by assumption) ?r23
        case h23 => (intro w hSw; (try dsimp only at hSw); go_simp; try with_reducible rfl)
        try simp only [Act.put, List.setIfInBounds_toArray, List.set_cons_zero, List.set_cons_succ]
        refine wpAnyH_ready (rs := [10]) (by kernel_rfl) (by simp) ?_
        refine AllReadyH.cons (o := { dst := some 65, op := Go.Op.call { callee := Go.Callee.value (Go.Operand.func 33), args := #[Go.Operand.tmp 60, Go.Operand.tmp 64], argTypes := #[38, 3] }, type := 4, pos := "law.go:91", after := #[{ on := 5, ground := Go.Ground.data }, { on := 9, ground := Go.Ground.data }, { on := 1, ground := Go.Ground.chain }, { on := 1, ground := Go.Ground.guard }], guard := some (1, true) }) rfl (fun K hK => ?_) AllReadyH.nil
        go_simp
        with_reducible refine (qh.out _).mono ?_
        rintro e t10 ⟨rfl, b10⟩
        go_simp
        refine hK.out _ _ (hHeld.trans (b10.mono hHeld.size)) (fun hHeld => ?_)
        clear hK K
        try simp only [Act.put, List.setIfInBounds_toArray, List.set_cons_zero, List.set_cons_succ]
        refine wpAnyH_take (i := 11) (oi := { dst := some 66, op := Go.Op.pick (Go.Operand.tmp 56) (Go.Operand.tmp 65) (Go.Operand.const (Go.Value.bool false)), type := 4, pos := "law.go:91", after := #[{ on := 1, ground := Go.Ground.data }, { on := 10, ground := Go.Ground.data }], guard := none }) (v := ?v24) rfl (by kernel_rfl) (by kernel_rfl) (by kernel_rfl) (fun _ _ _ h => h) (Or.inl ⟨by kernel_rfl, ?h24⟩) (by assumption) ?r24
        case h24 => (intro w hSw; (try dsimp only at hSw); go_simp; try with_reducible rfl)
        try simp only [Act.put, List.setIfInBounds_toArray, List.set_cons_zero, List.set_cons_succ]
        refine wpAnyH_take (i := 12) (oi := { dst := some 7, op := Go.Op.assign (Go.Operand.tmp 66), type := 4, pos := "law.go:91", after := #[{ on := 11, ground := Go.Ground.data }, { on := 10, ground := Go.Ground.chain }, { on := 0, ground := Go.Ground.phase }, { on := 1, ground := Go.Ground.phase }, { on := 2, ground := Go.Ground.phase }, { on := 3, ground := Go.Ground.phase }, { on := 4, ground := Go.Ground.phase }, { on := 5, ground := Go.Ground.phase }, { on := 6, ground := Go.Ground.phase }, { on := 7, ground := Go.Ground.phase }, { on := 8, ground := Go.Ground.phase }, { on := 9, ground := Go.Ground.phase }, { on := 10, ground := Go.Ground.phase }, { on := 11, ground := Go.Ground.phase }], guard := none }) (v := ?v25) rfl (by kernel_rfl) (by kernel_rfl) (by kernel_rfl) (fun _ _ _ h => h) (Or.inl ⟨by kernel_rfl, ?h25⟩) (by assumption) ?r25
        case h25 => (intro w hSw; (try dsimp only at hSw); go_simp; try with_reducible rfl)
        try simp only [Act.put, List.setIfInBounds_toArray, List.set_cons_zero, List.set_cons_succ]
        refine wpAnyH_done (by kernel_rfl) ?_ _
        replace ZB := Lib.hid (ZB.out.below hHeld ZB.out.lt)
        replace BL := Lib.hid (BL.out.trans (hHeld.mono BL.out.size))
        replace TB := Lib.hid (TB.out.below hHeld)
        replace SV := Lib.hid (SV.out.below hHeld)
        clear hHeld c0 c1 c2
        go_wp2
        go_roundw
        case rel => exact ⟨k + 1, by omega, by go_num, by rw [← hp1.out, hn2.out], BL, ZB, TB, SV⟩
        case measure => simp [intOf]; omega
    · have hke : k = mv := by omega
      subst hke
      generalize P k = p1 at *
      have hkn : ((k : Int) < (n : Int)) := by omega
      go_wp2
      have k201 : ∀ W, Below wr.heap.size wr W → W.cell? ⟨v1.heap.size, 0, none⟩ = some (.int .i64 n) := fun W hW => (ZB.out.below hW ZB.out.lt).cell 0
      have k202 : ∀ W, Below wr.heap.size wr W → W.cell? ⟨v1.heap.size, 1, none⟩ = some (.slice aB mB dB) := fun W hW => (ZB.out.below hW ZB.out.lt).cell 1
      have qv := Lib.hid (fun W (hW : Below wr.heap.size wr W) => SV.out.below hW)
      have qb := Lib.hid (fun W (hW : Below wr.heap.size wr W) => TB.out.below hW)
      have qi := Lib.hid (fun W (hW : Below wr.heap.size wr W) => its_up (hI0.out.below (BL.out.trans (hW.mono BL.out.size))) (Nat.le_trans BL.out.size hW.size))
      refine wp_drawn_on (fun W => Below wr.heap.size wr W) (by kernel_rfl) (below_drew (Below.refl _ _)) (fun hHeld => ?_)
      refine wpAnyH_take (i := 0) (oi := { dst := some 67, op := Go.Op.move (Go.Operand.tmp 6), type := 27, pos := "law.go:93", after := #[], guard := none }) (v := ?v26) rfl (by kernel_rfl) (by kernel_rfl) (by kernel_rfl) (fun _ _ _ h => h) (Or.inl ⟨by kernel_rfl, ?h26⟩) (by assumption) ?r26
      case h26 => (intro w hSw; (try dsimp only at hSw); go_simp; try with_reducible rfl)
      try simp only [Act.put, List.setIfInBounds_toArray, List.set_cons_zero, List.set_cons_succ]
      refine wpAnyH_take (i := 1) (oi := { dst := some 68, op := Go.Op.binOp Go.BinOp.neq 27 (Go.Operand.tmp 67) (Go.Operand.const (Go.Value.int Go.IntKind.i64 0)) 27, type := 4, pos := "law.go:93", after := #[{ on := 0, ground := Go.Ground.data }], guard := none }) (v := ?v27) rfl (by kernel_rfl) (by kernel_rfl) (by kernel_rfl) (fun _ _ _ h => h) (Or.inl ⟨by kernel_rfl, ?h27⟩) (by assumption) ?r27
      case h27 => (intro w hSw; (try dsimp only at hSw); go_simp; try with_reducible rfl)
      try simp only [Act.put, List.setIfInBounds_toArray, List.set_cons_zero, List.set_cons_succ]
      refine wpAnyH_take (i := 2) (oi := { dst := some 69, op := Go.Op.move (Go.Operand.tmp 68), type := 4, pos := "law.go:93", after := #[{ on := 1, ground := Go.Ground.data }], guard := none }) (v := ?v28) rfl (by kernel_rfl) (by kernel_rfl) (by kernel_rfl) (fun _ _ _ h => h) (Or.inl ⟨by kernel_rfl, ?h28⟩) (by assumption) ?r28
      case h28 => (intro w hSw; (try dsimp only at hSw); go_simp; try with_reducible rfl)
      try simp only [Act.put, List.setIfInBounds_toArray, List.set_cons_zero, List.set_cons_succ]
      refine wpAnyH_take (i := 3) (oi := { dst := some 70, op := Go.Op.load 24 (Go.Operand.tmp 5), type := 24, pos := "law.go:93", after := #[{ on := 2, ground := Go.Ground.guard }], guard := some (2, false) }) (v := ?v29) rfl (by kernel_rfl) (by kernel_rfl) (by kernel_rfl) (fun _ _ _ h => h) (Or.inl ⟨by kernel_rfl, ?h29⟩) (by assumption) ?r29
      case h29 => (intro w hSw; (try dsimp only at hSw); go_simp; try with_reducible rfl)
      try simp only [Act.put, List.setIfInBounds_toArray, List.set_cons_zero, List.set_cons_succ]
      refine wpAnyH_take (i := 4) (oi := { dst := some 71, op := Go.Op.move (Go.Operand.tmp 0), type := 47, pos := "law.go:93", after := #[{ on := 2, ground := Go.Ground.guard }], guard := some (2, false) }) (v := ?v30) rfl (by kernel_rfl) (by kernel_rfl) (by kernel_rfl) (fun _ _ _ h => h) (Or.inl ⟨by kernel_rfl, ?h30⟩) (by assumption) ?r30
      case h30 => (intro w hSw; (try dsimp only at hSw); go_simp; try with_reducible rfl)
      try simp only [Act.put, List.setIfInBounds_toArray, List.set_cons_zero, List.set_cons_succ]
      refine wpAnyH_ready (rs := [5]) (by kernel_rfl) (by simp) ?_
      refine AllReadyH.cons (o := { dst := some 72, op := Go.Op.call { callee := Go.Callee.value (Go.Operand.func 34), args := #[Go.Operand.tmp 71], argTypes := #[47] }, type := 24, pos := "law.go:93", after := #[{ on := 4, ground := Go.Ground.data }, { on := 2, ground := Go.Ground.chain }, { on := 2, ground := Go.Ground.guard }], guard := some (2, false) }) rfl (fun K hK => ?_) AllReadyH.nil
      go_simp
      with_reducible refine (QR.out _ (qi.out _ hHeld)).mono ?_
      rintro e t5 ⟨aR, mR, dR, rfl, sR, b5⟩
      have hs := Lib.hid (rself_any n aB aR R mB mR dB dR t5 (qb.out _ (hHeld.trans (b5.mono hHeld.size))) sR)
      go_simp
      refine hK.out _ _ (hHeld.trans (b5.mono hHeld.size)) (fun hHeld => ?_)
      clear hK K
      try simp only [Act.put, List.setIfInBounds_toArray, List.set_cons_zero, List.set_cons_succ]
      refine wpAnyH_ready (rs := [6]) (by kernel_rfl) (by simp) ?_
      refine AllReadyH.cons (o := { dst := some 73, op := Go.Op.call { callee := Go.Callee.value (Go.Operand.func 16), args := #[Go.Operand.tmp 70, Go.Operand.tmp 72], argTypes := #[24, 24] }, type := 4, pos := "law.go:93", after := #[{ on := 3, ground := Go.Ground.data }, { on := 5, ground := Go.Ground.data }, { on := 5, ground := Go.Ground.chain }, { on := 2, ground := Go.Ground.guard }], guard := some (2, false) }) rfl (fun K hK => ?_) AllReadyH.nil
      go_simp
      with_reducible refine hs.out.mono ?_
      rintro e t6 ⟨rfl, b6⟩
      go_simp
      refine hK.out _ _ (hHeld.trans (b6.mono hHeld.size)) (fun hHeld => ?_)
      clear hK K
      try simp only [Act.put, List.setIfInBounds_toArray, List.set_cons_zero, List.set_cons_succ]
      refine wpAnyH_take (i := 7) (oi := { dst := some 74, op := Go.Op.unOp Go.UnOp.not 4 (Go.Operand.tmp 73), type := 4, pos := "law.go:93", after := #[{ on := 6, ground := Go.Ground.data }, { on := 2, ground := Go.Ground.guard }], guard := some (2, false) }) (v := ?v31) rfl (by kernel_rfl) (by kernel_rfl) (by kernel_rfl) (fun _ _ _ h => h) (Or.inl ⟨by kernel_rfl, ?h31⟩) (by assumption) ?r31
      case h31 => (intro w hSw; (try dsimp only at hSw); go_simp; try with_reducible rfl)
      try simp only [Act.put, List.setIfInBounds_toArray, List.set_cons_zero, List.set_cons_succ]
      refine wpAnyH_take (i := 8) (oi := { dst := some 75, op := Go.Op.pick (Go.Operand.tmp 69) (Go.Operand.const (Go.Value.bool true)) (Go.Operand.tmp 74), type := 4, pos := "law.go:93", after := #[{ on := 2, ground := Go.Ground.data }, { on := 7, ground := Go.Ground.data }], guard := none }) (v := ?v32) rfl (by kernel_rfl) (by kernel_rfl) (by kernel_rfl) (fun _ _ _ h => h) (Or.inl ⟨by kernel_rfl, ?h32⟩) (by assumption) ?r32
      case h32 => (intro w hSw; (try dsimp only at hSw); go_simp; try with_reducible rfl)
      try simp only [Act.put, List.setIfInBounds_toArray, List.set_cons_zero, List.set_cons_succ]
      refine wpAnyH_take (i := 9) (oi := { dst := some 76, op := Go.Op.move (Go.Operand.tmp 75), type := 4, pos := "law.go:93", after := #[{ on := 8, ground := Go.Ground.data }, { on := 6, ground := Go.Ground.chain }], guard := none }) (v := ?v33) rfl (by kernel_rfl) (by kernel_rfl) (by kernel_rfl) (fun _ _ _ h => h) (Or.inl ⟨by kernel_rfl, ?h33⟩) (by assumption) ?r33
      case h33 => (intro w hSw; (try dsimp only at hSw); go_simp; try with_reducible rfl)
      try simp only [Act.put, List.setIfInBounds_toArray, List.set_cons_zero, List.set_cons_succ]
      refine wpAnyH_take (i := 10) (oi := { dst := some 77, op := Go.Op.load 24 (Go.Operand.tmp 5), type := 24, pos := "law.go:93", after := #[{ on := 9, ground := Go.Ground.guard }], guard := some (9, false) }) (v := ?v34) rfl (by kernel_rfl) (by kernel_rfl) (by kernel_rfl) (fun _ _ _ h => h) (Or.inl ⟨by kernel_rfl, ?h34⟩) (by assumption) ?r34
      case h34 => (intro w hSw; (try dsimp only at hSw); go_simp; try with_reducible rfl)
      try simp only [Act.put, List.setIfInBounds_toArray, List.set_cons_zero, List.set_cons_succ]
      refine wpAnyH_take (i := 11) (oi := { dst := some 78, op := Go.Op.move (Go.Operand.tmp 1), type := 22, pos := "law.go:93", after := #[{ on := 9, ground := Go.Ground.guard }], guard := some (9, false) }) (v := ?v35) rfl (by kernel_rfl) (by kernel_rfl) (by kernel_rfl) (fun _ _ _ h => h) (Or.inl ⟨by kernel_rfl, ?h35⟩) (by assumption) ?r35
      case h35 => (intro w hSw; (try dsimp only at hSw); go_simp; try with_reducible rfl)
      try simp only [Act.put, List.setIfInBounds_toArray, List.set_cons_zero, List.set_cons_succ]
      refine wpAnyH_take (i := 13) (oi := { dst := some 80, op := Go.Op.move (Go.Operand.tmp 7), type := 4, pos := "law.go:93", after := #[{ on := 9, ground := Go.Ground.guard }], guard := some (9, false) }) (v := ?v36) rfl (by kernel_rfl) (by kernel_rfl) (by kernel_rfl) (fun _ _ _ h => h) (Or.inl ⟨by kernel_rfl, ?h36⟩) (by assumption) ?r36
      case h36 => (intro w hSw; (try dsimp only at hSw); go_simp; try with_reducible rfl)
      try simp only [Act.put, List.setIfInBounds_toArray, List.set_cons_zero, List.set_cons_succ]
      refine wpAnyH_ready (rs := [12]) (by kernel_rfl) (by simp) ?_
      refine AllReadyH.cons (o := { dst := some 79, op := Go.Op.call { callee := Go.Callee.value (Go.Operand.func 35), args := #[Go.Operand.tmp 77, Go.Operand.tmp 78], argTypes := #[24, 22] }, type := 4, pos := "law.go:93", after := #[{ on := 10, ground := Go.Ground.data }, { on := 11, ground := Go.Ground.data }, { on := 9, ground := Go.Ground.chain }, { on := 9, ground := Go.Ground.guard }], guard := some (9, false) }) rfl (fun K hK => ?_) AllReadyH.nil
      go_simp
      with_reducible refine (QH.out _ aB dB (qb.out _ hHeld) (qv.out _ hHeld)).mono ?_
      rintro e t12 ⟨rfl, b12⟩
      go_simp
      refine hK.out _ _ (hHeld.trans (b12.mono hHeld.size)) (fun hHeld => ?_)
      clear hK K
      try simp only [Act.put, List.setIfInBounds_toArray, List.set_cons_zero, List.set_cons_succ]
      refine wpAnyH_take (i := 14) (oi := { dst := some 81, op := Go.Op.binOp Go.BinOp.neq 4 (Go.Operand.tmp 79) (Go.Operand.tmp 80) 4, type := 4, pos := "law.go:93", after := #[{ on := 12, ground := Go.Ground.data }, { on := 13, ground := Go.Ground.data }, { on := 9, ground := Go.Ground.guard }], guard := some (9, false) }) (v := ?v37) rfl (by kernel_rfl) (by kernel_rfl) (by kernel_rfl) (fun _ _ _ h => h) (Or.inl ⟨by kernel_rfl, ?h37⟩) (by assumption) ?r37
      case h37 => (intro w hSw; (try dsimp only at hSw); go_simp; try with_reducible rfl)
      try simp only [Act.put, List.setIfInBounds_toArray, List.set_cons_zero, List.set_cons_succ]
      refine wpAnyH_take (i := 15) (oi := { dst := some 82, op := Go.Op.pick (Go.Operand.tmp 76) (Go.Operand.const (Go.Value.bool true)) (Go.Operand.tmp 81), type := 4, pos := "law.go:93", after := #[{ on := 9, ground := Go.Ground.data }, { on := 14, ground := Go.Ground.data }], guard := none }) (v := ?v38) rfl (by kernel_rfl) (by kernel_rfl) (by kernel_rfl) (fun _ _ _ h => h) (Or.inl ⟨by kernel_rfl, ?h38⟩) (by assumption) ?r38
      case h38 => (intro w hSw; (try dsimp only at hSw); go_simp; try with_reducible rfl)
      try simp only [Act.put, List.setIfInBounds_toArray, List.set_cons_zero, List.set_cons_succ]
      refine wpAnyH_done (by kernel_rfl) ?_ _
      clear k201 k202
      replace ZB := Lib.hid (ZB.out.below hHeld ZB.out.lt)
      replace BL := Lib.hid (BL.out.trans (hHeld.mono BL.out.size))
      replace TB := Lib.hid (TB.out.below hHeld)
      replace SV := Lib.hid (SV.out.below hHeld)
      clear hHeld qv qb qi QR QH
      go_wp2
      go_loopw [9] (fun x wq => ∃ t : Nat, t ≤ n ∧ x = .int .i64 t ∧ Hid (Below w.heap.size w wq) ∧ Hid (Holds wq v1.heap.size 24 #[.int .i64 n, .slice aB mB dB]) ∧ Hid (SL wq aB mB dB R) ∧ Hid (SL wq av k cv v)) (fun x _ => n - (intOf x).toNat)
      case atStart => exact ⟨0, by omega, rfl, BL, ZB, TB, SV⟩
      case round =>
        clear BL ZB TB SV
        obtain ⟨i, hi, rfl, BL, ZB, TB, SV⟩ := hrel
        have k301 := ZB.out.cell 0
        have k302 := ZB.out.cell 1
        by_cases hlt2 : i < n
        · have k1 : (i : Int) < (n : Int) := by omega
          obtain ⟨b, off, ea, hb, i0, i1⟩ := hI0.out.at_ (k := i) (by have := hx'.out; omega)
          subst ea
          have hwb := BL.out.size
          have ku : IntKind.i64.wrap ((i : Int) + 1) = (i : Int) + 1 := wrap_small (by omega) (by omega)
          have qi := QI.out i hlt2
          rw [hit.out i hlt2, show ((i + 1 : Nat) : Int) = (i : Int) + 1 by omega] at qi
          have qi := Lib.hid qi
          have qp := Lib.hid (QP.out i)
          generalize (xs.getD i (0, 0)).1 = x at *
          generalize (xs.getD i (0, 0)).2 = y at *
          have q := Lib.hid (qi.out _ aB dB TB.out)
          go_wp2_with fail
          with_reducible refine q.out.mono ?_
          rintro e s1 ⟨rfl, b1⟩
          clear k301 k302
          clear q qi
          have B0 := box_below s1 #[.int .i64 1, .int .i64 0] 38
          have B := b1.trans (B0.mono b1.size)
          replace ZB := Lib.hid (ZB.out.below B ZB.out.lt)
          replace BL := Lib.hid (BL.out.trans (B.mono BL.out.size))
          replace TB := Lib.hid (TB.out.below B)
          replace SV := Lib.hid (SV.out.below B)
          have ZI := Lib.hid (Holds.new s1 38 #[.int .i64 1, .int .i64 0])
          clear b1 B B0
          go_wp2
          generalize (s1.alloc (.cells #[.int .i64 1, .int .i64 0] 38)) = V at *
          have k401 : ∀ W, Below V.heap.size V W → W.cell? ⟨v1.heap.size, 0, none⟩ = some (.int .i64 n) := fun W hW => (ZB.out.below hW ZB.out.lt).cell 0
          have k402 : ∀ W, Below V.heap.size V W → W.cell? ⟨v1.heap.size, 1, none⟩ = some (.slice aB mB dB) := fun W hW => (ZB.out.below hW ZB.out.lt).cell 1
          have k403 : ∀ W, Below V.heap.size V W → W.cell? ⟨s1.heap.size, 0, none⟩ = some (.int .i64 1) := fun W hW => (ZI.out.below hW ZI.out.lt).cell 0
          have k404 : ∀ W, Below V.heap.size V W → W.cell? ⟨s1.heap.size, 1, none⟩ = some (.int .i64 0) := fun W hW => (ZI.out.below hW ZI.out.lt).cell 1
          have hbz := BL.out.size
          skip
          have qb := Lib.hid (fun W (hW : Below V.heap.size V W) => TB.out.below hW)
          refine wp_drawn_on (fun W => Below V.heap.size V W) (by kernel_rfl) (below_drew (Below.refl _ _)) (fun hHeld => ?_)
          refine wpAnyH_take (i := 0) (oi := { dst := some 96, op := Go.Op.move (Go.Operand.tmp 11), type := 27, pos := "law.go:98", after := #[], guard := none }) (v := ?v39) rfl (by kernel_rfl) (by kernel_rfl) (by kernel_rfl) (fun _ _ _ h => h) (Or.inl ⟨by kernel_rfl, ?h39⟩) (by assumption) ?r39
          case h39 => (intro w hSw; (try dsimp only at hSw); go_simp; try with_reducible rfl)
          try simp only [Act.put, List.setIfInBounds_toArray, List.set_cons_zero, List.set_cons_succ]
          refine wpAnyH_take (i := 1) (oi := { dst := some 97, op := Go.Op.binOp Go.BinOp.neq 27 (Go.Operand.tmp 96) (Go.Operand.const (Go.Value.int Go.IntKind.i64 0)) 27, type := 4, pos := "law.go:98", after := #[{ on := 0, ground := Go.Ground.data }], guard := none }) (v := ?v40) rfl (by kernel_rfl) (by kernel_rfl) (by kernel_rfl) (fun _ _ _ h => h) (Or.inl ⟨by kernel_rfl, ?h40⟩) (by assumption) ?r40
          case h40 => (intro w hSw; (try dsimp only at hSw); go_simp; try with_reducible rfl)
          try simp only [Act.put, List.setIfInBounds_toArray, List.set_cons_zero, List.set_cons_succ]
          refine wpAnyH_take (i := 2) (oi := { dst := some 98, op := Go.Op.move (Go.Operand.tmp 97), type := 4, pos := "law.go:98", after := #[{ on := 1, ground := Go.Ground.data }], guard := none }) (v := ?v41) rfl (by kernel_rfl) (by kernel_rfl) (by kernel_rfl) (fun _ _ _ h => h) (Or.inl ⟨by kernel_rfl, ?h41⟩) (by assumption) ?r41
          case h41 => (intro w hSw; (try dsimp only at hSw); go_simp; try with_reducible rfl)
          try simp only [Act.put, List.setIfInBounds_toArray, List.set_cons_zero, List.set_cons_succ]
          refine wpAnyH_take (i := 3) (oi := { dst := some 99, op := Go.Op.load 24 (Go.Operand.tmp 5), type := 24, pos := "law.go:98", after := #[{ on := 2, ground := Go.Ground.guard }], guard := some (2, false) }) (v := ?v42) rfl (by kernel_rfl) (by kernel_rfl) (by kernel_rfl) (fun _ _ _ h => h) (Or.inl ⟨by kernel_rfl, ?h42⟩) (by assumption) ?r42
          case h42 => (intro w hSw; (try dsimp only at hSw); go_simp; try with_reducible rfl)
          try simp only [Act.put, List.setIfInBounds_toArray, List.set_cons_zero, List.set_cons_succ]
          refine wpAnyH_ready (rs := [4]) (by kernel_rfl) (by simp) ?_
          refine AllReadyH.cons (o := { dst := some 100, op := Go.Op.call { callee := Go.Callee.value (Go.Operand.func 36), args := #[Go.Operand.tmp 99], argTypes := #[24] }, type := 4, pos := "law.go:98", after := #[{ on := 3, ground := Go.Ground.data }, { on := 2, ground := Go.Ground.chain }, { on := 2, ground := Go.Ground.guard }], guard := some (2, false) }) rfl (fun K hK => ?_) AllReadyH.nil
          go_simp
          with_reducible refine (QE.out _ aB dB (qb.out _ hHeld)).mono ?_
          rintro e t4 ⟨rfl, b4⟩
          go_simp
          refine hK.out _ _ (hHeld.trans (b4.mono hHeld.size)) (fun hHeld => ?_)
          clear hK K
          try simp only [Act.put, List.setIfInBounds_toArray, List.set_cons_zero, List.set_cons_succ]
          refine wpAnyH_take (i := 5) (oi := { dst := some 101, op := Go.Op.unOp Go.UnOp.not 4 (Go.Operand.tmp 100), type := 4, pos := "law.go:98", after := #[{ on := 4, ground := Go.Ground.data }, { on := 2, ground := Go.Ground.guard }], guard := some (2, false) }) (v := ?v43) rfl (by kernel_rfl) (by kernel_rfl) (by kernel_rfl) (fun _ _ _ h => h) (Or.inl ⟨by kernel_rfl, ?h43⟩) (by assumption) ?r43
          case h43 => (intro w hSw; (try dsimp only at hSw); go_simp; try with_reducible rfl)
          try simp only [Act.put, List.setIfInBounds_toArray, List.set_cons_zero, List.set_cons_succ]
          refine wpAnyH_take (i := 6) (oi := { dst := some 102, op := Go.Op.move (Go.Operand.tmp 101), type := 4, pos := "law.go:98", after := #[{ on := 5, ground := Go.Ground.data }, { on := 4, ground := Go.Ground.chain }, { on := 2, ground := Go.Ground.guard }], guard := some (2, false) }) (v := ?v44) rfl (by kernel_rfl) (by kernel_rfl) (by kernel_rfl) (fun _ _ _ h => h) (Or.inl ⟨by kernel_rfl, ?h44⟩) (by assumption) ?r44
          case h44 => (intro w hSw; (try dsimp only at hSw); go_simp; try with_reducible rfl)
          try simp only [Act.put, List.setIfInBounds_toArray, List.set_cons_zero, List.set_cons_succ]
          refine wpAnyH_take (i := 7) (oi := { dst := some 103, op := Go.Op.load 38 (Go.Operand.tmp 10), type := 38, pos := "law.go:98", after := #[{ on := 6, ground := Go.Ground.guard }], guard := some (6, true) }) (v := undef) rfl (by kernel_rfl) (by kernel_rfl) (by kernel_rfl) (fun _ _ _ h => h) (Or.inr ⟨by kernel_rfl, rfl⟩) (by assumption) ?_
          try simp only [Act.put, List.setIfInBounds_toArray, List.set_cons_zero, List.set_cons_succ]
          refine wpAnyH_take (i := 8) (oi := { dst := some 104, op := Go.Op.move (Go.Operand.tmp 0), type := 47, pos := "law.go:98", after := #[{ on := 6, ground := Go.Ground.guard }], guard := some (6, true) }) (v := undef) rfl (by kernel_rfl) (by kernel_rfl) (by kernel_rfl) (fun _ _ _ h => h) (Or.inr ⟨by kernel_rfl, rfl⟩) (by assumption) ?_
          try simp only [Act.put, List.setIfInBounds_toArray, List.set_cons_zero, List.set_cons_succ]
          refine wpAnyH_take (i := 9) (oi := { dst := some 105, op := Go.Op.move (Go.Operand.tmp 9), type := 3, pos := "law.go:98", after := #[{ on := 6, ground := Go.Ground.guard }], guard := some (6, true) }) (v := undef) rfl (by kernel_rfl) (by kernel_rfl) (by kernel_rfl) (fun _ _ _ h => h) (Or.inr ⟨by kernel_rfl, rfl⟩) (by assumption) ?_
          try simp only [Act.put, List.setIfInBounds_toArray, List.set_cons_zero, List.set_cons_succ]
          refine wpAnyH_take (i := 10) (oi := { dst := some 106, op := Go.Op.indexAddr 47 (Go.Operand.tmp 104) (Go.Operand.tmp 105), type := 0, pos := "law.go:98", after := #[{ on := 8, ground := Go.Ground.data }, { on := 9, ground := Go.Ground.data }, { on := 6, ground := Go.Ground.guard }], guard := some (6, true) }) (v := undef) rfl (by kernel_rfl) (by kernel_rfl) (by kernel_rfl) (fun _ _ _ h => h) (Or.inr ⟨by kernel_rfl, rfl⟩) (by assumption) ?_
          try simp only [Act.put, List.setIfInBounds_toArray, List.set_cons_zero, List.set_cons_succ]
          refine wpAnyH_take (i := 11) (oi := { dst := some 107, op := Go.Op.load 38 (Go.Operand.tmp 106), type := 38, pos := "law.go:98", after := #[{ on := 10, ground := Go.Ground.data }, { on := 6, ground := Go.Ground.guard }], guard := some (6, true) }) (v := undef) rfl (by kernel_rfl) (by kernel_rfl) (by kernel_rfl) (fun _ _ _ h => h) (Or.inr ⟨by kernel_rfl, rfl⟩) (by assumption) ?_
          try simp only [Act.put, List.setIfInBounds_toArray, List.set_cons_zero, List.set_cons_succ]
          refine wpAnyH_take (i := 12) (oi := { dst := some 108, op := Go.Op.call { callee := Go.Callee.value (Go.Operand.func 37), args := #[Go.Operand.tmp 107], argTypes := #[38] }, type := 38, pos := "law.go:98", after := #[{ on := 11, ground := Go.Ground.data }, { on := 6, ground := Go.Ground.chain }, { on := 6, ground := Go.Ground.guard }], guard := some (6, true) }) (v := undef) rfl (by kernel_rfl) (by kernel_rfl) (by kernel_rfl) (fun _ _ _ h => h) (Or.inr ⟨by kernel_rfl, rfl⟩) (by assumption) ?_
          try simp only [Act.put, List.setIfInBounds_toArray, List.set_cons_zero, List.set_cons_succ]
          refine wpAnyH_take (i := 13) (oi := { dst := some 109, op := Go.Op.binOp Go.BinOp.neq 38 (Go.Operand.tmp 103) (Go.Operand.tmp 108) 38, type := 4, pos := "law.go:98", after := #[{ on := 7, ground := Go.Ground.data }, { on := 12, ground := Go.Ground.data }, { on := 6, ground := Go.Ground.guard }], guard := some (6, true) }) (v := undef) rfl (by kernel_rfl) (by kernel_rfl) (by kernel_rfl) (fun _ _ _ h => h) (Or.inr ⟨by kernel_rfl, rfl⟩) (by assumption) ?_
          try simp only [Act.put, List.setIfInBounds_toArray, List.set_cons_zero, List.set_cons_succ]
          refine wpAnyH_take (i := 14) (oi := { dst := some 110, op := Go.Op.pick (Go.Operand.tmp 102) (Go.Operand.tmp 109) (Go.Operand.const (Go.Value.bool false)), type := 4, pos := "law.go:98", after := #[{ on := 6, ground := Go.Ground.data }, { on := 13, ground := Go.Ground.data }, { on := 2, ground := Go.Ground.guard }], guard := some (2, false) }) (v := ?v52) rfl (by kernel_rfl) (by kernel_rfl) (by kernel_rfl) (fun _ _ _ h => h) (Or.inl ⟨by kernel_rfl, ?h52⟩) (by assumption) ?r52
          case h52 => (intro w hSw; (try dsimp only at hSw); go_simp; try with_reducible rfl)
          try simp only [Act.put, List.setIfInBounds_toArray, List.set_cons_zero, List.set_cons_succ]
          refine wpAnyH_take (i := 15) (oi := { dst := some 111, op := Go.Op.pick (Go.Operand.tmp 98) (Go.Operand.const (Go.Value.bool true)) (Go.Operand.tmp 110), type := 4, pos := "law.go:98", after := #[{ on := 2, ground := Go.Ground.data }, { on := 14, ground := Go.Ground.data }], guard := none }) (v := ?v53) rfl (by kernel_rfl) (by kernel_rfl) (by kernel_rfl) (fun _ _ _ h => h) (Or.inl ⟨by kernel_rfl, ?h53⟩) (by assumption) ?r53
          case h53 => (intro w hSw; (try dsimp only at hSw); go_simp; try with_reducible rfl)
          try simp only [Act.put, List.setIfInBounds_toArray, List.set_cons_zero, List.set_cons_succ]
          refine wpAnyH_take (i := 16) (oi := { dst := some 112, op := Go.Op.move (Go.Operand.tmp 111), type := 4, pos := "law.go:98", after := #[{ on := 15, ground := Go.Ground.data }, { on := 12, ground := Go.Ground.chain }], guard := none }) (v := ?v54) rfl (by kernel_rfl) (by kernel_rfl) (by kernel_rfl) (fun _ _ _ h => h) (Or.inl ⟨by kernel_rfl, ?h54⟩) (by assumption) ?r54
          case h54 => (intro w hSw; (try dsimp only at hSw); go_simp; try with_reducible rfl)
          try simp only [Act.put, List.setIfInBounds_toArray, List.set_cons_zero, List.set_cons_succ]
          refine wpAnyH_take (i := 17) (oi := { dst := some 113, op := Go.Op.load 24 (Go.Operand.tmp 5), type := 24, pos := "law.go:98", after := #[{ on := 16, ground := Go.Ground.guard }], guard := some (16, false) }) (v := ?v55) rfl (by kernel_rfl) (by kernel_rfl) (by kernel_rfl) (fun _ _ _ h => h) (Or.inl ⟨by kernel_rfl, ?h55⟩) (by assumption) ?r55
          case h55 => (intro w hSw; (try dsimp only at hSw); go_simp; try with_reducible rfl)
          try simp only [Act.put, List.setIfInBounds_toArray, List.set_cons_zero, List.set_cons_succ]
          refine wpAnyH_ready (rs := [18]) (by kernel_rfl) (by simp) ?_
          refine AllReadyH.cons (o := { dst := some 114, op := Go.Op.call { callee := Go.Callee.value (Go.Operand.func 36), args := #[Go.Operand.tmp 113], argTypes := #[24] }, type := 4, pos := "law.go:98", after := #[{ on := 17, ground := Go.Ground.data }, { on := 16, ground := Go.Ground.chain }, { on := 16, ground := Go.Ground.guard }], guard := some (16, false) }) rfl (fun K hK => ?_) AllReadyH.nil
          go_simp
          with_reducible refine (QE.out _ aB dB (qb.out _ hHeld)).mono ?_
          rintro e t18 ⟨rfl, b18⟩
          go_simp
          refine hK.out _ _ (hHeld.trans (b18.mono hHeld.size)) (fun hHeld => ?_)
          clear hK K
          try simp only [Act.put, List.setIfInBounds_toArray, List.set_cons_zero, List.set_cons_succ]
          refine wpAnyH_take (i := 19) (oi := { dst := some 115, op := Go.Op.move (Go.Operand.tmp 114), type := 4, pos := "law.go:98", after := #[{ on := 18, ground := Go.Ground.data }, { on := 18, ground := Go.Ground.chain }, { on := 16, ground := Go.Ground.guard }], guard := some (16, false) }) (v := ?v56) rfl (by kernel_rfl) (by kernel_rfl) (by kernel_rfl) (fun _ _ _ h => h) (Or.inl ⟨by kernel_rfl, ?h56⟩) (by assumption) ?r56
          case h56 => (intro w hSw; (try dsimp only at hSw); go_simp; try with_reducible rfl)
          try simp only [Act.put, List.setIfInBounds_toArray, List.set_cons_zero, List.set_cons_succ]
          refine wpAnyH_take (i := 20) (oi := { dst := some 116, op := Go.Op.load 38 (Go.Operand.tmp 10), type := 38, pos := "law.go:98", after := #[{ on := 19, ground := Go.Ground.guard }], guard := some (19, true) }) (v := ?v57) rfl (by kernel_rfl) (by kernel_rfl) (by kernel_rfl) (fun _ _ _ h => h) (Or.inl ⟨by kernel_rfl, ?h57⟩) (by assumption) ?r57
          case h57 => (intro w hSw; (try dsimp only at hSw); go_simp; try with_reducible rfl)
          try simp only [Act.put, List.setIfInBounds_toArray, List.set_cons_zero, List.set_cons_succ]
          refine wpAnyH_ready (rs := [21]) (by kernel_rfl) (by simp) ?_
          refine AllReadyH.cons (o := { dst := some 117, op := Go.Op.call { callee := Go.Callee.value (Go.Operand.func 38), args := #[], argTypes := #[] }, type := 38, pos := "law.go:98", after := #[{ on := 19, ground := Go.Ground.chain }, { on := 19, ground := Go.Ground.guard }], guard := some (19, true) }) rfl (fun K hK => ?_) AllReadyH.nil
          go_simp
          with_reducible refine (QN.out _).mono ?_
          rintro e t21 ⟨rfl, b21⟩
          go_simp
          refine hK.out _ _ (hHeld.trans (b21.mono hHeld.size)) (fun hHeld => ?_)
          clear hK K
          try simp only [Act.put, List.setIfInBounds_toArray, List.set_cons_zero, List.set_cons_succ]
          refine wpAnyH_take (i := 22) (oi := { dst := some 118, op := Go.Op.binOp Go.BinOp.neq 38 (Go.Operand.tmp 116) (Go.Operand.tmp 117) 38, type := 4, pos := "law.go:98", after := #[{ on := 20, ground := Go.Ground.data }, { on := 21, ground := Go.Ground.data }, { on := 19, ground := Go.Ground.guard }], guard := some (19, true) }) (v := ?v58) rfl (by kernel_rfl) (by kernel_rfl) (by kernel_rfl) (fun _ _ _ h => h) (Or.inl ⟨by kernel_rfl, ?h58⟩) (by assumption) ?r58
          case h58 => (intro w hSw; (try dsimp only at hSw); refine Eq.trans (b := Result.ok (Next.value (.bool false)) w) (by go_simp) ?_; with_reducible rfl)
          try simp only [Act.put, List.setIfInBounds_toArray, List.set_cons_zero, List.set_cons_succ]
          refine wpAnyH_take (i := 23) (oi := { dst := some 119, op := Go.Op.pick (Go.Operand.tmp 115) (Go.Operand.tmp 118) (Go.Operand.const (Go.Value.bool false)), type := 4, pos := "law.go:98", after := #[{ on := 19, ground := Go.Ground.data }, { on := 22, ground := Go.Ground.data }, { on := 16, ground := Go.Ground.guard }], guard := some (16, false) }) (v := ?v59) rfl (by kernel_rfl) (by kernel_rfl) (by kernel_rfl) (fun _ _ _ h => h) (Or.inl ⟨by kernel_rfl, ?h59⟩) (by assumption) ?r59
          case h59 => (intro w hSw; (try dsimp only at hSw); go_simp; try with_reducible rfl)
          try simp only [Act.put, List.setIfInBounds_toArray, List.set_cons_zero, List.set_cons_succ]
          refine wpAnyH_take (i := 24) (oi := { dst := some 120, op := Go.Op.pick (Go.Operand.tmp 112) (Go.Operand.const (Go.Value.bool true)) (Go.Operand.tmp 119), type := 4, pos := "law.go:98", after := #[{ on := 16, ground := Go.Ground.data }, { on := 23, ground := Go.Ground.data }], guard := none }) (v := ?v60) rfl (by kernel_rfl) (by kernel_rfl) (by kernel_rfl) (fun _ _ _ h => h) (Or.inl ⟨by kernel_rfl, ?h60⟩) (by assumption) ?r60
          case h60 => (intro w hSw; (try dsimp only at hSw); go_simp; try with_reducible rfl)
          try simp only [Act.put, List.setIfInBounds_toArray, List.set_cons_zero, List.set_cons_succ]
          refine wpAnyH_done (by kernel_rfl) ?_ _
          clear k401 k402 k403 k404
          replace ZB := Lib.hid (ZB.out.below hHeld ZB.out.lt)
          replace ZI := Lib.hid (ZI.out.below hHeld ZI.out.lt)
          replace BL := Lib.hid (BL.out.trans (hHeld.mono BL.out.size))
          replace TB := Lib.hid (TB.out.below hHeld)
          replace SV := Lib.hid (SV.out.below hHeld)
          clear hHeld qb
          go_wp2
          go_roundw
          case rel => exact ⟨i + 1, by omega, by go_num, BL, ZB, TB, SV⟩
          case measure => simp [intOf]; omega
        · have hie : i = n := by omega
          subst hie
          go_wp2
          go_ret
          exact ⟨rfl, BL.out⟩
set_option maxRecDepth 100000 in
set_option maxHeartbeats 8000000 in
theorem boxes_el (n mv : Nat) (a0 av : Option Addr) (c0 cv : Nat) (xs : List (Int × Int)) (v : List Int) (w : World) (hx : xs.length = n) (h0 : ItS w.heap.size w a0 xs) (hv : SL w av mv cv v) (g1 : ¬ 20 < n) (g2 : ¬ 20 < mv) (g3 : ¬ 8 < n) (hR : boxL n xs = []) (hm : n ≤ mv) : Calls Try.prog 5 #[.slice a0 n c0, .slice av mv cv] w (Gives (.bool true) w) := by
  have g1i : ¬ (20 : Int) < (n : Int) := by omega
  have g2i : ¬ (20 : Int) < (mv : Int) := by omega
  have g3i : ¬ (8 : Int) < (n : Int) := by omega
  have hn : n ≤ 8 := by omega
  have hvl := hv.len
  obtain ⟨mB, hmB⟩ : ∃ x, x = (boxL n xs).length := ⟨_, rfl⟩
  have rB : mB ≤ 81 := by rw [hmB]; exact (boxL_isz hn xs).small
  have QX := Lib.hid ((zbox_any n hn xs hx a0 c0 w h0).mono (fun e w' h => ends_of (m := mB) hmB.symm (by omega) h))
  have QR := Lib.hid (fun W (hI : ItS W.heap.size W a0 xs) => rbox_any n hn xs hx a0 c0 W hI)
  obtain ⟨P, hP⟩ : ∃ P : Nat → Bool, P = inK n xs v := ⟨_, rfl⟩
  have hP0 : Hid (P 0 = decide (mv = n)) := Lib.hid (by rw [hP, hvl]; simp [inK])
  have hPn : Hid (∀ k, P (k + 1) = (P k && itvB (xs.getD k (0, 0)) (v.getD k 0))) := Lib.hid (fun k => by rw [hP]; exact inK_next n xs v k)
  have hbh : hasB n (boxL n xs) v = P n := by rw [hP, box_has hn, ← hvl, show min n mv = n by omega]
  have QH := Lib.hid (fun W a c (hS : SL W a mB c (boxL n xs)) (hV : SL W av mv cv v) => has_any n a mB c _ av mv cv v W hS hV)
  rw [hbh] at QH
  have QI := Lib.hid (fun k (hk : k < n) W a c (hS : SL W a mB c (boxL n xs)) => zitvL_any n (k + 1) (by omega) _ (boxL_isz hn xs) a mB c W hS)
  have QE := Lib.hid (fun W a c (hS : SL W a mB c (boxL n xs)) => empty_any n a mB c _ W hS)
  have he : emptyB n (boxL n xs) = true := by unfold emptyB; rw [(boxL_isz hn xs).check]; simp [hR]
  rw [he] at QE
  have QN := Lib.hid (fun W => rnone_any W)
  have QP := Lib.hid (fun k W => rplainZ_any (xs.getD k (0, 0)).1 (xs.getD k (0, 0)).2 W)
  have hit : Hid (∀ k, k < n → itvL n (boxL n xs) (k + 1) = (1, 0)) := Lib.hid (fun k hk => by unfold itvL; rw [if_pos hR])
  have hI0 := Lib.hid h0
  have hx' := Lib.hid hx
  have hvl' := Lib.hid hvl
  have BL := Lib.hid (Below.refl w.heap.size w)
  have SV := Lib.hid hv
  clear h0 hv hx hvl hP hbh he hR hmB
  skip
  generalize boxL n xs = R at *
  go_enter Try.func5, Try.ntmps5
  have q := Lib.hid (QX.out)
  go_wp2_with fail
  with_reducible refine q.out.mono ?_
  rintro e v1 ⟨aB, dB, rfl, sB, bB⟩
  clear q QX
  have B0 := box_below v1 #[.int .i64 n, .slice aB mB dB] 24
  have B := bB.trans (B0.mono bB.size)
  replace BL := Lib.hid (BL.out.trans (B.mono BL.out.size))
  replace SV := Lib.hid (SV.out.below B)
  have ZB := Lib.hid (Holds.new v1 24 #[.int .i64 n, .slice aB mB dB])
  have TB := Lib.hid (sB.below B0)
  clear bB B B0 sB
  have q := Lib.hid (zlivesAt w _ BL.out)
  go_wp2_with fail
  with_reducible refine q.out.mono ?_
  rintro e v2 ⟨rfl, b2, -⟩
  clear q
  replace ZB := Lib.hid (ZB.out.below b2 ZB.out.lt)
  replace BL := Lib.hid (BL.out.trans (b2.mono BL.out.size))
  replace SV := Lib.hid (SV.out.below b2)
  replace TB := Lib.hid (TB.out.below b2)
  clear b2
  go_wp2
  go_loopw [7, 8] (fun y x wr => ∃ k : Nat, k ≤ n ∧ x = .int .i64 k ∧ y = .bool (P k) ∧ Hid (Below w.heap.size w wr) ∧ Hid (Holds wr v1.heap.size 24 #[.int .i64 n, .slice aB mB dB]) ∧ Hid (SL wr aB mB dB R) ∧ Hid (SL wr av mv cv v)) (fun _ x _ => n - (intOf x).toNat)
  case atStart => exact ⟨0, by omega, rfl, by rw [hP0.out]; congr 1; exact beq_cast _ _, BL, ZB, TB, SV⟩
  case round =>
    clear BL ZB TB SV
    obtain ⟨k, hk, rfl, rfl, BL, ZB, TB, SV⟩ := hrel
    by_cases hlt : k < n
    · have k1 : (k : Int) < (n : Int) := by omega
      have k2 : (k : Int) < (mv : Int) := by omega
      obtain ⟨b, off, ea, hb, i0, i1⟩ := (hI0.out.below BL.out).at_ (k := k) (by have := hx'.out; omega)
      obtain ⟨b2, off2, ev, hb2, i2⟩ := sees_at' SV.out.sees (i := k) (by have := hvl'.out; omega)
      subst ea ev
      have hwb := BL.out.size
      have c0 : ∀ W, Below wr.heap.size wr W → W.cell? ⟨b, off + k * 2, none⟩ = some (.int .i64 (xs.getD k (0, 0)).1) := fun W hW => (hW.cell (p := ⟨b, off + k * 2, none⟩) (by show b < _; omega)).trans i0
      have c1 : ∀ W, Below wr.heap.size wr W → W.cell? ⟨b, off + k * 2 + 1, none⟩ = some (.int .i64 (xs.getD k (0, 0)).2) := fun W hW => (hW.cell (p := ⟨b, off + k * 2 + 1, none⟩) (by show b < _; omega)).trans i1
      have c2 : ∀ W, Below wr.heap.size wr W → W.cell? ⟨b2, off2 + k, none⟩ = some (.int .i64 (v.getD k 0)) := fun W hW => (hW.cell (p := ⟨b2, off2 + k, none⟩) (by show b2 < _; omega)).trans i2
      have qh := Lib.hid (fun W => ihas_any (xs.getD k (0, 0)) (v.getD k 0) W)
      have hn1 := Lib.hid (hPn.out k)
      clear i0 i1 i2
      generalize itvB (xs.getD k (0, 0)) (v.getD k 0) = u at *
      generalize (xs.getD k (0, 0)).1 = x at *
      generalize (xs.getD k (0, 0)).2 = y at *
      generalize v.getD k 0 = z at *
      obtain ⟨p1, hp1'⟩ : ∃ p, p = P (k + 1) := ⟨_, rfl⟩
      rw [← hp1'] at hn1
      have hp1 := Lib.hid hp1'
      clear hp1'
      cases hpk : P k
      · have hn2 : Hid (p1 = false) := Lib.hid (by rw [hn1.out, hpk]; rfl)
        clear hn1 hpk
        go_wp2
        refine wp_drawn_on (fun W => Below wr.heap.size wr W) (by kernel_rfl) (below_drew (Below.refl _ _)) (fun hHeld => ?_)
        refine wpAnyH_take (i := 0) (oi := { dst := some 55, op := Go.Op.move (Go.Operand.tmp 7), type := 4, pos := "law.go:91", after := #[], guard := none }) (v := ?v61) rfl (by kernel_rfl) (by kernel_rfl) (by kernel_rfl) (fun _ _ _ h => h) (Or.inl ⟨by kernel_rfl, ?h61⟩) (by assumption) ?r61
        case h61 => (intro w hSw; (try dsimp only at hSw); go_simp; try with_reducible rfl)
        try simp only [Act.put, List.setIfInBounds_toArray, List.set_cons_zero, List.set_cons_succ]
        refine wpAnyH_take (i := 1) (oi := { dst := some 56, op := Go.Op.move (Go.Operand.tmp 55), type := 4, pos := "law.go:91", after := #[{ on := 0, ground := Go.Ground.data }], guard := none }) (v := ?v62) rfl (by kernel_rfl) (by kernel_rfl) (by kernel_rfl) (fun _ _ _ h => h) (Or.inl ⟨by kernel_rfl, ?h62⟩) (by assumption) ?r62
        case h62 => (intro w hSw; (try dsimp only at hSw); go_simp; try with_reducible rfl)
        try simp only [Act.put, List.setIfInBounds_toArray, List.set_cons_zero, List.set_cons_succ]
        refine wpAnyH_take (i := 2) (oi := { dst := some 57, op := Go.Op.move (Go.Operand.tmp 0), type := 47, pos := "law.go:91", after := #[{ on := 1, ground := Go.Ground.guard }], guard := some (1, true) }) (v := undef) rfl (by kernel_rfl) (by kernel_rfl) (by kernel_rfl) (fun _ _ _ h => h) (Or.inr ⟨by kernel_rfl, rfl⟩) (by assumption) ?_
        try simp only [Act.put, List.setIfInBounds_toArray, List.set_cons_zero, List.set_cons_succ]
        refine wpAnyH_take (i := 3) (oi := { dst := some 58, op := Go.Op.move (Go.Operand.tmp 8), type := 3, pos := "law.go:91", after := #[{ on := 1, ground := Go.Ground.guard }], guard := some (1, true) }) (v := undef) rfl (by kernel_rfl) (by kernel_rfl) (by kernel_rfl) (fun _ _ _ h => h) (Or.inr ⟨by kernel_rfl, rfl⟩) (by assumption) ?_
        try simp only [Act.put, List.setIfInBounds_toArray, List.set_cons_zero, List.set_cons_succ]
        refine wpAnyH_take (i := 4) (oi := { dst := some 59, op := Go.Op.indexAddr 47 (Go.Operand.tmp 57) (Go.Operand.tmp 58), type := 0, pos := "law.go:91", after := #[{ on := 2, ground := Go.Ground.data }, { on := 3, ground := Go.Ground.data }, { on := 1, ground := Go.Ground.guard }], guard := some (1, true) }) (v := undef) rfl (by kernel_rfl) (by kernel_rfl) (by kernel_rfl) (fun _ _ _ h => h) (Or.inr ⟨by kernel_rfl, rfl⟩) (by assumption) ?_
        try simp only [Act.put, List.setIfInBounds_toArray, List.set_cons_zero, List.set_cons_succ]
        refine wpAnyH_take (i := 5) (oi := { dst := some 60, op := Go.Op.load 38 (Go.Operand.tmp 59), type := 38, pos := "law.go:91", after := #[{ on := 4, ground := Go.Ground.data }, { on := 1, ground := Go.Ground.guard }], guard := some (1, true) }) (v := undef) rfl (by kernel_rfl) (by kernel_rfl) (by kernel_rfl) (fun _ _ _ h => h) (Or.inr ⟨by kernel_rfl, rfl⟩) (by assumption) ?_
        try simp only [Act.put, List.setIfInBounds_toArray, List.set_cons_zero, List.set_cons_succ]
        refine wpAnyH_take (i := 6) (oi := { dst := some 61, op := Go.Op.move (Go.Operand.tmp 1), type := 22, pos := "law.go:91", after := #[{ on := 1, ground := Go.Ground.guard }], guard := some (1, true) }) (v := undef) rfl (by kernel_rfl) (by kernel_rfl) (by kernel_rfl) (fun _ _ _ h => h) (Or.inr ⟨by kernel_rfl, rfl⟩) (by assumption) ?_
        try simp only [Act.put, List.setIfInBounds_toArray, List.set_cons_zero, List.set_cons_succ]
        refine wpAnyH_take (i := 7) (oi := { dst := some 62, op := Go.Op.move (Go.Operand.tmp 8), type := 3, pos := "law.go:91", after := #[{ on := 1, ground := Go.Ground.guard }], guard := some (1, true) }) (v := undef) rfl (by kernel_rfl) (by kernel_rfl) (by kernel_rfl) (fun _ _ _ h => h) (Or.inr ⟨by kernel_rfl, rfl⟩) (by assumption) ?_
        try simp only [Act.put, List.setIfInBounds_toArray, List.set_cons_zero, List.set_cons_succ]
        refine wpAnyH_take (i := 8) (oi := { dst := some 63, op := Go.Op.indexAddr 22 (Go.Operand.tmp 61) (Go.Operand.tmp 62), type := 0, pos := "law.go:91", after := #[{ on := 6, ground := Go.Ground.data }, { on := 7, ground := Go.Ground.data }, { on := 1, ground := Go.Ground.guard }], guard := some (1, true) }) (v := undef) rfl (by kernel_rfl) (by kernel_rfl) (by kernel_rfl) (fun _ _ _ h => h) (Or.inr ⟨by kernel_rfl, rfl⟩) (by assumption) ?_
        try simp only [Act.put, List.setIfInBounds_toArray, List.set_cons_zero, List.set_cons_succ]
        refine wpAnyH_take (i := 9) (oi := { dst := some 64, op := Go.Op.load 3 (Go.Operand.tmp 63), type := 3, pos := "law.go:91", after := #[{ on := 8, ground := Go.Ground.data }, { on := 1, ground := Go.Ground.guard }], guard := some (1, true) }) (v := undef) rfl (by kernel_rfl) (by kernel_rfl) (by kernel_rfl) (fun _ _ _ h => h) (Or.inr ⟨by kernel_rfl, rfl⟩) (by assumption) ?_
        try simp only [Act.put, List.setIfInBounds_toArray, List.set_cons_zero, List.set_cons_succ]
        refine wpAnyH_take (i := 10) (oi := { dst := some 65, op := Go.Op.call { callee := Go.Callee.value (Go.Operand.func 33), args := #[Go.Operand.tmp 60, Go.Operand.tmp 64], argTypes := #[38, 3] }, type := 4, pos := "law.go:91", after := #[{ on := 5, ground := Go.Ground.data }, { on := 9, ground := Go.Ground.data }, { on := 1, ground := Go.Ground.chain }, { on := 1, ground := Go.Ground.guard }], guard := some (1, true) }) (v := undef) rfl (by kernel_rfl) (by kernel_rfl) (by kernel_rfl) (fun _ _ _ h => h) (Or.inr ⟨by kernel_rfl, rfl⟩) (by assumption) ?_
        try simp only [Act.put, List.setIfInBounds_toArray, List.set_cons_zero, List.set_cons_succ]
        refine wpAnyH_take (i := 11) (oi := { dst := some 66, op := Go.Op.pick (Go.Operand.tmp 56) (Go.Operand.tmp 65) (Go.Operand.const (Go.Value.bool false)), type := 4, pos := "law.go:91", after := #[{ on := 1, ground := Go.Ground.data }, { on := 10, ground := Go.Ground.data }], guard := none }) (v := ?v72) rfl (by kernel_rfl) (by kernel_rfl) (by kernel_rfl) (fun _ _ _ h => h) (Or.inl ⟨by kernel_rfl, ?h72⟩) (by assumption) ?r72
        case h72 => (intro w hSw; (try dsimp only at hSw); go_simp; try with_reducible rfl)
        try simp only [Act.put, List.setIfInBounds_toArray, List.set_cons_zero, List.set_cons_succ]
        refine wpAnyH_take (i := 12) (oi := { dst := some 7, op := Go.Op.assign (Go.Operand.tmp 66), type := 4, pos := "law.go:91", after := #[{ on := 11, ground := Go.Ground.data }, { on := 10, ground := Go.Ground.chain }, { on := 0, ground := Go.Ground.phase }, { on := 1, ground := Go.Ground.phase }, { on := 2, ground := Go.Ground.phase }, { on := 3, ground := Go.Ground.phase }, { on := 4, ground := Go.Ground.phase }, { on := 5, ground := Go.Ground.phase }, { on := 6, ground := Go.Ground.phase }, { on := 7, ground := Go.Ground.phase }, { on := 8, ground := Go.Ground.phase }, { on := 9, ground := Go.Ground.phase }, { on := 10, ground := Go.Ground.phase }, { on := 11, ground := Go.Ground.phase }], guard := none }) (v := ?v73) rfl (by kernel_rfl) (by kernel_rfl) (by kernel_rfl) (fun _ _ _ h => h) (Or.inl ⟨by kernel_rfl, ?h73⟩) (by assumption) ?r73
        case h73 => (intro w hSw; (try dsimp only at hSw); go_simp; try with_reducible rfl)
        try simp only [Act.put, List.setIfInBounds_toArray, List.set_cons_zero, List.set_cons_succ]
        refine wpAnyH_done (by kernel_rfl) ?_ _
        replace ZB := Lib.hid (ZB.out.below hHeld ZB.out.lt)
        replace BL := Lib.hid (BL.out.trans (hHeld.mono BL.out.size))
        replace TB := Lib.hid (TB.out.below hHeld)
        replace SV := Lib.hid (SV.out.below hHeld)
        clear hHeld c0 c1 c2
        go_wp2
        go_roundw
        case rel => exact ⟨k + 1, by omega, by go_num, by rw [← hp1.out, hn2.out], BL, ZB, TB, SV⟩
        case measure => simp [intOf]; omega
      · have hn2 : Hid (p1 = u) := Lib.hid (by rw [hn1.out, hpk]; rfl)
        clear hn1 hpk
        go_wp2
        refine wp_drawn_on (fun W => Below wr.heap.size wr W) (by kernel_rfl) (below_drew (Below.refl _ _)) (fun hHeld => ?_)
        refine wpAnyH_take (i := 0) (oi := { dst := some 55, op := Go.Op.move (Go.Operand.tmp 7), type := 4, pos := "law.go:91", after := #[], guard := none }) (v := ?v74) rfl (by kernel_rfl) (by kernel_rfl) (by kernel_rfl) (fun _ _ _ h => h) (Or.inl ⟨by kernel_rfl, ?h74⟩) (by assumption) ?r74
        case h74 => (intro w hSw; (try dsimp only at hSw); go_simp; try with_reducible rfl)
        try simp only [Act.put, List.setIfInBounds_toArray, List.set_cons_zero, List.set_cons_succ]
        refine wpAnyH_take (i := 1) (oi := { dst := some 56, op := Go.Op.move (Go.Operand.tmp 55), type := 4, pos := "law.go:91", after := #[{ on := 0, ground := Go.Ground.data }], guard := none }) (v := ?v75) rfl (by kernel_rfl) (by kernel_rfl) (by kernel_rfl) (fun _ _ _ h => h) (Or.inl ⟨by kernel_rfl, ?h75⟩) (by assumption) ?r75
        case h75 => (intro w hSw; (try dsimp only at hSw); go_simp; try with_reducible rfl)
        try simp only [Act.put, List.setIfInBounds_toArray, List.set_cons_zero, List.set_cons_succ]
        refine wpAnyH_take (i := 2) (oi := { dst := some 57, op := Go.Op.move (Go.Operand.tmp 0), type := 47, pos := "law.go:91", after := #[{ on := 1, ground := Go.Ground.guard }], guard := some (1, true) }) (v := ?v76) rfl (by kernel_rfl) (by kernel_rfl) (by kernel_rfl) (fun _ _ _ h => h) (Or.inl ⟨by kernel_rfl, ?h76⟩) (by assumption) ?r76
        case h76 => (intro w hSw; (try dsimp only at hSw); go_simp; try with_reducible rfl)
        try simp only [Act.put, List.setIfInBounds_toArray, List.set_cons_zero, List.set_cons_succ]
        refine wpAnyH_take (i := 3) (oi := { dst := some 58, op := Go.Op.move (Go.Operand.tmp 8), type := 3, pos := "law.go:91", after := #[{ on := 1, ground := Go.Ground.guard }], guard := some (1, true) }) (v := ?v77) rfl (by kernel_rfl) (by kernel_rfl) (by kernel_rfl) (fun _ _ _ h => h) (Or.inl ⟨by kernel_rfl, ?h77⟩) (by assumption) ?r77
        case h77 => (intro w hSw; (try dsimp only at hSw); go_simp; try with_reducible rfl)
        try simp only [Act.put, List.setIfInBounds_toArray, List.set_cons_zero, List.set_cons_succ]
        refine wpAnyH_take (i := 4) (oi := { dst := some 59, op := Go.Op.indexAddr 47 (Go.Operand.tmp 57) (Go.Operand.tmp 58), type := 0, pos := "law.go:91", after := #[{ on := 2, ground := Go.Ground.data }, { on := 3, ground := Go.Ground.data }, { on := 1, ground := Go.Ground.guard }], guard := some (1, true) }) (v := ?v78) rfl (by kernel_rfl) (by kernel_rfl) (by kernel_rfl) (fun _ _ _ h => h) (Or.inl ⟨by kernel_rfl, ?h78⟩) (by assumption) ?r78
        case h78 => (intro w hSw; (try dsimp only at hSw); go_simp; try with_reducible rfl)
        try simp only [Act.put, List.setIfInBounds_toArray, List.set_cons_zero, List.set_cons_succ]
        refine wpAnyH_take (i := 5) (oi := { dst := some 60, op := Go.Op.load 38 (Go.Operand.tmp 59), type := 38, pos := "law.go:91", after := #[{ on := 4, ground := Go.Ground.data }, { on := 1, ground := Go.Ground.guard }], guard := some (1, true) }) (v := ?v79) rfl (by kernel_rfl) (by kernel_rfl) (by kernel_rfl) (fun _ _ _ h => h) (Or.inl ⟨by kernel_rfl, ?h79⟩) (by assumption) ?r79
        case h79 => (intro w hSw; (try dsimp only at hSw); go_simp; try with_reducible rfl)
        try simp only [Act.put, List.setIfInBounds_toArray, List.set_cons_zero, List.set_cons_succ]
        refine wpAnyH_take (i := 6) (oi := { dst := some 61, op := Go.Op.move (Go.Operand.tmp 1), type := 22, pos := "law.go:91", after := #[{ on := 1, ground := Go.Ground.guard }], guard := some (1, true) }) (v := ?v80) rfl (by kernel_rfl) (by kernel_rfl) (by kernel_rfl) (fun _ _ _ h => h) (Or.inl ⟨by kernel_rfl, ?h80⟩) (by assumption) ?r80
        case h80 => (intro w hSw; (try dsimp only at hSw); go_simp; try with_reducible rfl)
        try simp only [Act.put, List.setIfInBounds_toArray, List.set_cons_zero, List.set_cons_succ]
        refine wpAnyH_take (i := 7) (oi := { dst := some 62, op := Go.Op.move (Go.Operand.tmp 8), type := 3, pos := "law.go:91", after := #[{ on := 1, ground := Go.Ground.guard }], guard := some (1, true) }) (v := ?v81) rfl (by kernel_rfl) (by kernel_rfl) (by kernel_rfl) (fun _ _ _ h => h) (Or.inl ⟨by kernel_rfl, ?h81⟩) (by assumption) ?r81
        case h81 => (intro w hSw; (try dsimp only at hSw); go_simp; try with_reducible rfl)
        try simp only [Act.put, List.setIfInBounds_toArray, List.set_cons_zero, List.set_cons_succ]
        refine wpAnyH_take (i := 8) (oi := { dst := some 63, op := Go.Op.indexAddr 22 (Go.Operand.tmp 61) (Go.Operand.tmp 62), type := 0, pos := "law.go:91", after := #[{ on := 6, ground := Go.Ground.data }, { on := 7, ground := Go.Ground.data }, { on := 1, ground := Go.Ground.guard }], guard := some (1, true) }) (v := ?v82) rfl (by kernel_rfl) (by kernel_rfl) (by kernel_rfl) (fun _ _ _ h => h) (Or.inl ⟨by kernel_rfl, ?h82⟩) (by assumption) ?r82
        case h82 => (intro w hSw; (try dsimp only at hSw); go_simp; try with_reducible rfl)
        try simp only [Act.put, List.setIfInBounds_toArray, List.set_cons_zero, List.set_cons_succ]
        refine wpAnyH_take (i := 9) (oi := { dst := some 64, op := Go.Op.load 3 (Go.Operand.tmp 63), type := 3, pos := "law.go:91", after := #[{ on := 8, ground := Go.Ground.data }, { on := 1, ground := Go.Ground.guard }], guard := some (1, true) }) (v := ?v83) rfl (by kernel_rfl) (by kernel_rfl) (by kernel_rfl) (fun _ _ _ h => h) (Or.inl ⟨by kernel_rfl, ?h83⟩) (by assumption) ?r83
        case h83 => (intro w hSw; (try dsimp only at hSw); go_simp; try with_reducible rfl)
        try simp only [Act.put, List.setIfInBounds_toArray, List.set_cons_zero, List.set_cons_succ]
        refine wpAnyH_ready (rs := [10]) (by kernel_rfl) (by simp) ?_
        refine AllReadyH.cons (o := { dst := some 65, op := Go.Op.call { callee := Go.Callee.value (Go.Operand.func 33), args := #[Go.Operand.tmp 60, Go.Operand.tmp 64], argTypes := #[38, 3] }, type := 4, pos := "law.go:91", after := #[{ on := 5, ground := Go.Ground.data }, { on := 9, ground := Go.Ground.data }, { on := 1, ground := Go.Ground.chain }, { on := 1, ground := Go.Ground.guard }], guard := some (1, true) }) rfl (fun K hK => ?_) AllReadyH.nil
        go_simp
        with_reducible refine (qh.out _).mono ?_
        rintro e t10 ⟨rfl, b10⟩
        go_simp
        refine hK.out _ _ (hHeld.trans (b10.mono hHeld.size)) (fun hHeld => ?_)
        clear hK K
        try simp only [Act.put, List.setIfInBounds_toArray, List.set_cons_zero, List.set_cons_succ]
        refine wpAnyH_take (i := 11) (oi := { dst := some 66, op := Go.Op.pick (Go.Operand.tmp 56) (Go.Operand.tmp 65) (Go.Operand.const (Go.Value.bool false)), type := 4, pos := "law.go:91", after := #[{ on := 1, ground := Go.Ground.data }, { on := 10, ground := Go.Ground.data }], guard := none }) (v := ?v84) rfl (by kernel_rfl) (by kernel_rfl) (by kernel_rfl) (fun _ _ _ h => h) (Or.inl ⟨by kernel_rfl, ?h84⟩) (by assumption) ?r84
        case h84 => (intro w hSw; (try dsimp only at hSw); go_simp; try with_reducible rfl)
        try simp only [Act.put, List.setIfInBounds_toArray, List.set_cons_zero, List.set_cons_succ]
        refine wpAnyH_take (i := 12) (oi := { dst := some 7, op := Go.Op.assign (Go.Operand.tmp 66), type := 4, pos := "law.go:91", after := #[{ on := 11, ground := Go.Ground.data }, { on := 10, ground := Go.Ground.chain }, { on := 0, ground := Go.Ground.phase }, { on := 1, ground := Go.Ground.phase }, { on := 2, ground := Go.Ground.phase }, { on := 3, ground := Go.Ground.phase }, { on := 4, ground := Go.Ground.phase }, { on := 5, ground := Go.Ground.phase }, { on := 6, ground := Go.Ground.phase }, { on := 7, ground := Go.Ground.phase }, { on := 8, ground := Go.Ground.phase }, { on := 9, ground := Go.Ground.phase }, { on := 10, ground := Go.Ground.phase }, { on := 11, ground := Go.Ground.phase }], guard := none }) (v := ?v85) rfl (by kernel_rfl) (by kernel_rfl) (by kernel_rfl) (fun _ _ _ h => h) (Or.inl ⟨by kernel_rfl, ?h85⟩) (by assumption) ?r85
        case h85 => (intro w hSw; (try dsimp only at hSw); go_simp; try with_reducible rfl)
        try simp only [Act.put, List.setIfInBounds_toArray, List.set_cons_zero, List.set_cons_succ]
        refine wpAnyH_done (by kernel_rfl) ?_ _
        replace ZB := Lib.hid (ZB.out.below hHeld ZB.out.lt)
        replace BL := Lib.hid (BL.out.trans (hHeld.mono BL.out.size))
        replace TB := Lib.hid (TB.out.below hHeld)
        replace SV := Lib.hid (SV.out.below hHeld)
        clear hHeld c0 c1 c2
        go_wp2
        go_roundw
        case rel => exact ⟨k + 1, by omega, by go_num, by rw [← hp1.out, hn2.out], BL, ZB, TB, SV⟩
        case measure => simp [intOf]; omega
    · have hke : k = n := by omega
      subst hke
      generalize P k = p1 at *
      have hkn : ¬ ((k : Int) < (k : Int)) := by omega
      go_wp2
      have k201 : ∀ W, Below wr.heap.size wr W → W.cell? ⟨v1.heap.size, 0, none⟩ = some (.int .i64 k) := fun W hW => (ZB.out.below hW ZB.out.lt).cell 0
      have k202 : ∀ W, Below wr.heap.size wr W → W.cell? ⟨v1.heap.size, 1, none⟩ = some (.slice aB mB dB) := fun W hW => (ZB.out.below hW ZB.out.lt).cell 1
      have qv := Lib.hid (fun W (hW : Below wr.heap.size wr W) => SV.out.below hW)
      have qb := Lib.hid (fun W (hW : Below wr.heap.size wr W) => TB.out.below hW)
      have qi := Lib.hid (fun W (hW : Below wr.heap.size wr W) => its_up (hI0.out.below (BL.out.trans (hW.mono BL.out.size))) (Nat.le_trans BL.out.size hW.size))
      refine wp_drawn_on (fun W => Below wr.heap.size wr W) (by kernel_rfl) (below_drew (Below.refl _ _)) (fun hHeld => ?_)
      refine wpAnyH_take (i := 0) (oi := { dst := some 67, op := Go.Op.move (Go.Operand.tmp 6), type := 27, pos := "law.go:93", after := #[], guard := none }) (v := ?v86) rfl (by kernel_rfl) (by kernel_rfl) (by kernel_rfl) (fun _ _ _ h => h) (Or.inl ⟨by kernel_rfl, ?h86⟩) (by assumption) ?r86
      case h86 => (intro w hSw; (try dsimp only at hSw); go_simp; try with_reducible rfl)
      try simp only [Act.put, List.setIfInBounds_toArray, List.set_cons_zero, List.set_cons_succ]
      refine wpAnyH_take (i := 1) (oi := { dst := some 68, op := Go.Op.binOp Go.BinOp.neq 27 (Go.Operand.tmp 67) (Go.Operand.const (Go.Value.int Go.IntKind.i64 0)) 27, type := 4, pos := "law.go:93", after := #[{ on := 0, ground := Go.Ground.data }], guard := none }) (v := ?v87) rfl (by kernel_rfl) (by kernel_rfl) (by kernel_rfl) (fun _ _ _ h => h) (Or.inl ⟨by kernel_rfl, ?h87⟩) (by assumption) ?r87
      case h87 => (intro w hSw; (try dsimp only at hSw); go_simp; try with_reducible rfl)
      try simp only [Act.put, List.setIfInBounds_toArray, List.set_cons_zero, List.set_cons_succ]
      refine wpAnyH_take (i := 2) (oi := { dst := some 69, op := Go.Op.move (Go.Operand.tmp 68), type := 4, pos := "law.go:93", after := #[{ on := 1, ground := Go.Ground.data }], guard := none }) (v := ?v88) rfl (by kernel_rfl) (by kernel_rfl) (by kernel_rfl) (fun _ _ _ h => h) (Or.inl ⟨by kernel_rfl, ?h88⟩) (by assumption) ?r88
      case h88 => (intro w hSw; (try dsimp only at hSw); go_simp; try with_reducible rfl)
      try simp only [Act.put, List.setIfInBounds_toArray, List.set_cons_zero, List.set_cons_succ]
      refine wpAnyH_take (i := 3) (oi := { dst := some 70, op := Go.Op.load 24 (Go.Operand.tmp 5), type := 24, pos := "law.go:93", after := #[{ on := 2, ground := Go.Ground.guard }], guard := some (2, false) }) (v := ?v89) rfl (by kernel_rfl) (by kernel_rfl) (by kernel_rfl) (fun _ _ _ h => h) (Or.inl ⟨by kernel_rfl, ?h89⟩) (by assumption) ?r89
      case h89 => (intro w hSw; (try dsimp only at hSw); go_simp; try with_reducible rfl)
      try simp only [Act.put, List.setIfInBounds_toArray, List.set_cons_zero, List.set_cons_succ]
      refine wpAnyH_take (i := 4) (oi := { dst := some 71, op := Go.Op.move (Go.Operand.tmp 0), type := 47, pos := "law.go:93", after := #[{ on := 2, ground := Go.Ground.guard }], guard := some (2, false) }) (v := ?v90) rfl (by kernel_rfl) (by kernel_rfl) (by kernel_rfl) (fun _ _ _ h => h) (Or.inl ⟨by kernel_rfl, ?h90⟩) (by assumption) ?r90
      case h90 => (intro w hSw; (try dsimp only at hSw); go_simp; try with_reducible rfl)
      try simp only [Act.put, List.setIfInBounds_toArray, List.set_cons_zero, List.set_cons_succ]
      refine wpAnyH_ready (rs := [5]) (by kernel_rfl) (by simp) ?_
      refine AllReadyH.cons (o := { dst := some 72, op := Go.Op.call { callee := Go.Callee.value (Go.Operand.func 34), args := #[Go.Operand.tmp 71], argTypes := #[47] }, type := 24, pos := "law.go:93", after := #[{ on := 4, ground := Go.Ground.data }, { on := 2, ground := Go.Ground.chain }, { on := 2, ground := Go.Ground.guard }], guard := some (2, false) }) rfl (fun K hK => ?_) AllReadyH.nil
      go_simp
      with_reducible refine (QR.out _ (qi.out _ hHeld)).mono ?_
      rintro e t5 ⟨aR, mR, dR, rfl, sR, b5⟩
      have hs := Lib.hid (rself_any k aB aR R mB mR dB dR t5 (qb.out _ (hHeld.trans (b5.mono hHeld.size))) sR)
      go_simp
      refine hK.out _ _ (hHeld.trans (b5.mono hHeld.size)) (fun hHeld => ?_)
      clear hK K
      try simp only [Act.put, List.setIfInBounds_toArray, List.set_cons_zero, List.set_cons_succ]
      refine wpAnyH_ready (rs := [6]) (by kernel_rfl) (by simp) ?_
      refine AllReadyH.cons (o := { dst := some 73, op := Go.Op.call { callee := Go.Callee.value (Go.Operand.func 16), args := #[Go.Operand.tmp 70, Go.Operand.tmp 72], argTypes := #[24, 24] }, type := 4, pos := "law.go:93", after := #[{ on := 3, ground := Go.Ground.data }, { on := 5, ground := Go.Ground.data }, { on := 5, ground := Go.Ground.chain }, { on := 2, ground := Go.Ground.guard }], guard := some (2, false) }) rfl (fun K hK => ?_) AllReadyH.nil
      go_simp
      with_reducible refine hs.out.mono ?_
      rintro e t6 ⟨rfl, b6⟩
      go_simp
      refine hK.out _ _ (hHeld.trans (b6.mono hHeld.size)) (fun hHeld => ?_)
      clear hK K
      try simp only [Act.put, List.setIfInBounds_toArray, List.set_cons_zero, List.set_cons_succ]
      refine wpAnyH_take (i := 7) (oi := { dst := some 74, op := Go.Op.unOp Go.UnOp.not 4 (Go.Operand.tmp 73), type := 4, pos := "law.go:93", after := #[{ on := 6, ground := Go.Ground.data }, { on := 2, ground := Go.Ground.guard }], guard := some (2, false) }) (v := ?v91) rfl (by kernel_rfl) (by kernel_rfl) (by kernel_rfl) (fun _ _ _ h => h) (Or.inl ⟨by kernel_rfl, ?h91⟩) (by assumption) ?r91
      case h91 => (intro w hSw; (try dsimp only at hSw); go_simp; try with_reducible rfl)
      try simp only [Act.put, List.setIfInBounds_toArray, List.set_cons_zero, List.set_cons_succ]
      refine wpAnyH_take (i := 8) (oi := { dst := some 75, op := Go.Op.pick (Go.Operand.tmp 69) (Go.Operand.const (Go.Value.bool true)) (Go.Operand.tmp 74), type := 4, pos := "law.go:93", after := #[{ on := 2, ground := Go.Ground.data }, { on := 7, ground := Go.Ground.data }], guard := none }) (v := ?v92) rfl (by kernel_rfl) (by kernel_rfl) (by kernel_rfl) (fun _ _ _ h => h) (Or.inl ⟨by kernel_rfl, ?h92⟩) (by assumption) ?r92
      case h92 => (intro w hSw; (try dsimp only at hSw); go_simp; try with_reducible rfl)
      try simp only [Act.put, List.setIfInBounds_toArray, List.set_cons_zero, List.set_cons_succ]
      refine wpAnyH_take (i := 9) (oi := { dst := some 76, op := Go.Op.move (Go.Operand.tmp 75), type := 4, pos := "law.go:93", after := #[{ on := 8, ground := Go.Ground.data }, { on := 6, ground := Go.Ground.chain }], guard := none }) (v := ?v93) rfl (by kernel_rfl) (by kernel_rfl) (by kernel_rfl) (fun _ _ _ h => h) (Or.inl ⟨by kernel_rfl, ?h93⟩) (by assumption) ?r93
      case h93 => (intro w hSw; (try dsimp only at hSw); go_simp; try with_reducible rfl)
      try simp only [Act.put, List.setIfInBounds_toArray, List.set_cons_zero, List.set_cons_succ]
      refine wpAnyH_take (i := 10) (oi := { dst := some 77, op := Go.Op.load 24 (Go.Operand.tmp 5), type := 24, pos := "law.go:93", after := #[{ on := 9, ground := Go.Ground.guard }], guard := some (9, false) }) (v := ?v94) rfl (by kernel_rfl) (by kernel_rfl) (by kernel_rfl) (fun _ _ _ h => h) (Or.inl ⟨by kernel_rfl, ?h94⟩) (by assumption) ?r94
      case h94 => (intro w hSw; (try dsimp only at hSw); go_simp; try with_reducible rfl)
      try simp only [Act.put, List.setIfInBounds_toArray, List.set_cons_zero, List.set_cons_succ]
      refine wpAnyH_take (i := 11) (oi := { dst := some 78, op := Go.Op.move (Go.Operand.tmp 1), type := 22, pos := "law.go:93", after := #[{ on := 9, ground := Go.Ground.guard }], guard := some (9, false) }) (v := ?v95) rfl (by kernel_rfl) (by kernel_rfl) (by kernel_rfl) (fun _ _ _ h => h) (Or.inl ⟨by kernel_rfl, ?h95⟩) (by assumption) ?r95
      case h95 => (intro w hSw; (try dsimp only at hSw); go_simp; try with_reducible rfl)
      try simp only [Act.put, List.setIfInBounds_toArray, List.set_cons_zero, List.set_cons_succ]
      refine wpAnyH_take (i := 13) (oi := { dst := some 80, op := Go.Op.move (Go.Operand.tmp 7), type := 4, pos := "law.go:93", after := #[{ on := 9, ground := Go.Ground.guard }], guard := some (9, false) }) (v := ?v96) rfl (by kernel_rfl) (by kernel_rfl) (by kernel_rfl) (fun _ _ _ h => h) (Or.inl ⟨by kernel_rfl, ?h96⟩) (by assumption) ?r96
      case h96 => (intro w hSw; (try dsimp only at hSw); go_simp; try with_reducible rfl)
      try simp only [Act.put, List.setIfInBounds_toArray, List.set_cons_zero, List.set_cons_succ]
      refine wpAnyH_ready (rs := [12]) (by kernel_rfl) (by simp) ?_
      refine AllReadyH.cons (o := { dst := some 79, op := Go.Op.call { callee := Go.Callee.value (Go.Operand.func 35), args := #[Go.Operand.tmp 77, Go.Operand.tmp 78], argTypes := #[24, 22] }, type := 4, pos := "law.go:93", after := #[{ on := 10, ground := Go.Ground.data }, { on := 11, ground := Go.Ground.data }, { on := 9, ground := Go.Ground.chain }, { on := 9, ground := Go.Ground.guard }], guard := some (9, false) }) rfl (fun K hK => ?_) AllReadyH.nil
      go_simp
      with_reducible refine (QH.out _ aB dB (qb.out _ hHeld) (qv.out _ hHeld)).mono ?_
      rintro e t12 ⟨rfl, b12⟩
      go_simp
      refine hK.out _ _ (hHeld.trans (b12.mono hHeld.size)) (fun hHeld => ?_)
      clear hK K
      try simp only [Act.put, List.setIfInBounds_toArray, List.set_cons_zero, List.set_cons_succ]
      refine wpAnyH_take (i := 14) (oi := { dst := some 81, op := Go.Op.binOp Go.BinOp.neq 4 (Go.Operand.tmp 79) (Go.Operand.tmp 80) 4, type := 4, pos := "law.go:93", after := #[{ on := 12, ground := Go.Ground.data }, { on := 13, ground := Go.Ground.data }, { on := 9, ground := Go.Ground.guard }], guard := some (9, false) }) (v := ?v97) rfl (by kernel_rfl) (by kernel_rfl) (by kernel_rfl) (fun _ _ _ h => h) (Or.inl ⟨by kernel_rfl, ?h97⟩) (by assumption) ?r97
      case h97 => (intro w hSw; (try dsimp only at hSw); go_simp; try with_reducible rfl)
      try simp only [Act.put, List.setIfInBounds_toArray, List.set_cons_zero, List.set_cons_succ]
      refine wpAnyH_take (i := 15) (oi := { dst := some 82, op := Go.Op.pick (Go.Operand.tmp 76) (Go.Operand.const (Go.Value.bool true)) (Go.Operand.tmp 81), type := 4, pos := "law.go:93", after := #[{ on := 9, ground := Go.Ground.data }, { on := 14, ground := Go.Ground.data }], guard := none }) (v := ?v98) rfl (by kernel_rfl) (by kernel_rfl) (by kernel_rfl) (fun _ _ _ h => h) (Or.inl ⟨by kernel_rfl, ?h98⟩) (by assumption) ?r98
      case h98 => (intro w hSw; (try dsimp only at hSw); go_simp; try with_reducible rfl)
      try simp only [Act.put, List.setIfInBounds_toArray, List.set_cons_zero, List.set_cons_succ]
      refine wpAnyH_done (by kernel_rfl) ?_ _
      clear k201 k202
      replace ZB := Lib.hid (ZB.out.below hHeld ZB.out.lt)
      replace BL := Lib.hid (BL.out.trans (hHeld.mono BL.out.size))
      replace TB := Lib.hid (TB.out.below hHeld)
      replace SV := Lib.hid (SV.out.below hHeld)
      clear hHeld qv qb qi QR QH
      go_wp2
      go_loopw [9] (fun x wq => ∃ t : Nat, t ≤ k ∧ x = .int .i64 t ∧ Hid (Below w.heap.size w wq) ∧ Hid (Holds wq v1.heap.size 24 #[.int .i64 k, .slice aB mB dB]) ∧ Hid (SL wq aB mB dB R) ∧ Hid (SL wq av mv cv v)) (fun x _ => k - (intOf x).toNat)
      case atStart => exact ⟨0, by omega, rfl, BL, ZB, TB, SV⟩
      case round =>
        clear BL ZB TB SV
        obtain ⟨i, hi, rfl, BL, ZB, TB, SV⟩ := hrel
        have k301 := ZB.out.cell 0
        have k302 := ZB.out.cell 1
        by_cases hlt2 : i < k
        · have k1 : (i : Int) < (k : Int) := by omega
          obtain ⟨b, off, ea, hb, i0, i1⟩ := hI0.out.at_ (k := i) (by have := hx'.out; omega)
          subst ea
          have hwb := BL.out.size
          have ku : IntKind.i64.wrap ((i : Int) + 1) = (i : Int) + 1 := wrap_small (by omega) (by omega)
          have qi := QI.out i hlt2
          rw [hit.out i hlt2, show ((i + 1 : Nat) : Int) = (i : Int) + 1 by omega] at qi
          have qi := Lib.hid qi
          have qp := Lib.hid (QP.out i)
          generalize (xs.getD i (0, 0)).1 = x at *
          generalize (xs.getD i (0, 0)).2 = y at *
          have q := Lib.hid (qi.out _ aB dB TB.out)
          go_wp2_with fail
          with_reducible refine q.out.mono ?_
          rintro e s1 ⟨rfl, b1⟩
          clear k301 k302
          clear q qi
          have B0 := box_below s1 #[.int .i64 1, .int .i64 0] 38
          have B := b1.trans (B0.mono b1.size)
          replace ZB := Lib.hid (ZB.out.below B ZB.out.lt)
          replace BL := Lib.hid (BL.out.trans (B.mono BL.out.size))
          replace TB := Lib.hid (TB.out.below B)
          replace SV := Lib.hid (SV.out.below B)
          have ZI := Lib.hid (Holds.new s1 38 #[.int .i64 1, .int .i64 0])
          clear b1 B B0
          go_wp2
          generalize (s1.alloc (.cells #[.int .i64 1, .int .i64 0] 38)) = V at *
          have k401 : ∀ W, Below V.heap.size V W → W.cell? ⟨v1.heap.size, 0, none⟩ = some (.int .i64 k) := fun W hW => (ZB.out.below hW ZB.out.lt).cell 0
          have k402 : ∀ W, Below V.heap.size V W → W.cell? ⟨v1.heap.size, 1, none⟩ = some (.slice aB mB dB) := fun W hW => (ZB.out.below hW ZB.out.lt).cell 1
          have k403 : ∀ W, Below V.heap.size V W → W.cell? ⟨s1.heap.size, 0, none⟩ = some (.int .i64 1) := fun W hW => (ZI.out.below hW ZI.out.lt).cell 0
          have k404 : ∀ W, Below V.heap.size V W → W.cell? ⟨s1.heap.size, 1, none⟩ = some (.int .i64 0) := fun W hW => (ZI.out.below hW ZI.out.lt).cell 1
          have hbz := BL.out.size
          skip
          have qb := Lib.hid (fun W (hW : Below V.heap.size V W) => TB.out.below hW)
          refine wp_drawn_on (fun W => Below V.heap.size V W) (by kernel_rfl) (below_drew (Below.refl _ _)) (fun hHeld => ?_)
          refine wpAnyH_take (i := 0) (oi := { dst := some 96, op := Go.Op.move (Go.Operand.tmp 11), type := 27, pos := "law.go:98", after := #[], guard := none }) (v := ?v99) rfl (by kernel_rfl) (by kernel_rfl) (by kernel_rfl) (fun _ _ _ h => h) (Or.inl ⟨by kernel_rfl, ?h99⟩) (by assumption) ?r99
          case h99 => (intro w hSw; (try dsimp only at hSw); go_simp; try with_reducible rfl)
          try simp only [Act.put, List.setIfInBounds_toArray, List.set_cons_zero, List.set_cons_succ]
          refine wpAnyH_take (i := 1) (oi := { dst := some 97, op := Go.Op.binOp Go.BinOp.neq 27 (Go.Operand.tmp 96) (Go.Operand.const (Go.Value.int Go.IntKind.i64 0)) 27, type := 4, pos := "law.go:98", after := #[{ on := 0, ground := Go.Ground.data }], guard := none }) (v := ?v100) rfl (by kernel_rfl) (by kernel_rfl) (by kernel_rfl) (fun _ _ _ h => h) (Or.inl ⟨by kernel_rfl, ?h100⟩) (by assumption) ?r100
          case h100 => (intro w hSw; (try dsimp only at hSw); go_simp; try with_reducible rfl)
          try simp only [Act.put, List.setIfInBounds_toArray, List.set_cons_zero, List.set_cons_succ]
          refine wpAnyH_take (i := 2) (oi := { dst := some 98, op := Go.Op.move (Go.Operand.tmp 97), type := 4, pos := "law.go:98", after := #[{ on := 1, ground := Go.Ground.data }], guard := none }) (v := ?v101) rfl (by kernel_rfl) (by kernel_rfl) (by kernel_rfl) (fun _ _ _ h => h) (Or.inl ⟨by kernel_rfl, ?h101⟩) (by assumption) ?r101
          case h101 => (intro w hSw; (try dsimp only at hSw); go_simp; try with_reducible rfl)
          try simp only [Act.put, List.setIfInBounds_toArray, List.set_cons_zero, List.set_cons_succ]
          refine wpAnyH_take (i := 3) (oi := { dst := some 99, op := Go.Op.load 24 (Go.Operand.tmp 5), type := 24, pos := "law.go:98", after := #[{ on := 2, ground := Go.Ground.guard }], guard := some (2, false) }) (v := ?v102) rfl (by kernel_rfl) (by kernel_rfl) (by kernel_rfl) (fun _ _ _ h => h) (Or.inl ⟨by kernel_rfl, ?h102⟩) (by assumption) ?r102
          case h102 => (intro w hSw; (try dsimp only at hSw); go_simp; try with_reducible rfl)
          try simp only [Act.put, List.setIfInBounds_toArray, List.set_cons_zero, List.set_cons_succ]
          refine wpAnyH_ready (rs := [4]) (by kernel_rfl) (by simp) ?_
          refine AllReadyH.cons (o := { dst := some 100, op := Go.Op.call { callee := Go.Callee.value (Go.Operand.func 36), args := #[Go.Operand.tmp 99], argTypes := #[24] }, type := 4, pos := "law.go:98", after := #[{ on := 3, ground := Go.Ground.data }, { on := 2, ground := Go.Ground.chain }, { on := 2, ground := Go.Ground.guard }], guard := some (2, false) }) rfl (fun K hK => ?_) AllReadyH.nil
          go_simp
          with_reducible refine (QE.out _ aB dB (qb.out _ hHeld)).mono ?_
          rintro e t4 ⟨rfl, b4⟩
          go_simp
          refine hK.out _ _ (hHeld.trans (b4.mono hHeld.size)) (fun hHeld => ?_)
          clear hK K
          try simp only [Act.put, List.setIfInBounds_toArray, List.set_cons_zero, List.set_cons_succ]
          refine wpAnyH_take (i := 5) (oi := { dst := some 101, op := Go.Op.unOp Go.UnOp.not 4 (Go.Operand.tmp 100), type := 4, pos := "law.go:98", after := #[{ on := 4, ground := Go.Ground.data }, { on := 2, ground := Go.Ground.guard }], guard := some (2, false) }) (v := ?v103) rfl (by kernel_rfl) (by kernel_rfl) (by kernel_rfl) (fun _ _ _ h => h) (Or.inl ⟨by kernel_rfl, ?h103⟩) (by assumption) ?r103
          case h103 => (intro w hSw; (try dsimp only at hSw); go_simp; try with_reducible rfl)
          try simp only [Act.put, List.setIfInBounds_toArray, List.set_cons_zero, List.set_cons_succ]
          refine wpAnyH_take (i := 6) (oi := { dst := some 102, op := Go.Op.move (Go.Operand.tmp 101), type := 4, pos := "law.go:98", after := #[{ on := 5, ground := Go.Ground.data }, { on := 4, ground := Go.Ground.chain }, { on := 2, ground := Go.Ground.guard }], guard := some (2, false) }) (v := ?v104) rfl (by kernel_rfl) (by kernel_rfl) (by kernel_rfl) (fun _ _ _ h => h) (Or.inl ⟨by kernel_rfl, ?h104⟩) (by assumption) ?r104
          case h104 => (intro w hSw; (try dsimp only at hSw); go_simp; try with_reducible rfl)
          try simp only [Act.put, List.setIfInBounds_toArray, List.set_cons_zero, List.set_cons_succ]
          refine wpAnyH_take (i := 7) (oi := { dst := some 103, op := Go.Op.load 38 (Go.Operand.tmp 10), type := 38, pos := "law.go:98", after := #[{ on := 6, ground := Go.Ground.guard }], guard := some (6, true) }) (v := undef) rfl (by kernel_rfl) (by kernel_rfl) (by kernel_rfl) (fun _ _ _ h => h) (Or.inr ⟨by kernel_rfl, rfl⟩) (by assumption) ?_
          try simp only [Act.put, List.setIfInBounds_toArray, List.set_cons_zero, List.set_cons_succ]
          refine wpAnyH_take (i := 8) (oi := { dst := some 104, op := Go.Op.move (Go.Operand.tmp 0), type := 47, pos := "law.go:98", after := #[{ on := 6, ground := Go.Ground.guard }], guard := some (6, true) }) (v := undef) rfl (by kernel_rfl) (by kernel_rfl) (by kernel_rfl) (fun _ _ _ h => h) (Or.inr ⟨by kernel_rfl, rfl⟩) (by assumption) ?_
          try simp only [Act.put, List.setIfInBounds_toArray, List.set_cons_zero, List.set_cons_succ]
          refine wpAnyH_take (i := 9) (oi := { dst := some 105, op := Go.Op.move (Go.Operand.tmp 9), type := 3, pos := "law.go:98", after := #[{ on := 6, ground := Go.Ground.guard }], guard := some (6, true) }) (v := undef) rfl (by kernel_rfl) (by kernel_rfl) (by kernel_rfl) (fun _ _ _ h => h) (Or.inr ⟨by kernel_rfl, rfl⟩) (by assumption) ?_
          try simp only [Act.put, List.setIfInBounds_toArray, List.set_cons_zero, List.set_cons_succ]
          refine wpAnyH_take (i := 10) (oi := { dst := some 106, op := Go.Op.indexAddr 47 (Go.Operand.tmp 104) (Go.Operand.tmp 105), type := 0, pos := "law.go:98", after := #[{ on := 8, ground := Go.Ground.data }, { on := 9, ground := Go.Ground.data }, { on := 6, ground := Go.Ground.guard }], guard := some (6, true) }) (v := undef) rfl (by kernel_rfl) (by kernel_rfl) (by kernel_rfl) (fun _ _ _ h => h) (Or.inr ⟨by kernel_rfl, rfl⟩) (by assumption) ?_
          try simp only [Act.put, List.setIfInBounds_toArray, List.set_cons_zero, List.set_cons_succ]
          refine wpAnyH_take (i := 11) (oi := { dst := some 107, op := Go.Op.load 38 (Go.Operand.tmp 106), type := 38, pos := "law.go:98", after := #[{ on := 10, ground := Go.Ground.data }, { on := 6, ground := Go.Ground.guard }], guard := some (6, true) }) (v := undef) rfl (by kernel_rfl) (by kernel_rfl) (by kernel_rfl) (fun _ _ _ h => h) (Or.inr ⟨by kernel_rfl, rfl⟩) (by assumption) ?_
          try simp only [Act.put, List.setIfInBounds_toArray, List.set_cons_zero, List.set_cons_succ]
          refine wpAnyH_take (i := 12) (oi := { dst := some 108, op := Go.Op.call { callee := Go.Callee.value (Go.Operand.func 37), args := #[Go.Operand.tmp 107], argTypes := #[38] }, type := 38, pos := "law.go:98", after := #[{ on := 11, ground := Go.Ground.data }, { on := 6, ground := Go.Ground.chain }, { on := 6, ground := Go.Ground.guard }], guard := some (6, true) }) (v := undef) rfl (by kernel_rfl) (by kernel_rfl) (by kernel_rfl) (fun _ _ _ h => h) (Or.inr ⟨by kernel_rfl, rfl⟩) (by assumption) ?_
          try simp only [Act.put, List.setIfInBounds_toArray, List.set_cons_zero, List.set_cons_succ]
          refine wpAnyH_take (i := 13) (oi := { dst := some 109, op := Go.Op.binOp Go.BinOp.neq 38 (Go.Operand.tmp 103) (Go.Operand.tmp 108) 38, type := 4, pos := "law.go:98", after := #[{ on := 7, ground := Go.Ground.data }, { on := 12, ground := Go.Ground.data }, { on := 6, ground := Go.Ground.guard }], guard := some (6, true) }) (v := undef) rfl (by kernel_rfl) (by kernel_rfl) (by kernel_rfl) (fun _ _ _ h => h) (Or.inr ⟨by kernel_rfl, rfl⟩) (by assumption) ?_
          try simp only [Act.put, List.setIfInBounds_toArray, List.set_cons_zero, List.set_cons_succ]
          refine wpAnyH_take (i := 14) (oi := { dst := some 110, op := Go.Op.pick (Go.Operand.tmp 102) (Go.Operand.tmp 109) (Go.Operand.const (Go.Value.bool false)), type := 4, pos := "law.go:98", after := #[{ on := 6, ground := Go.Ground.data }, { on := 13, ground := Go.Ground.data }, { on := 2, ground := Go.Ground.guard }], guard := some (2, false) }) (v := ?v112) rfl (by kernel_rfl) (by kernel_rfl) (by kernel_rfl) (fun _ _ _ h => h) (Or.inl ⟨by kernel_rfl, ?h112⟩) (by assumption) ?r112
          case h112 => (intro w hSw; (try dsimp only at hSw); go_simp; try with_reducible rfl)
          try simp only [Act.put, List.setIfInBounds_toArray, List.set_cons_zero, List.set_cons_succ]
          refine wpAnyH_take (i := 15) (oi := { dst := some 111, op := Go.Op.pick (Go.Operand.tmp 98) (Go.Operand.const (Go.Value.bool true)) (Go.Operand.tmp 110), type := 4, pos := "law.go:98", after := #[{ on := 2, ground := Go.Ground.data }, { on := 14, ground := Go.Ground.data }], guard := none }) (v := ?v113) rfl (by kernel_rfl) (by kernel_rfl) (by kernel_rfl) (fun _ _ _ h => h) (Or.inl ⟨by kernel_rfl, ?h113⟩) (by assumption) ?r113
          case h113 => (intro w hSw; (try dsimp only at hSw); go_simp; try with_reducible rfl)
          try simp only [Act.put, List.setIfInBounds_toArray, List.set_cons_zero, List.set_cons_succ]
          refine wpAnyH_take (i := 16) (oi := { dst := some 112, op := Go.Op.move (Go.Operand.tmp 111), type := 4, pos := "law.go:98", after := #[{ on := 15, ground := Go.Ground.data }, { on := 12, ground := Go.Ground.chain }], guard := none }) (v := ?v114) rfl (by kernel_rfl) (by kernel_rfl) (by kernel_rfl) (fun _ _ _ h => h) (Or.inl ⟨by kernel_rfl, ?h114⟩) (by assumption) ?r114
          case h114 => (intro w hSw; (try dsimp only at hSw); go_simp; try with_reducible rfl)
          try simp only [Act.put, List.setIfInBounds_toArray, List.set_cons_zero, List.set_cons_succ]
          refine wpAnyH_take (i := 17) (oi := { dst := some 113, op := Go.Op.load 24 (Go.Operand.tmp 5), type := 24, pos := "law.go:98", after := #[{ on := 16, ground := Go.Ground.guard }], guard := some (16, false) }) (v := ?v115) rfl (by kernel_rfl) (by kernel_rfl) (by kernel_rfl) (fun _ _ _ h => h) (Or.inl ⟨by kernel_rfl, ?h115⟩) (by assumption) ?r115
          case h115 => (intro w hSw; (try dsimp only at hSw); go_simp; try with_reducible rfl)
          try simp only [Act.put, List.setIfInBounds_toArray, List.set_cons_zero, List.set_cons_succ]
          refine wpAnyH_ready (rs := [18]) (by kernel_rfl) (by simp) ?_
          refine AllReadyH.cons (o := { dst := some 114, op := Go.Op.call { callee := Go.Callee.value (Go.Operand.func 36), args := #[Go.Operand.tmp 113], argTypes := #[24] }, type := 4, pos := "law.go:98", after := #[{ on := 17, ground := Go.Ground.data }, { on := 16, ground := Go.Ground.chain }, { on := 16, ground := Go.Ground.guard }], guard := some (16, false) }) rfl (fun K hK => ?_) AllReadyH.nil
          go_simp
          with_reducible refine (QE.out _ aB dB (qb.out _ hHeld)).mono ?_
          rintro e t18 ⟨rfl, b18⟩
          go_simp
          refine hK.out _ _ (hHeld.trans (b18.mono hHeld.size)) (fun hHeld => ?_)
          clear hK K
          try simp only [Act.put, List.setIfInBounds_toArray, List.set_cons_zero, List.set_cons_succ]
          refine wpAnyH_take (i := 19) (oi := { dst := some 115, op := Go.Op.move (Go.Operand.tmp 114), type := 4, pos := "law.go:98", after := #[{ on := 18, ground := Go.Ground.data }, { on := 18, ground := Go.Ground.chain }, { on := 16, ground := Go.Ground.guard }], guard := some (16, false) }) (v := ?v116) rfl (by kernel_rfl) (by kernel_rfl) (by kernel_rfl) (fun _ _ _ h => h) (Or.inl ⟨by kernel_rfl, ?h116⟩) (by assumption) ?r116
          case h116 => (intro w hSw; (try dsimp only at hSw); go_simp; try with_reducible rfl)
          try simp only [Act.put, List.setIfInBounds_toArray, List.set_cons_zero, List.set_cons_succ]
          refine wpAnyH_take (i := 20) (oi := { dst := some 116, op := Go.Op.load 38 (Go.Operand.tmp 10), type := 38, pos := "law.go:98", after := #[{ on := 19, ground := Go.Ground.guard }], guard := some (19, true) }) (v := ?v117) rfl (by kernel_rfl) (by kernel_rfl) (by kernel_rfl) (fun _ _ _ h => h) (Or.inl ⟨by kernel_rfl, ?h117⟩) (by assumption) ?r117
          case h117 => (intro w hSw; (try dsimp only at hSw); go_simp; try with_reducible rfl)
          try simp only [Act.put, List.setIfInBounds_toArray, List.set_cons_zero, List.set_cons_succ]
          refine wpAnyH_ready (rs := [21]) (by kernel_rfl) (by simp) ?_
          refine AllReadyH.cons (o := { dst := some 117, op := Go.Op.call { callee := Go.Callee.value (Go.Operand.func 38), args := #[], argTypes := #[] }, type := 38, pos := "law.go:98", after := #[{ on := 19, ground := Go.Ground.chain }, { on := 19, ground := Go.Ground.guard }], guard := some (19, true) }) rfl (fun K hK => ?_) AllReadyH.nil
          go_simp
          with_reducible refine (QN.out _).mono ?_
          rintro e t21 ⟨rfl, b21⟩
          go_simp
          refine hK.out _ _ (hHeld.trans (b21.mono hHeld.size)) (fun hHeld => ?_)
          clear hK K
          try simp only [Act.put, List.setIfInBounds_toArray, List.set_cons_zero, List.set_cons_succ]
          refine wpAnyH_take (i := 22) (oi := { dst := some 118, op := Go.Op.binOp Go.BinOp.neq 38 (Go.Operand.tmp 116) (Go.Operand.tmp 117) 38, type := 4, pos := "law.go:98", after := #[{ on := 20, ground := Go.Ground.data }, { on := 21, ground := Go.Ground.data }, { on := 19, ground := Go.Ground.guard }], guard := some (19, true) }) (v := ?v118) rfl (by kernel_rfl) (by kernel_rfl) (by kernel_rfl) (fun _ _ _ h => h) (Or.inl ⟨by kernel_rfl, ?h118⟩) (by assumption) ?r118
          case h118 => (intro w hSw; (try dsimp only at hSw); refine Eq.trans (b := Result.ok (Next.value (.bool false)) w) (by go_simp) ?_; with_reducible rfl)
          try simp only [Act.put, List.setIfInBounds_toArray, List.set_cons_zero, List.set_cons_succ]
          refine wpAnyH_take (i := 23) (oi := { dst := some 119, op := Go.Op.pick (Go.Operand.tmp 115) (Go.Operand.tmp 118) (Go.Operand.const (Go.Value.bool false)), type := 4, pos := "law.go:98", after := #[{ on := 19, ground := Go.Ground.data }, { on := 22, ground := Go.Ground.data }, { on := 16, ground := Go.Ground.guard }], guard := some (16, false) }) (v := ?v119) rfl (by kernel_rfl) (by kernel_rfl) (by kernel_rfl) (fun _ _ _ h => h) (Or.inl ⟨by kernel_rfl, ?h119⟩) (by assumption) ?r119
          case h119 => (intro w hSw; (try dsimp only at hSw); go_simp; try with_reducible rfl)
          try simp only [Act.put, List.setIfInBounds_toArray, List.set_cons_zero, List.set_cons_succ]
          refine wpAnyH_take (i := 24) (oi := { dst := some 120, op := Go.Op.pick (Go.Operand.tmp 112) (Go.Operand.const (Go.Value.bool true)) (Go.Operand.tmp 119), type := 4, pos := "law.go:98", after := #[{ on := 16, ground := Go.Ground.data }, { on := 23, ground := Go.Ground.data }], guard := none }) (v := ?v120) rfl (by kernel_rfl) (by kernel_rfl) (by kernel_rfl) (fun _ _ _ h => h) (Or.inl ⟨by kernel_rfl, ?h120⟩) (by assumption) ?r120
          case h120 => (intro w hSw; (try dsimp only at hSw); go_simp; try with_reducible rfl)
          try simp only [Act.put, List.setIfInBounds_toArray, List.set_cons_zero, List.set_cons_succ]
          refine wpAnyH_done (by kernel_rfl) ?_ _
          clear k401 k402 k403 k404
          replace ZB := Lib.hid (ZB.out.below hHeld ZB.out.lt)
          replace ZI := Lib.hid (ZI.out.below hHeld ZI.out.lt)
          replace BL := Lib.hid (BL.out.trans (hHeld.mono BL.out.size))
          replace TB := Lib.hid (TB.out.below hHeld)
          replace SV := Lib.hid (SV.out.below hHeld)
          clear hHeld qb
          go_wp2
          go_roundw
          case rel => exact ⟨i + 1, by omega, by go_num, BL, ZB, TB, SV⟩
          case measure => simp [intOf]; omega
        · have hie : i = k := by omega
          subst hie
          go_wp2
          go_ret
          exact ⟨rfl, BL.out⟩
set_option maxRecDepth 100000 in
set_option maxHeartbeats 8000000 in
theorem boxes_fs (n mv : Nat) (a0 av : Option Addr) (c0 cv : Nat) (xs : List (Int × Int)) (v : List Int) (w : World) (hx : xs.length = n) (h0 : ItS w.heap.size w a0 xs) (hv : SL w av mv cv v) (g1 : ¬ 20 < n) (g2 : ¬ 20 < mv) (g3 : ¬ 8 < n) (hR : boxL n xs ≠ []) (hm : mv < n) : Calls Try.prog 5 #[.slice a0 n c0, .slice av mv cv] w (Gives (.bool true) w) := by
  have g1i : ¬ (20 : Int) < (n : Int) := by omega
  have g2i : ¬ (20 : Int) < (mv : Int) := by omega
  have g3i : ¬ (8 : Int) < (n : Int) := by omega
  have hn : n ≤ 8 := by omega
  have hvl := hv.len
  obtain ⟨mB, hmB⟩ : ∃ x, x = (boxL n xs).length := ⟨_, rfl⟩
  have rB : mB ≤ 81 := by rw [hmB]; exact (boxL_isz hn xs).small
  have QX := Lib.hid ((zbox_any n hn xs hx a0 c0 w h0).mono (fun e w' h => ends_of (m := mB) hmB.symm (by omega) h))
  have QR := Lib.hid (fun W (hI : ItS W.heap.size W a0 xs) => rbox_any n hn xs hx a0 c0 W hI)
  obtain ⟨P, hP⟩ : ∃ P : Nat → Bool, P = inK n xs v := ⟨_, rfl⟩
  have hP0 : Hid (P 0 = decide (mv = n)) := Lib.hid (by rw [hP, hvl]; simp [inK])
  have hPn : Hid (∀ k, P (k + 1) = (P k && itvB (xs.getD k (0, 0)) (v.getD k 0))) := Lib.hid (fun k => by rw [hP]; exact inK_next n xs v k)
  have hbh : hasB n (boxL n xs) v = P mv := by rw [hP, box_has hn, ← hvl, show min n mv = mv by omega]
  have QH := Lib.hid (fun W a c (hS : SL W a mB c (boxL n xs)) (hV : SL W av mv cv v) => has_any n a mB c _ av mv cv v W hS hV)
  rw [hbh] at QH
  have QI := Lib.hid (fun k (hk : k < n) W a c (hS : SL W a mB c (boxL n xs)) => zitvL_any n (k + 1) (by omega) _ (boxL_isz hn xs) a mB c W hS)
  have QE := Lib.hid (fun W a c (hS : SL W a mB c (boxL n xs)) => empty_any n a mB c _ W hS)
  have he : emptyB n (boxL n xs) = false := by unfold emptyB; rw [(boxL_isz hn xs).check]; simp [hR]
  rw [he] at QE
  have QN := Lib.hid (fun W => rnone_any W)
  have QP := Lib.hid (fun k W => rplainZ_any (xs.getD k (0, 0)).1 (xs.getD k (0, 0)).2 W)
  have hit : Hid (∀ k, k < n → itvL n (boxL n xs) (k + 1) = ofP (xs.getD k (0, 0)).1 (xs.getD k (0, 0)).2) := Lib.hid (fun k hk => by exact box_itv hn xs k hk hR)
  have hI0 := Lib.hid h0
  have hx' := Lib.hid hx
  have hvl' := Lib.hid hvl
  have BL := Lib.hid (Below.refl w.heap.size w)
  have SV := Lib.hid hv
  clear h0 hv hx hvl hP hbh he hR hmB
  skip
  generalize boxL n xs = R at *
  go_enter Try.func5, Try.ntmps5
  have q := Lib.hid (QX.out)
  go_wp2_with fail
  with_reducible refine q.out.mono ?_
  rintro e v1 ⟨aB, dB, rfl, sB, bB⟩
  clear q QX
  have B0 := box_below v1 #[.int .i64 n, .slice aB mB dB] 24
  have B := bB.trans (B0.mono bB.size)
  replace BL := Lib.hid (BL.out.trans (B.mono BL.out.size))
  replace SV := Lib.hid (SV.out.below B)
  have ZB := Lib.hid (Holds.new v1 24 #[.int .i64 n, .slice aB mB dB])
  have TB := Lib.hid (sB.below B0)
  clear bB B B0 sB
  have q := Lib.hid (zlivesAt w _ BL.out)
  go_wp2_with fail
  with_reducible refine q.out.mono ?_
  rintro e v2 ⟨rfl, b2, -⟩
  clear q
  replace ZB := Lib.hid (ZB.out.below b2 ZB.out.lt)
  replace BL := Lib.hid (BL.out.trans (b2.mono BL.out.size))
  replace SV := Lib.hid (SV.out.below b2)
  replace TB := Lib.hid (TB.out.below b2)
  clear b2
  go_wp2
  go_loopw [7, 8] (fun y x wr => ∃ k : Nat, k ≤ mv ∧ x = .int .i64 k ∧ y = .bool (P k) ∧ Hid (Below w.heap.size w wr) ∧ Hid (Holds wr v1.heap.size 24 #[.int .i64 n, .slice aB mB dB]) ∧ Hid (SL wr aB mB dB R) ∧ Hid (SL wr av mv cv v)) (fun _ x _ => mv - (intOf x).toNat)
  case atStart => exact ⟨0, by omega, rfl, by rw [hP0.out]; congr 1; exact beq_cast _ _, BL, ZB, TB, SV⟩
  case round =>
    clear BL ZB TB SV
    obtain ⟨k, hk, rfl, rfl, BL, ZB, TB, SV⟩ := hrel
    by_cases hlt : k < mv
    · have k1 : (k : Int) < (n : Int) := by omega
      have k2 : (k : Int) < (mv : Int) := by omega
      obtain ⟨b, off, ea, hb, i0, i1⟩ := (hI0.out.below BL.out).at_ (k := k) (by have := hx'.out; omega)
      obtain ⟨b2, off2, ev, hb2, i2⟩ := sees_at' SV.out.sees (i := k) (by have := hvl'.out; omega)
      subst ea ev
      have hwb := BL.out.size
      have c0 : ∀ W, Below wr.heap.size wr W → W.cell? ⟨b, off + k * 2, none⟩ = some (.int .i64 (xs.getD k (0, 0)).1) := fun W hW => (hW.cell (p := ⟨b, off + k * 2, none⟩) (by show b < _; omega)).trans i0
      have c1 : ∀ W, Below wr.heap.size wr W → W.cell? ⟨b, off + k * 2 + 1, none⟩ = some (.int .i64 (xs.getD k (0, 0)).2) := fun W hW => (hW.cell (p := ⟨b, off + k * 2 + 1, none⟩) (by show b < _; omega)).trans i1
      have c2 : ∀ W, Below wr.heap.size wr W → W.cell? ⟨b2, off2 + k, none⟩ = some (.int .i64 (v.getD k 0)) := fun W hW => (hW.cell (p := ⟨b2, off2 + k, none⟩) (by show b2 < _; omega)).trans i2
      have qh := Lib.hid (fun W => ihas_any (xs.getD k (0, 0)) (v.getD k 0) W)
      have hn1 := Lib.hid (hPn.out k)
      clear i0 i1 i2
      generalize itvB (xs.getD k (0, 0)) (v.getD k 0) = u at *
      generalize (xs.getD k (0, 0)).1 = x at *
      generalize (xs.getD k (0, 0)).2 = y at *
      generalize v.getD k 0 = z at *
      obtain ⟨p1, hp1'⟩ : ∃ p, p = P (k + 1) := ⟨_, rfl⟩
      rw [← hp1'] at hn1
      have hp1 := Lib.hid hp1'
      clear hp1'
      cases hpk : P k
      · have hn2 : Hid (p1 = false) := Lib.hid (by rw [hn1.out, hpk]; rfl)
        clear hn1 hpk
        go_wp2
        refine wp_drawn_on (fun W => Below wr.heap.size wr W) (by kernel_rfl) (below_drew (Below.refl _ _)) (fun hHeld => ?_)
        refine wpAnyH_take (i := 0) (oi := { dst := some 55, op := Go.Op.move (Go.Operand.tmp 7), type := 4, pos := "law.go:91", after := #[], guard := none }) (v := ?v121) rfl (by kernel_rfl) (by kernel_rfl) (by kernel_rfl) (fun _ _ _ h => h) (Or.inl ⟨by kernel_rfl, ?h121⟩) (by assumption) ?r121
        case h121 => (intro w hSw; (try dsimp only at hSw); go_simp; try with_reducible rfl)
        try simp only [Act.put, List.setIfInBounds_toArray, List.set_cons_zero, List.set_cons_succ]
        refine wpAnyH_take (i := 1) (oi := { dst := some 56, op := Go.Op.move (Go.Operand.tmp 55), type := 4, pos := "law.go:91", after := #[{ on := 0, ground := Go.Ground.data }], guard := none }) (v := ?v122) rfl (by kernel_rfl) (by kernel_rfl) (by kernel_rfl) (fun _ _ _ h => h) (Or.inl ⟨by kernel_rfl, ?h122⟩) (by assumption) ?r122
        case h122 => (intro w hSw; (try dsimp only at hSw); go_simp; try with_reducible rfl)
        try simp only [Act.put, List.setIfInBounds_toArray, List.set_cons_zero, List.set_cons_succ]
        refine wpAnyH_take (i := 2) (oi := { dst := some 57, op := Go.Op.move (Go.Operand.tmp 0), type := 47, pos := "law.go:91", after := #[{ on := 1, ground := Go.Ground.guard }], guard := some (1, true) }) (v := undef) rfl (by kernel_rfl) (by kernel_rfl) (by kernel_rfl) (fun _ _ _ h => h) (Or.inr ⟨by kernel_rfl, rfl⟩) (by assumption) ?_
        try simp only [Act.put, List.setIfInBounds_toArray, List.set_cons_zero, List.set_cons_succ]
        refine wpAnyH_take (i := 3) (oi := { dst := some 58, op := Go.Op.move (Go.Operand.tmp 8), type := 3, pos := "law.go:91", after := #[{ on := 1, ground := Go.Ground.guard }], guard := some (1, true) }) (v := undef) rfl (by kernel_rfl) (by kernel_rfl) (by kernel_rfl) (fun _ _ _ h => h) (Or.inr ⟨by kernel_rfl, rfl⟩) (by assumption) ?_
        try simp only [Act.put, List.setIfInBounds_toArray, List.set_cons_zero, List.set_cons_succ]
        refine wpAnyH_take (i := 4) (oi := { dst := some 59, op := Go.Op.indexAddr 47 (Go.Operand.tmp 57) (Go.Operand.tmp 58), type := 0, pos := "law.go:91", after := #[{ on := 2, ground := Go.Ground.data }, { on := 3, ground := Go.Ground.data }, { on := 1, ground := Go.Ground.guard }], guard := some (1, true) }) (v := undef) rfl (by kernel_rfl) (by kernel_rfl) (by kernel_rfl) (fun _ _ _ h => h) (Or.inr ⟨by kernel_rfl, rfl⟩) (by assumption) ?_
        try simp only [Act.put, List.setIfInBounds_toArray, List.set_cons_zero, List.set_cons_succ]
        refine wpAnyH_take (i := 5) (oi := { dst := some 60, op := Go.Op.load 38 (Go.Operand.tmp 59), type := 38, pos := "law.go:91", after := #[{ on := 4, ground := Go.Ground.data }, { on := 1, ground := Go.Ground.guard }], guard := some (1, true) }) (v := undef) rfl (by kernel_rfl) (by kernel_rfl) (by kernel_rfl) (fun _ _ _ h => h) (Or.inr ⟨by kernel_rfl, rfl⟩) (by assumption) ?_
        try simp only [Act.put, List.setIfInBounds_toArray, List.set_cons_zero, List.set_cons_succ]
        refine wpAnyH_take (i := 6) (oi := { dst := some 61, op := Go.Op.move (Go.Operand.tmp 1), type := 22, pos := "law.go:91", after := #[{ on := 1, ground := Go.Ground.guard }], guard := some (1, true) }) (v := undef) rfl (by kernel_rfl) (by kernel_rfl) (by kernel_rfl) (fun _ _ _ h => h) (Or.inr ⟨by kernel_rfl, rfl⟩) (by assumption) ?_
        try simp only [Act.put, List.setIfInBounds_toArray, List.set_cons_zero, List.set_cons_succ]
        refine wpAnyH_take (i := 7) (oi := { dst := some 62, op := Go.Op.move (Go.Operand.tmp 8), type := 3, pos := "law.go:91", after := #[{ on := 1, ground := Go.Ground.guard }], guard := some (1, true) }) (v := undef) rfl (by kernel_rfl) (by kernel_rfl) (by kernel_rfl) (fun _ _ _ h => h) (Or.inr ⟨by kernel_rfl, rfl⟩) (by assumption) ?_
        try simp only [Act.put, List.setIfInBounds_toArray, List.set_cons_zero, List.set_cons_succ]
        refine wpAnyH_take (i := 8) (oi := { dst := some 63, op := Go.Op.indexAddr 22 (Go.Operand.tmp 61) (Go.Operand.tmp 62), type := 0, pos := "law.go:91", after := #[{ on := 6, ground := Go.Ground.data }, { on := 7, ground := Go.Ground.data }, { on := 1, ground := Go.Ground.guard }], guard := some (1, true) }) (v := undef) rfl (by kernel_rfl) (by kernel_rfl) (by kernel_rfl) (fun _ _ _ h => h) (Or.inr ⟨by kernel_rfl, rfl⟩) (by assumption) ?_
        try simp only [Act.put, List.setIfInBounds_toArray, List.set_cons_zero, List.set_cons_succ]
        refine wpAnyH_take (i := 9) (oi := { dst := some 64, op := Go.Op.load 3 (Go.Operand.tmp 63), type := 3, pos := "law.go:91", after := #[{ on := 8, ground := Go.Ground.data }, { on := 1, ground := Go.Ground.guard }], guard := some (1, true) }) (v := undef) rfl (by kernel_rfl) (by kernel_rfl) (by kernel_rfl) (fun _ _ _ h => h) (Or.inr ⟨by kernel_rfl, rfl⟩) (by assumption) ?_
        try simp only [Act.put, List.setIfInBounds_toArray, List.set_cons_zero, List.set_cons_succ]
        refine wpAnyH_take (i := 10) (oi := { dst := some 65, op := Go.Op.call { callee := Go.Callee.value (Go.Operand.func 33), args := #[Go.Operand.tmp 60, Go.Operand.tmp 64], argTypes := #[38, 3] }, type := 4, pos := "law.go:91", after := #[{ on := 5, ground := Go.Ground.data }, { on := 9, ground := Go.Ground.data }, { on := 1, ground := Go.Ground.chain }, { on := 1, ground := Go.Ground.guard }], guard := some (1, true) }) (v := undef) rfl (by kernel_rfl) (by kernel_rfl) (by kernel_rfl) (fun _ _ _ h => h) (Or.inr ⟨by kernel_rfl, rfl⟩) (by assumption) ?_
        try simp only [Act.put, List.setIfInBounds_toArray, List.set_cons_zero, List.set_cons_succ]
        refine wpAnyH_take (i := 11) (oi := { dst := some 66, op := Go.Op.pick (Go.Operand.tmp 56) (Go.Operand.tmp 65) (Go.Operand.const (Go.Value.bool false)), type := 4, pos := "law.go:91", after := #[{ on := 1, ground := Go.Ground.data }, { on := 10, ground := Go.Ground.data }], guard := none }) (v := ?v132) rfl (by kernel_rfl) (by kernel_rfl) (by kernel_rfl) (fun _ _ _ h => h) (Or.inl ⟨by kernel_rfl, ?h132⟩) (by assumption) ?r132
        case h132 => (intro w hSw; (try dsimp only at hSw); go_simp; try with_reducible rfl)
        try simp only [Act.put, List.setIfInBounds_toArray, List.set_cons_zero, List.set_cons_succ]
        refine wpAnyH_take (i := 12) (oi := { dst := some 7, op := Go.Op.assign (Go.Operand.tmp 66), type := 4, pos := "law.go:91", after := #[{ on := 11, ground := Go.Ground.data }, { on := 10, ground := Go.Ground.chain }, { on := 0, ground := Go.Ground.phase }, { on := 1, ground := Go.Ground.phase }, { on := 2, ground := Go.Ground.phase }, { on := 3, ground := Go.Ground.phase }, { on := 4, ground := Go.Ground.phase }, { on := 5, ground := Go.Ground.phase }, { on := 6, ground := Go.Ground.phase }, { on := 7, ground := Go.Ground.phase }, { on := 8, ground := Go.Ground.phase }, { on := 9, ground := Go.Ground.phase }, { on := 10, ground := Go.Ground.phase }, { on := 11, ground := Go.Ground.phase }], guard := none }) (v := ?v133) rfl (by kernel_rfl) (by kernel_rfl) (by kernel_rfl) (fun _ _ _ h => h) (Or.inl ⟨by kernel_rfl, ?h133⟩) (by assumption) ?r133
        case h133 => (intro w hSw; (try dsimp only at hSw); go_simp; try with_reducible rfl)
        try simp only [Act.put, List.setIfInBounds_toArray, List.set_cons_zero, List.set_cons_succ]
        refine wpAnyH_done (by kernel_rfl) ?_ _
        replace ZB := Lib.hid (ZB.out.below hHeld ZB.out.lt)
        replace BL := Lib.hid (BL.out.trans (hHeld.mono BL.out.size))
        replace TB := Lib.hid (TB.out.below hHeld)
        replace SV := Lib.hid (SV.out.below hHeld)
        clear hHeld c0 c1 c2
        go_wp2
        go_roundw
        case rel => exact ⟨k + 1, by omega, by go_num, by rw [← hp1.out, hn2.out], BL, ZB, TB, SV⟩
        case measure => simp [intOf]; omega
      · have hn2 : Hid (p1 = u) := Lib.hid (by rw [hn1.out, hpk]; rfl)
        clear hn1 hpk
        go_wp2
        refine wp_drawn_on (fun W => Below wr.heap.size wr W) (by kernel_rfl) (below_drew (Below.refl _ _)) (fun hHeld => ?_)
        refine wpAnyH_take (i := 0) (oi := { dst := some 55, op := Go.Op.move (Go.Operand.tmp 7), type := 4, pos := "law.go:91", after := #[], guard := none }) (v := ?v134) rfl (by kernel_rfl) (by kernel_rfl) (by kernel_rfl) (fun _ _ _ h => h) (Or.inl ⟨by kernel_rfl, ?h134⟩) (by assumption) ?r134
        case h134 => (intro w hSw; (try dsimp only at hSw); go_simp; try with_reducible rfl)
        try simp only [Act.put, List.setIfInBounds_toArray, List.set_cons_zero, List.set_cons_succ]
        refine wpAnyH_take (i := 1) (oi := { dst := some 56, op := Go.Op.move (Go.Operand.tmp 55), type := 4, pos := "law.go:91", after := #[{ on := 0, ground := Go.Ground.data }], guard := none }) (v := ?v135) rfl (by kernel_rfl) (by kernel_rfl) (by kernel_rfl) (fun _ _ _ h => h) (Or.inl ⟨by kernel_rfl, ?h135⟩) (by assumption) ?r135
        case h135 => (intro w hSw; (try dsimp only at hSw); go_simp; try with_reducible rfl)
        try simp only [Act.put, List.setIfInBounds_toArray, List.set_cons_zero, List.set_cons_succ]
        refine wpAnyH_take (i := 2) (oi := { dst := some 57, op := Go.Op.move (Go.Operand.tmp 0), type := 47, pos := "law.go:91", after := #[{ on := 1, ground := Go.Ground.guard }], guard := some (1, true) }) (v := ?v136) rfl (by kernel_rfl) (by kernel_rfl) (by kernel_rfl) (fun _ _ _ h => h) (Or.inl ⟨by kernel_rfl, ?h136⟩) (by assumption) ?r136
        case h136 => (intro w hSw; (try dsimp only at hSw); go_simp; try with_reducible rfl)
        try simp only [Act.put, List.setIfInBounds_toArray, List.set_cons_zero, List.set_cons_succ]
        refine wpAnyH_take (i := 3) (oi := { dst := some 58, op := Go.Op.move (Go.Operand.tmp 8), type := 3, pos := "law.go:91", after := #[{ on := 1, ground := Go.Ground.guard }], guard := some (1, true) }) (v := ?v137) rfl (by kernel_rfl) (by kernel_rfl) (by kernel_rfl) (fun _ _ _ h => h) (Or.inl ⟨by kernel_rfl, ?h137⟩) (by assumption) ?r137
        case h137 => (intro w hSw; (try dsimp only at hSw); go_simp; try with_reducible rfl)
        try simp only [Act.put, List.setIfInBounds_toArray, List.set_cons_zero, List.set_cons_succ]
        refine wpAnyH_take (i := 4) (oi := { dst := some 59, op := Go.Op.indexAddr 47 (Go.Operand.tmp 57) (Go.Operand.tmp 58), type := 0, pos := "law.go:91", after := #[{ on := 2, ground := Go.Ground.data }, { on := 3, ground := Go.Ground.data }, { on := 1, ground := Go.Ground.guard }], guard := some (1, true) }) (v := ?v138) rfl (by kernel_rfl) (by kernel_rfl) (by kernel_rfl) (fun _ _ _ h => h) (Or.inl ⟨by kernel_rfl, ?h138⟩) (by assumption) ?r138
        case h138 => (intro w hSw; (try dsimp only at hSw); go_simp; try with_reducible rfl)
        try simp only [Act.put, List.setIfInBounds_toArray, List.set_cons_zero, List.set_cons_succ]
        refine wpAnyH_take (i := 5) (oi := { dst := some 60, op := Go.Op.load 38 (Go.Operand.tmp 59), type := 38, pos := "law.go:91", after := #[{ on := 4, ground := Go.Ground.data }, { on := 1, ground := Go.Ground.guard }], guard := some (1, true) }) (v := ?v139) rfl (by kernel_rfl) (by kernel_rfl) (by kernel_rfl) (fun _ _ _ h => h) (Or.inl ⟨by kernel_rfl, ?h139⟩) (by assumption) ?r139
        case h139 => (intro w hSw; (try dsimp only at hSw); go_simp; try with_reducible rfl)
        try simp only [Act.put, List.setIfInBounds_toArray, List.set_cons_zero, List.set_cons_succ]
        refine wpAnyH_take (i := 6) (oi := { dst := some 61, op := Go.Op.move (Go.Operand.tmp 1), type := 22, pos := "law.go:91", after := #[{ on := 1, ground := Go.Ground.guard }], guard := some (1, true) }) (v := ?v140) rfl (by kernel_rfl) (by kernel_rfl) (by kernel_rfl) (fun _ _ _ h => h) (Or.inl ⟨by kernel_rfl, ?h140⟩) (by assumption) ?r140
        case h140 => (intro w hSw; (try dsimp only at hSw); go_simp; try with_reducible rfl)
        try simp only [Act.put, List.setIfInBounds_toArray, List.set_cons_zero, List.set_cons_succ]
        refine wpAnyH_take (i := 7) (oi := { dst := some 62, op := Go.Op.move (Go.Operand.tmp 8), type := 3, pos := "law.go:91", after := #[{ on := 1, ground := Go.Ground.guard }], guard := some (1, true) }) (v := ?v141) rfl (by kernel_rfl) (by kernel_rfl) (by kernel_rfl) (fun _ _ _ h => h) (Or.inl ⟨by kernel_rfl, ?h141⟩) (by assumption) ?r141
        case h141 => (intro w hSw; (try dsimp only at hSw); go_simp; try with_reducible rfl)
        try simp only [Act.put, List.setIfInBounds_toArray, List.set_cons_zero, List.set_cons_succ]
        refine wpAnyH_take (i := 8) (oi := { dst := some 63, op := Go.Op.indexAddr 22 (Go.Operand.tmp 61) (Go.Operand.tmp 62), type := 0, pos := "law.go:91", after := #[{ on := 6, ground := Go.Ground.data }, { on := 7, ground := Go.Ground.data }, { on := 1, ground := Go.Ground.guard }], guard := some (1, true) }) (v := ?v142) rfl (by kernel_rfl) (by kernel_rfl) (by kernel_rfl) (fun _ _ _ h => h) (Or.inl ⟨by kernel_rfl, ?h142⟩) (by assumption) ?r142
        case h142 => (intro w hSw; (try dsimp only at hSw); go_simp; try with_reducible rfl)
        try simp only [Act.put, List.setIfInBounds_toArray, List.set_cons_zero, List.set_cons_succ]
        refine wpAnyH_take (i := 9) (oi := { dst := some 64, op := Go.Op.load 3 (Go.Operand.tmp 63), type := 3, pos := "law.go:91", after := #[{ on := 8, ground := Go.Ground.data }, { on := 1, ground := Go.Ground.guard }], guard := some (1, true) }) (v := ?v143) rfl (by kernel_rfl) (by kernel_rfl) (by kernel_rfl) (fun _ _ _ h => h) (Or.inl ⟨by kernel_rfl, ?h143⟩) (by assumption) ?r143
        case h143 => (intro w hSw; (try dsimp only at hSw); go_simp; try with_reducible rfl)
        try simp only [Act.put, List.setIfInBounds_toArray, List.set_cons_zero, List.set_cons_succ]
        refine wpAnyH_ready (rs := [10]) (by kernel_rfl) (by simp) ?_
        refine AllReadyH.cons (o := { dst := some 65, op := Go.Op.call { callee := Go.Callee.value (Go.Operand.func 33), args := #[Go.Operand.tmp 60, Go.Operand.tmp 64], argTypes := #[38, 3] }, type := 4, pos := "law.go:91", after := #[{ on := 5, ground := Go.Ground.data }, { on := 9, ground := Go.Ground.data }, { on := 1, ground := Go.Ground.chain }, { on := 1, ground := Go.Ground.guard }], guard := some (1, true) }) rfl (fun K hK => ?_) AllReadyH.nil
        go_simp
        with_reducible refine (qh.out _).mono ?_
        rintro e t10 ⟨rfl, b10⟩
        go_simp
        refine hK.out _ _ (hHeld.trans (b10.mono hHeld.size)) (fun hHeld => ?_)
        clear hK K
        try simp only [Act.put, List.setIfInBounds_toArray, List.set_cons_zero, List.set_cons_succ]
        refine wpAnyH_take (i := 11) (oi := { dst := some 66, op := Go.Op.pick (Go.Operand.tmp 56) (Go.Operand.tmp 65) (Go.Operand.const (Go.Value.bool false)), type := 4, pos := "law.go:91", after := #[{ on := 1, ground := Go.Ground.data }, { on := 10, ground := Go.Ground.data }], guard := none }) (v := ?v144) rfl (by kernel_rfl) (by kernel_rfl) (by kernel_rfl) (fun _ _ _ h => h) (Or.inl ⟨by kernel_rfl, ?h144⟩) (by assumption) ?r144
        case h144 => (intro w hSw; (try dsimp only at hSw); go_simp; try with_reducible rfl)
        try simp only [Act.put, List.setIfInBounds_toArray, List.set_cons_zero, List.set_cons_succ]
        refine wpAnyH_take (i := 12) (oi := { dst := some 7, op := Go.Op.assign (Go.Operand.tmp 66), type := 4, pos := "law.go:91", after := #[{ on := 11, ground := Go.Ground.data }, { on := 10, ground := Go.Ground.chain }, { on := 0, ground := Go.Ground.phase }, { on := 1, ground := Go.Ground.phase }, { on := 2, ground := Go.Ground.phase }, { on := 3, ground := Go.Ground.phase }, { on := 4, ground := Go.Ground.phase }, { on := 5, ground := Go.Ground.phase }, { on := 6, ground := Go.Ground.phase }, { on := 7, ground := Go.Ground.phase }, { on := 8, ground := Go.Ground.phase }, { on := 9, ground := Go.Ground.phase }, { on := 10, ground := Go.Ground.phase }, { on := 11, ground := Go.Ground.phase }], guard := none }) (v := ?v145) rfl (by kernel_rfl) (by kernel_rfl) (by kernel_rfl) (fun _ _ _ h => h) (Or.inl ⟨by kernel_rfl, ?h145⟩) (by assumption) ?r145
        case h145 => (intro w hSw; (try dsimp only at hSw); go_simp; try with_reducible rfl)
        try simp only [Act.put, List.setIfInBounds_toArray, List.set_cons_zero, List.set_cons_succ]
        refine wpAnyH_done (by kernel_rfl) ?_ _
        replace ZB := Lib.hid (ZB.out.below hHeld ZB.out.lt)
        replace BL := Lib.hid (BL.out.trans (hHeld.mono BL.out.size))
        replace TB := Lib.hid (TB.out.below hHeld)
        replace SV := Lib.hid (SV.out.below hHeld)
        clear hHeld c0 c1 c2
        go_wp2
        go_roundw
        case rel => exact ⟨k + 1, by omega, by go_num, by rw [← hp1.out, hn2.out], BL, ZB, TB, SV⟩
        case measure => simp [intOf]; omega
    · have hke : k = mv := by omega
      subst hke
      generalize P k = p1 at *
      have hkn : ((k : Int) < (n : Int)) := by omega
      go_wp2
      have k201 : ∀ W, Below wr.heap.size wr W → W.cell? ⟨v1.heap.size, 0, none⟩ = some (.int .i64 n) := fun W hW => (ZB.out.below hW ZB.out.lt).cell 0
      have k202 : ∀ W, Below wr.heap.size wr W → W.cell? ⟨v1.heap.size, 1, none⟩ = some (.slice aB mB dB) := fun W hW => (ZB.out.below hW ZB.out.lt).cell 1
      have qv := Lib.hid (fun W (hW : Below wr.heap.size wr W) => SV.out.below hW)
      have qb := Lib.hid (fun W (hW : Below wr.heap.size wr W) => TB.out.below hW)
      have qi := Lib.hid (fun W (hW : Below wr.heap.size wr W) => its_up (hI0.out.below (BL.out.trans (hW.mono BL.out.size))) (Nat.le_trans BL.out.size hW.size))
      refine wp_drawn_on (fun W => Below wr.heap.size wr W) (by kernel_rfl) (below_drew (Below.refl _ _)) (fun hHeld => ?_)
      refine wpAnyH_take (i := 0) (oi := { dst := some 67, op := Go.Op.move (Go.Operand.tmp 6), type := 27, pos := "law.go:93", after := #[], guard := none }) (v := ?v146) rfl (by kernel_rfl) (by kernel_rfl) (by kernel_rfl) (fun _ _ _ h => h) (Or.inl ⟨by kernel_rfl, ?h146⟩) (by assumption) ?r146
      case h146 => (intro w hSw; (try dsimp only at hSw); go_simp; try with_reducible rfl)
      try simp only [Act.put, List.setIfInBounds_toArray, List.set_cons_zero, List.set_cons_succ]
      refine wpAnyH_take (i := 1) (oi := { dst := some 68, op := Go.Op.binOp Go.BinOp.neq 27 (Go.Operand.tmp 67) (Go.Operand.const (Go.Value.int Go.IntKind.i64 0)) 27, type := 4, pos := "law.go:93", after := #[{ on := 0, ground := Go.Ground.data }], guard := none }) (v := ?v147) rfl (by kernel_rfl) (by kernel_rfl) (by kernel_rfl) (fun _ _ _ h => h) (Or.inl ⟨by kernel_rfl, ?h147⟩) (by assumption) ?r147
      case h147 => (intro w hSw; (try dsimp only at hSw); go_simp; try with_reducible rfl)
      try simp only [Act.put, List.setIfInBounds_toArray, List.set_cons_zero, List.set_cons_succ]
      refine wpAnyH_take (i := 2) (oi := { dst := some 69, op := Go.Op.move (Go.Operand.tmp 68), type := 4, pos := "law.go:93", after := #[{ on := 1, ground := Go.Ground.data }], guard := none }) (v := ?v148) rfl (by kernel_rfl) (by kernel_rfl) (by kernel_rfl) (fun _ _ _ h => h) (Or.inl ⟨by kernel_rfl, ?h148⟩) (by assumption) ?r148
      case h148 => (intro w hSw; (try dsimp only at hSw); go_simp; try with_reducible rfl)
      try simp only [Act.put, List.setIfInBounds_toArray, List.set_cons_zero, List.set_cons_succ]
      refine wpAnyH_take (i := 3) (oi := { dst := some 70, op := Go.Op.load 24 (Go.Operand.tmp 5), type := 24, pos := "law.go:93", after := #[{ on := 2, ground := Go.Ground.guard }], guard := some (2, false) }) (v := ?v149) rfl (by kernel_rfl) (by kernel_rfl) (by kernel_rfl) (fun _ _ _ h => h) (Or.inl ⟨by kernel_rfl, ?h149⟩) (by assumption) ?r149
      case h149 => (intro w hSw; (try dsimp only at hSw); go_simp; try with_reducible rfl)
      try simp only [Act.put, List.setIfInBounds_toArray, List.set_cons_zero, List.set_cons_succ]
      refine wpAnyH_take (i := 4) (oi := { dst := some 71, op := Go.Op.move (Go.Operand.tmp 0), type := 47, pos := "law.go:93", after := #[{ on := 2, ground := Go.Ground.guard }], guard := some (2, false) }) (v := ?v150) rfl (by kernel_rfl) (by kernel_rfl) (by kernel_rfl) (fun _ _ _ h => h) (Or.inl ⟨by kernel_rfl, ?h150⟩) (by assumption) ?r150
      case h150 => (intro w hSw; (try dsimp only at hSw); go_simp; try with_reducible rfl)
      try simp only [Act.put, List.setIfInBounds_toArray, List.set_cons_zero, List.set_cons_succ]
      refine wpAnyH_ready (rs := [5]) (by kernel_rfl) (by simp) ?_
      refine AllReadyH.cons (o := { dst := some 72, op := Go.Op.call { callee := Go.Callee.value (Go.Operand.func 34), args := #[Go.Operand.tmp 71], argTypes := #[47] }, type := 24, pos := "law.go:93", after := #[{ on := 4, ground := Go.Ground.data }, { on := 2, ground := Go.Ground.chain }, { on := 2, ground := Go.Ground.guard }], guard := some (2, false) }) rfl (fun K hK => ?_) AllReadyH.nil
      go_simp
      with_reducible refine (QR.out _ (qi.out _ hHeld)).mono ?_
      rintro e t5 ⟨aR, mR, dR, rfl, sR, b5⟩
      have hs := Lib.hid (rself_any n aB aR R mB mR dB dR t5 (qb.out _ (hHeld.trans (b5.mono hHeld.size))) sR)
      go_simp
      refine hK.out _ _ (hHeld.trans (b5.mono hHeld.size)) (fun hHeld => ?_)
      clear hK K
      try simp only [Act.put, List.setIfInBounds_toArray, List.set_cons_zero, List.set_cons_succ]
      refine wpAnyH_ready (rs := [6]) (by kernel_rfl) (by simp) ?_
      refine AllReadyH.cons (o := { dst := some 73, op := Go.Op.call { callee := Go.Callee.value (Go.Operand.func 16), args := #[Go.Operand.tmp 70, Go.Operand.tmp 72], argTypes := #[24, 24] }, type := 4, pos := "law.go:93", after := #[{ on := 3, ground := Go.Ground.data }, { on := 5, ground := Go.Ground.data }, { on := 5, ground := Go.Ground.chain }, { on := 2, ground := Go.Ground.guard }], guard := some (2, false) }) rfl (fun K hK => ?_) AllReadyH.nil
      go_simp
      with_reducible refine hs.out.mono ?_
      rintro e t6 ⟨rfl, b6⟩
      go_simp
      refine hK.out _ _ (hHeld.trans (b6.mono hHeld.size)) (fun hHeld => ?_)
      clear hK K
      try simp only [Act.put, List.setIfInBounds_toArray, List.set_cons_zero, List.set_cons_succ]
      refine wpAnyH_take (i := 7) (oi := { dst := some 74, op := Go.Op.unOp Go.UnOp.not 4 (Go.Operand.tmp 73), type := 4, pos := "law.go:93", after := #[{ on := 6, ground := Go.Ground.data }, { on := 2, ground := Go.Ground.guard }], guard := some (2, false) }) (v := ?v151) rfl (by kernel_rfl) (by kernel_rfl) (by kernel_rfl) (fun _ _ _ h => h) (Or.inl ⟨by kernel_rfl, ?h151⟩) (by assumption) ?r151
      case h151 => (intro w hSw; (try dsimp only at hSw); go_simp; try with_reducible rfl)
      try simp only [Act.put, List.setIfInBounds_toArray, List.set_cons_zero, List.set_cons_succ]
      refine wpAnyH_take (i := 8) (oi := { dst := some 75, op := Go.Op.pick (Go.Operand.tmp 69) (Go.Operand.const (Go.Value.bool true)) (Go.Operand.tmp 74), type := 4, pos := "law.go:93", after := #[{ on := 2, ground := Go.Ground.data }, { on := 7, ground := Go.Ground.data }], guard := none }) (v := ?v152) rfl (by kernel_rfl) (by kernel_rfl) (by kernel_rfl) (fun _ _ _ h => h) (Or.inl ⟨by kernel_rfl, ?h152⟩) (by assumption) ?r152
      case h152 => (intro w hSw; (try dsimp only at hSw); go_simp; try with_reducible rfl)
      try simp only [Act.put, List.setIfInBounds_toArray, List.set_cons_zero, List.set_cons_succ]
      refine wpAnyH_take (i := 9) (oi := { dst := some 76, op := Go.Op.move (Go.Operand.tmp 75), type := 4, pos := "law.go:93", after := #[{ on := 8, ground := Go.Ground.data }, { on := 6, ground := Go.Ground.chain }], guard := none }) (v := ?v153) rfl (by kernel_rfl) (by kernel_rfl) (by kernel_rfl) (fun _ _ _ h => h) (Or.inl ⟨by kernel_rfl, ?h153⟩) (by assumption) ?r153
      case h153 => (intro w hSw; (try dsimp only at hSw); go_simp; try with_reducible rfl)
      try simp only [Act.put, List.setIfInBounds_toArray, List.set_cons_zero, List.set_cons_succ]
      refine wpAnyH_take (i := 10) (oi := { dst := some 77, op := Go.Op.load 24 (Go.Operand.tmp 5), type := 24, pos := "law.go:93", after := #[{ on := 9, ground := Go.Ground.guard }], guard := some (9, false) }) (v := ?v154) rfl (by kernel_rfl) (by kernel_rfl) (by kernel_rfl) (fun _ _ _ h => h) (Or.inl ⟨by kernel_rfl, ?h154⟩) (by assumption) ?r154
      case h154 => (intro w hSw; (try dsimp only at hSw); go_simp; try with_reducible rfl)
      try simp only [Act.put, List.setIfInBounds_toArray, List.set_cons_zero, List.set_cons_succ]
      refine wpAnyH_take (i := 11) (oi := { dst := some 78, op := Go.Op.move (Go.Operand.tmp 1), type := 22, pos := "law.go:93", after := #[{ on := 9, ground := Go.Ground.guard }], guard := some (9, false) }) (v := ?v155) rfl (by kernel_rfl) (by kernel_rfl) (by kernel_rfl) (fun _ _ _ h => h) (Or.inl ⟨by kernel_rfl, ?h155⟩) (by assumption) ?r155
      case h155 => (intro w hSw; (try dsimp only at hSw); go_simp; try with_reducible rfl)
      try simp only [Act.put, List.setIfInBounds_toArray, List.set_cons_zero, List.set_cons_succ]
      refine wpAnyH_take (i := 13) (oi := { dst := some 80, op := Go.Op.move (Go.Operand.tmp 7), type := 4, pos := "law.go:93", after := #[{ on := 9, ground := Go.Ground.guard }], guard := some (9, false) }) (v := ?v156) rfl (by kernel_rfl) (by kernel_rfl) (by kernel_rfl) (fun _ _ _ h => h) (Or.inl ⟨by kernel_rfl, ?h156⟩) (by assumption) ?r156
      case h156 => (intro w hSw; (try dsimp only at hSw); go_simp; try with_reducible rfl)
      try simp only [Act.put, List.setIfInBounds_toArray, List.set_cons_zero, List.set_cons_succ]
      refine wpAnyH_ready (rs := [12]) (by kernel_rfl) (by simp) ?_
      refine AllReadyH.cons (o := { dst := some 79, op := Go.Op.call { callee := Go.Callee.value (Go.Operand.func 35), args := #[Go.Operand.tmp 77, Go.Operand.tmp 78], argTypes := #[24, 22] }, type := 4, pos := "law.go:93", after := #[{ on := 10, ground := Go.Ground.data }, { on := 11, ground := Go.Ground.data }, { on := 9, ground := Go.Ground.chain }, { on := 9, ground := Go.Ground.guard }], guard := some (9, false) }) rfl (fun K hK => ?_) AllReadyH.nil
      go_simp
      with_reducible refine (QH.out _ aB dB (qb.out _ hHeld) (qv.out _ hHeld)).mono ?_
      rintro e t12 ⟨rfl, b12⟩
      go_simp
      refine hK.out _ _ (hHeld.trans (b12.mono hHeld.size)) (fun hHeld => ?_)
      clear hK K
      try simp only [Act.put, List.setIfInBounds_toArray, List.set_cons_zero, List.set_cons_succ]
      refine wpAnyH_take (i := 14) (oi := { dst := some 81, op := Go.Op.binOp Go.BinOp.neq 4 (Go.Operand.tmp 79) (Go.Operand.tmp 80) 4, type := 4, pos := "law.go:93", after := #[{ on := 12, ground := Go.Ground.data }, { on := 13, ground := Go.Ground.data }, { on := 9, ground := Go.Ground.guard }], guard := some (9, false) }) (v := ?v157) rfl (by kernel_rfl) (by kernel_rfl) (by kernel_rfl) (fun _ _ _ h => h) (Or.inl ⟨by kernel_rfl, ?h157⟩) (by assumption) ?r157
      case h157 => (intro w hSw; (try dsimp only at hSw); go_simp; try with_reducible rfl)
      try simp only [Act.put, List.setIfInBounds_toArray, List.set_cons_zero, List.set_cons_succ]
      refine wpAnyH_take (i := 15) (oi := { dst := some 82, op := Go.Op.pick (Go.Operand.tmp 76) (Go.Operand.const (Go.Value.bool true)) (Go.Operand.tmp 81), type := 4, pos := "law.go:93", after := #[{ on := 9, ground := Go.Ground.data }, { on := 14, ground := Go.Ground.data }], guard := none }) (v := ?v158) rfl (by kernel_rfl) (by kernel_rfl) (by kernel_rfl) (fun _ _ _ h => h) (Or.inl ⟨by kernel_rfl, ?h158⟩) (by assumption) ?r158
      case h158 => (intro w hSw; (try dsimp only at hSw); go_simp; try with_reducible rfl)
      try simp only [Act.put, List.setIfInBounds_toArray, List.set_cons_zero, List.set_cons_succ]
      refine wpAnyH_done (by kernel_rfl) ?_ _
      clear k201 k202
      replace ZB := Lib.hid (ZB.out.below hHeld ZB.out.lt)
      replace BL := Lib.hid (BL.out.trans (hHeld.mono BL.out.size))
      replace TB := Lib.hid (TB.out.below hHeld)
      replace SV := Lib.hid (SV.out.below hHeld)
      clear hHeld qv qb qi QR QH
      go_wp2
      go_loopw [9] (fun x wq => ∃ t : Nat, t ≤ n ∧ x = .int .i64 t ∧ Hid (Below w.heap.size w wq) ∧ Hid (Holds wq v1.heap.size 24 #[.int .i64 n, .slice aB mB dB]) ∧ Hid (SL wq aB mB dB R) ∧ Hid (SL wq av k cv v)) (fun x _ => n - (intOf x).toNat)
      case atStart => exact ⟨0, by omega, rfl, BL, ZB, TB, SV⟩
      case round =>
        clear BL ZB TB SV
        obtain ⟨i, hi, rfl, BL, ZB, TB, SV⟩ := hrel
        have k301 := ZB.out.cell 0
        have k302 := ZB.out.cell 1
        by_cases hlt2 : i < n
        · have k1 : (i : Int) < (n : Int) := by omega
          obtain ⟨b, off, ea, hb, i0, i1⟩ := hI0.out.at_ (k := i) (by have := hx'.out; omega)
          subst ea
          have hwb := BL.out.size
          have ku : IntKind.i64.wrap ((i : Int) + 1) = (i : Int) + 1 := wrap_small (by omega) (by omega)
          have qi := QI.out i hlt2
          rw [hit.out i hlt2, show ((i + 1 : Nat) : Int) = (i : Int) + 1 by omega] at qi
          have qi := Lib.hid qi
          have qp := Lib.hid (QP.out i)
          generalize (xs.getD i (0, 0)).1 = x at *
          generalize (xs.getD i (0, 0)).2 = y at *
          generalize (ofP x y).1 = px at *
          generalize (ofP x y).2 = py at *
          have q := Lib.hid (qi.out _ aB dB TB.out)
          go_wp2_with fail
          with_reducible refine q.out.mono ?_
          rintro e s1 ⟨rfl, b1⟩
          clear k301 k302
          clear q qi
          have B0 := box_below s1 #[.int .i64 px, .int .i64 py] 38
          have B := b1.trans (B0.mono b1.size)
          replace ZB := Lib.hid (ZB.out.below B ZB.out.lt)
          replace BL := Lib.hid (BL.out.trans (B.mono BL.out.size))
          replace TB := Lib.hid (TB.out.below B)
          replace SV := Lib.hid (SV.out.below B)
          have ZI := Lib.hid (Holds.new s1 38 #[.int .i64 px, .int .i64 py])
          clear b1 B B0
          go_wp2
          generalize (s1.alloc (.cells #[.int .i64 px, .int .i64 py] 38)) = V at *
          have k401 : ∀ W, Below V.heap.size V W → W.cell? ⟨v1.heap.size, 0, none⟩ = some (.int .i64 n) := fun W hW => (ZB.out.below hW ZB.out.lt).cell 0
          have k402 : ∀ W, Below V.heap.size V W → W.cell? ⟨v1.heap.size, 1, none⟩ = some (.slice aB mB dB) := fun W hW => (ZB.out.below hW ZB.out.lt).cell 1
          have k403 : ∀ W, Below V.heap.size V W → W.cell? ⟨s1.heap.size, 0, none⟩ = some (.int .i64 px) := fun W hW => (ZI.out.below hW ZI.out.lt).cell 0
          have k404 : ∀ W, Below V.heap.size V W → W.cell? ⟨s1.heap.size, 1, none⟩ = some (.int .i64 py) := fun W hW => (ZI.out.below hW ZI.out.lt).cell 1
          have hbz := BL.out.size
          skip
          have c0 : ∀ W, Below V.heap.size V W → W.cell? ⟨b, off + i * 2, none⟩ = some (.int .i64 x) := fun W hW => ((BL.out.trans (hW.mono BL.out.size)).cell (p := ⟨b, off + i * 2, none⟩) hb).trans i0
          have c1 : ∀ W, Below V.heap.size V W → W.cell? ⟨b, off + i * 2 + 1, none⟩ = some (.int .i64 y) := fun W hW => ((BL.out.trans (hW.mono BL.out.size)).cell (p := ⟨b, off + i * 2 + 1, none⟩) hb).trans i1
          have qb := Lib.hid (fun W (hW : Below V.heap.size V W) => TB.out.below hW)
          refine wp_drawn_on (fun W => Below V.heap.size V W) (by kernel_rfl) (below_drew (Below.refl _ _)) (fun hHeld => ?_)
          refine wpAnyH_take (i := 0) (oi := { dst := some 96, op := Go.Op.move (Go.Operand.tmp 11), type := 27, pos := "law.go:98", after := #[], guard := none }) (v := ?v159) rfl (by kernel_rfl) (by kernel_rfl) (by kernel_rfl) (fun _ _ _ h => h) (Or.inl ⟨by kernel_rfl, ?h159⟩) (by assumption) ?r159
          case h159 => (intro w hSw; (try dsimp only at hSw); go_simp; try with_reducible rfl)
          try simp only [Act.put, List.setIfInBounds_toArray, List.set_cons_zero, List.set_cons_succ]
          refine wpAnyH_take (i := 1) (oi := { dst := some 97, op := Go.Op.binOp Go.BinOp.neq 27 (Go.Operand.tmp 96) (Go.Operand.const (Go.Value.int Go.IntKind.i64 0)) 27, type := 4, pos := "law.go:98", after := #[{ on := 0, ground := Go.Ground.data }], guard := none }) (v := ?v160) rfl (by kernel_rfl) (by kernel_rfl) (by kernel_rfl) (fun _ _ _ h => h) (Or.inl ⟨by kernel_rfl, ?h160⟩) (by assumption) ?r160
          case h160 => (intro w hSw; (try dsimp only at hSw); go_simp; try with_reducible rfl)
          try simp only [Act.put, List.setIfInBounds_toArray, List.set_cons_zero, List.set_cons_succ]
          refine wpAnyH_take (i := 2) (oi := { dst := some 98, op := Go.Op.move (Go.Operand.tmp 97), type := 4, pos := "law.go:98", after := #[{ on := 1, ground := Go.Ground.data }], guard := none }) (v := ?v161) rfl (by kernel_rfl) (by kernel_rfl) (by kernel_rfl) (fun _ _ _ h => h) (Or.inl ⟨by kernel_rfl, ?h161⟩) (by assumption) ?r161
          case h161 => (intro w hSw; (try dsimp only at hSw); go_simp; try with_reducible rfl)
          try simp only [Act.put, List.setIfInBounds_toArray, List.set_cons_zero, List.set_cons_succ]
          refine wpAnyH_take (i := 3) (oi := { dst := some 99, op := Go.Op.load 24 (Go.Operand.tmp 5), type := 24, pos := "law.go:98", after := #[{ on := 2, ground := Go.Ground.guard }], guard := some (2, false) }) (v := ?v162) rfl (by kernel_rfl) (by kernel_rfl) (by kernel_rfl) (fun _ _ _ h => h) (Or.inl ⟨by kernel_rfl, ?h162⟩) (by assumption) ?r162
          case h162 => (intro w hSw; (try dsimp only at hSw); go_simp; try with_reducible rfl)
          try simp only [Act.put, List.setIfInBounds_toArray, List.set_cons_zero, List.set_cons_succ]
          refine wpAnyH_ready (rs := [4]) (by kernel_rfl) (by simp) ?_
          refine AllReadyH.cons (o := { dst := some 100, op := Go.Op.call { callee := Go.Callee.value (Go.Operand.func 36), args := #[Go.Operand.tmp 99], argTypes := #[24] }, type := 4, pos := "law.go:98", after := #[{ on := 3, ground := Go.Ground.data }, { on := 2, ground := Go.Ground.chain }, { on := 2, ground := Go.Ground.guard }], guard := some (2, false) }) rfl (fun K hK => ?_) AllReadyH.nil
          go_simp
          with_reducible refine (QE.out _ aB dB (qb.out _ hHeld)).mono ?_
          rintro e t4 ⟨rfl, b4⟩
          go_simp
          refine hK.out _ _ (hHeld.trans (b4.mono hHeld.size)) (fun hHeld => ?_)
          clear hK K
          try simp only [Act.put, List.setIfInBounds_toArray, List.set_cons_zero, List.set_cons_succ]
          refine wpAnyH_take (i := 5) (oi := { dst := some 101, op := Go.Op.unOp Go.UnOp.not 4 (Go.Operand.tmp 100), type := 4, pos := "law.go:98", after := #[{ on := 4, ground := Go.Ground.data }, { on := 2, ground := Go.Ground.guard }], guard := some (2, false) }) (v := ?v163) rfl (by kernel_rfl) (by kernel_rfl) (by kernel_rfl) (fun _ _ _ h => h) (Or.inl ⟨by kernel_rfl, ?h163⟩) (by assumption) ?r163
          case h163 => (intro w hSw; (try dsimp only at hSw); go_simp; try with_reducible rfl)
          try simp only [Act.put, List.setIfInBounds_toArray, List.set_cons_zero, List.set_cons_succ]
          refine wpAnyH_take (i := 6) (oi := { dst := some 102, op := Go.Op.move (Go.Operand.tmp 101), type := 4, pos := "law.go:98", after := #[{ on := 5, ground := Go.Ground.data }, { on := 4, ground := Go.Ground.chain }, { on := 2, ground := Go.Ground.guard }], guard := some (2, false) }) (v := ?v164) rfl (by kernel_rfl) (by kernel_rfl) (by kernel_rfl) (fun _ _ _ h => h) (Or.inl ⟨by kernel_rfl, ?h164⟩) (by assumption) ?r164
          case h164 => (intro w hSw; (try dsimp only at hSw); go_simp; try with_reducible rfl)
          try simp only [Act.put, List.setIfInBounds_toArray, List.set_cons_zero, List.set_cons_succ]
          refine wpAnyH_take (i := 7) (oi := { dst := some 103, op := Go.Op.load 38 (Go.Operand.tmp 10), type := 38, pos := "law.go:98", after := #[{ on := 6, ground := Go.Ground.guard }], guard := some (6, true) }) (v := ?v165) rfl (by kernel_rfl) (by kernel_rfl) (by kernel_rfl) (fun _ _ _ h => h) (Or.inl ⟨by kernel_rfl, ?h165⟩) (by assumption) ?r165
          case h165 => (intro w hSw; (try dsimp only at hSw); go_simp; try with_reducible rfl)
          try simp only [Act.put, List.setIfInBounds_toArray, List.set_cons_zero, List.set_cons_succ]
          refine wpAnyH_take (i := 8) (oi := { dst := some 104, op := Go.Op.move (Go.Operand.tmp 0), type := 47, pos := "law.go:98", after := #[{ on := 6, ground := Go.Ground.guard }], guard := some (6, true) }) (v := ?v166) rfl (by kernel_rfl) (by kernel_rfl) (by kernel_rfl) (fun _ _ _ h => h) (Or.inl ⟨by kernel_rfl, ?h166⟩) (by assumption) ?r166
          case h166 => (intro w hSw; (try dsimp only at hSw); go_simp; try with_reducible rfl)
          try simp only [Act.put, List.setIfInBounds_toArray, List.set_cons_zero, List.set_cons_succ]
          refine wpAnyH_take (i := 9) (oi := { dst := some 105, op := Go.Op.move (Go.Operand.tmp 9), type := 3, pos := "law.go:98", after := #[{ on := 6, ground := Go.Ground.guard }], guard := some (6, true) }) (v := ?v167) rfl (by kernel_rfl) (by kernel_rfl) (by kernel_rfl) (fun _ _ _ h => h) (Or.inl ⟨by kernel_rfl, ?h167⟩) (by assumption) ?r167
          case h167 => (intro w hSw; (try dsimp only at hSw); go_simp; try with_reducible rfl)
          try simp only [Act.put, List.setIfInBounds_toArray, List.set_cons_zero, List.set_cons_succ]
          refine wpAnyH_take (i := 10) (oi := { dst := some 106, op := Go.Op.indexAddr 47 (Go.Operand.tmp 104) (Go.Operand.tmp 105), type := 0, pos := "law.go:98", after := #[{ on := 8, ground := Go.Ground.data }, { on := 9, ground := Go.Ground.data }, { on := 6, ground := Go.Ground.guard }], guard := some (6, true) }) (v := ?v168) rfl (by kernel_rfl) (by kernel_rfl) (by kernel_rfl) (fun _ _ _ h => h) (Or.inl ⟨by kernel_rfl, ?h168⟩) (by assumption) ?r168
          case h168 => (intro w hSw; (try dsimp only at hSw); go_simp; try with_reducible rfl)
          try simp only [Act.put, List.setIfInBounds_toArray, List.set_cons_zero, List.set_cons_succ]
          refine wpAnyH_take (i := 11) (oi := { dst := some 107, op := Go.Op.load 38 (Go.Operand.tmp 106), type := 38, pos := "law.go:98", after := #[{ on := 10, ground := Go.Ground.data }, { on := 6, ground := Go.Ground.guard }], guard := some (6, true) }) (v := ?v169) rfl (by kernel_rfl) (by kernel_rfl) (by kernel_rfl) (fun _ _ _ h => h) (Or.inl ⟨by kernel_rfl, ?h169⟩) (by assumption) ?r169
          case h169 => (intro w hSw; (try dsimp only at hSw); go_simp; try with_reducible rfl)
          try simp only [Act.put, List.setIfInBounds_toArray, List.set_cons_zero, List.set_cons_succ]
          refine wpAnyH_ready (rs := [12]) (by kernel_rfl) (by simp) ?_
          refine AllReadyH.cons (o := { dst := some 108, op := Go.Op.call { callee := Go.Callee.value (Go.Operand.func 37), args := #[Go.Operand.tmp 107], argTypes := #[38] }, type := 38, pos := "law.go:98", after := #[{ on := 11, ground := Go.Ground.data }, { on := 6, ground := Go.Ground.chain }, { on := 6, ground := Go.Ground.guard }], guard := some (6, true) }) rfl (fun K hK => ?_) AllReadyH.nil
          go_simp
          with_reducible refine (qp.out _).mono ?_
          rintro e t12 ⟨rfl, b12⟩
          go_simp
          refine hK.out _ _ (hHeld.trans (b12.mono hHeld.size)) (fun hHeld => ?_)
          clear hK K
          try simp only [Act.put, List.setIfInBounds_toArray, List.set_cons_zero, List.set_cons_succ]
          refine wpAnyH_take (i := 13) (oi := { dst := some 109, op := Go.Op.binOp Go.BinOp.neq 38 (Go.Operand.tmp 103) (Go.Operand.tmp 108) 38, type := 4, pos := "law.go:98", after := #[{ on := 7, ground := Go.Ground.data }, { on := 12, ground := Go.Ground.data }, { on := 6, ground := Go.Ground.guard }], guard := some (6, true) }) (v := ?v170) rfl (by kernel_rfl) (by kernel_rfl) (by kernel_rfl) (fun _ _ _ h => h) (Or.inl ⟨by kernel_rfl, ?h170⟩) (by assumption) ?r170
          case h170 => (intro w hSw; (try dsimp only at hSw); refine Eq.trans (b := Result.ok (Next.value (.bool false)) w) (by go_simp) ?_; with_reducible rfl)
          try simp only [Act.put, List.setIfInBounds_toArray, List.set_cons_zero, List.set_cons_succ]
          refine wpAnyH_take (i := 14) (oi := { dst := some 110, op := Go.Op.pick (Go.Operand.tmp 102) (Go.Operand.tmp 109) (Go.Operand.const (Go.Value.bool false)), type := 4, pos := "law.go:98", after := #[{ on := 6, ground := Go.Ground.data }, { on := 13, ground := Go.Ground.data }, { on := 2, ground := Go.Ground.guard }], guard := some (2, false) }) (v := ?v171) rfl (by kernel_rfl) (by kernel_rfl) (by kernel_rfl) (fun _ _ _ h => h) (Or.inl ⟨by kernel_rfl, ?h171⟩) (by assumption) ?r171
          case h171 => (intro w hSw; (try dsimp only at hSw); go_simp; try with_reducible rfl)
          try simp only [Act.put, List.setIfInBounds_toArray, List.set_cons_zero, List.set_cons_succ]
          refine wpAnyH_take (i := 15) (oi := { dst := some 111, op := Go.Op.pick (Go.Operand.tmp 98) (Go.Operand.const (Go.Value.bool true)) (Go.Operand.tmp 110), type := 4, pos := "law.go:98", after := #[{ on := 2, ground := Go.Ground.data }, { on := 14, ground := Go.Ground.data }], guard := none }) (v := ?v172) rfl (by kernel_rfl) (by kernel_rfl) (by kernel_rfl) (fun _ _ _ h => h) (Or.inl ⟨by kernel_rfl, ?h172⟩) (by assumption) ?r172
          case h172 => (intro w hSw; (try dsimp only at hSw); go_simp; try with_reducible rfl)
          try simp only [Act.put, List.setIfInBounds_toArray, List.set_cons_zero, List.set_cons_succ]
          refine wpAnyH_take (i := 16) (oi := { dst := some 112, op := Go.Op.move (Go.Operand.tmp 111), type := 4, pos := "law.go:98", after := #[{ on := 15, ground := Go.Ground.data }, { on := 12, ground := Go.Ground.chain }], guard := none }) (v := ?v173) rfl (by kernel_rfl) (by kernel_rfl) (by kernel_rfl) (fun _ _ _ h => h) (Or.inl ⟨by kernel_rfl, ?h173⟩) (by assumption) ?r173
          case h173 => (intro w hSw; (try dsimp only at hSw); go_simp; try with_reducible rfl)
          try simp only [Act.put, List.setIfInBounds_toArray, List.set_cons_zero, List.set_cons_succ]
          refine wpAnyH_take (i := 17) (oi := { dst := some 113, op := Go.Op.load 24 (Go.Operand.tmp 5), type := 24, pos := "law.go:98", after := #[{ on := 16, ground := Go.Ground.guard }], guard := some (16, false) }) (v := ?v174) rfl (by kernel_rfl) (by kernel_rfl) (by kernel_rfl) (fun _ _ _ h => h) (Or.inl ⟨by kernel_rfl, ?h174⟩) (by assumption) ?r174
          case h174 => (intro w hSw; (try dsimp only at hSw); go_simp; try with_reducible rfl)
          try simp only [Act.put, List.setIfInBounds_toArray, List.set_cons_zero, List.set_cons_succ]
          refine wpAnyH_ready (rs := [18]) (by kernel_rfl) (by simp) ?_
          refine AllReadyH.cons (o := { dst := some 114, op := Go.Op.call { callee := Go.Callee.value (Go.Operand.func 36), args := #[Go.Operand.tmp 113], argTypes := #[24] }, type := 4, pos := "law.go:98", after := #[{ on := 17, ground := Go.Ground.data }, { on := 16, ground := Go.Ground.chain }, { on := 16, ground := Go.Ground.guard }], guard := some (16, false) }) rfl (fun K hK => ?_) AllReadyH.nil
          go_simp
          with_reducible refine (QE.out _ aB dB (qb.out _ hHeld)).mono ?_
          rintro e t18 ⟨rfl, b18⟩
          go_simp
          refine hK.out _ _ (hHeld.trans (b18.mono hHeld.size)) (fun hHeld => ?_)
          clear hK K
          try simp only [Act.put, List.setIfInBounds_toArray, List.set_cons_zero, List.set_cons_succ]
          refine wpAnyH_take (i := 19) (oi := { dst := some 115, op := Go.Op.move (Go.Operand.tmp 114), type := 4, pos := "law.go:98", after := #[{ on := 18, ground := Go.Ground.data }, { on := 18, ground := Go.Ground.chain }, { on := 16, ground := Go.Ground.guard }], guard := some (16, false) }) (v := ?v175) rfl (by kernel_rfl) (by kernel_rfl) (by kernel_rfl) (fun _ _ _ h => h) (Or.inl ⟨by kernel_rfl, ?h175⟩) (by assumption) ?r175
          case h175 => (intro w hSw; (try dsimp only at hSw); go_simp; try with_reducible rfl)
          try simp only [Act.put, List.setIfInBounds_toArray, List.set_cons_zero, List.set_cons_succ]
          refine wpAnyH_take (i := 20) (oi := { dst := some 116, op := Go.Op.load 38 (Go.Operand.tmp 10), type := 38, pos := "law.go:98", after := #[{ on := 19, ground := Go.Ground.guard }], guard := some (19, true) }) (v := undef) rfl (by kernel_rfl) (by kernel_rfl) (by kernel_rfl) (fun _ _ _ h => h) (Or.inr ⟨by kernel_rfl, rfl⟩) (by assumption) ?_
          try simp only [Act.put, List.setIfInBounds_toArray, List.set_cons_zero, List.set_cons_succ]
          refine wpAnyH_take (i := 21) (oi := { dst := some 117, op := Go.Op.call { callee := Go.Callee.value (Go.Operand.func 38), args := #[], argTypes := #[] }, type := 38, pos := "law.go:98", after := #[{ on := 19, ground := Go.Ground.chain }, { on := 19, ground := Go.Ground.guard }], guard := some (19, true) }) (v := undef) rfl (by kernel_rfl) (by kernel_rfl) (by kernel_rfl) (fun _ _ _ h => h) (Or.inr ⟨by kernel_rfl, rfl⟩) (by assumption) ?_
          try simp only [Act.put, List.setIfInBounds_toArray, List.set_cons_zero, List.set_cons_succ]
          refine wpAnyH_take (i := 22) (oi := { dst := some 118, op := Go.Op.binOp Go.BinOp.neq 38 (Go.Operand.tmp 116) (Go.Operand.tmp 117) 38, type := 4, pos := "law.go:98", after := #[{ on := 20, ground := Go.Ground.data }, { on := 21, ground := Go.Ground.data }, { on := 19, ground := Go.Ground.guard }], guard := some (19, true) }) (v := undef) rfl (by kernel_rfl) (by kernel_rfl) (by kernel_rfl) (fun _ _ _ h => h) (Or.inr ⟨by kernel_rfl, rfl⟩) (by assumption) ?_
          try simp only [Act.put, List.setIfInBounds_toArray, List.set_cons_zero, List.set_cons_succ]
          refine wpAnyH_take (i := 23) (oi := { dst := some 119, op := Go.Op.pick (Go.Operand.tmp 115) (Go.Operand.tmp 118) (Go.Operand.const (Go.Value.bool false)), type := 4, pos := "law.go:98", after := #[{ on := 19, ground := Go.Ground.data }, { on := 22, ground := Go.Ground.data }, { on := 16, ground := Go.Ground.guard }], guard := some (16, false) }) (v := ?v179) rfl (by kernel_rfl) (by kernel_rfl) (by kernel_rfl) (fun _ _ _ h => h) (Or.inl ⟨by kernel_rfl, ?h179⟩) (by assumption) ?r179
          case h179 => (intro w hSw; (try dsimp only at hSw); go_simp; try with_reducible rfl)
          try simp only [Act.put, List.setIfInBounds_toArray, List.set_cons_zero, List.set_cons_succ]
          refine wpAnyH_take (i := 24) (oi := { dst := some 120, op := Go.Op.pick (Go.Operand.tmp 112) (Go.Operand.const (Go.Value.bool true)) (Go.Operand.tmp 119), type := 4, pos := "law.go:98", after := #[{ on := 16, ground := Go.Ground.data }, { on := 23, ground := Go.Ground.data }], guard := none }) (v := ?v180) rfl (by kernel_rfl) (by kernel_rfl) (by kernel_rfl) (fun _ _ _ h => h) (Or.inl ⟨by kernel_rfl, ?h180⟩) (by assumption) ?r180
          case h180 => (intro w hSw; (try dsimp only at hSw); go_simp; try with_reducible rfl)
          try simp only [Act.put, List.setIfInBounds_toArray, List.set_cons_zero, List.set_cons_succ]
          refine wpAnyH_done (by kernel_rfl) ?_ _
          clear k401 k402 k403 k404
          replace ZB := Lib.hid (ZB.out.below hHeld ZB.out.lt)
          replace ZI := Lib.hid (ZI.out.below hHeld ZI.out.lt)
          replace BL := Lib.hid (BL.out.trans (hHeld.mono BL.out.size))
          replace TB := Lib.hid (TB.out.below hHeld)
          replace SV := Lib.hid (SV.out.below hHeld)
          clear hHeld qb c0 c1
          go_wp2
          go_roundw
          case rel => exact ⟨i + 1, by omega, by go_num, BL, ZB, TB, SV⟩
          case measure => simp [intOf]; omega
        · have hie : i = n := by omega
          subst hie
          go_wp2
          go_ret
          exact ⟨rfl, BL.out⟩
set_option maxRecDepth 100000 in
set_option maxHeartbeats 8000000 in
theorem boxes_fl (n mv : Nat) (a0 av : Option Addr) (c0 cv : Nat) (xs : List (Int × Int)) (v : List Int) (w : World) (hx : xs.length = n) (h0 : ItS w.heap.size w a0 xs) (hv : SL w av mv cv v) (g1 : ¬ 20 < n) (g2 : ¬ 20 < mv) (g3 : ¬ 8 < n) (hR : boxL n xs ≠ []) (hm : n ≤ mv) : Calls Try.prog 5 #[.slice a0 n c0, .slice av mv cv] w (Gives (.bool true) w) := by
  have g1i : ¬ (20 : Int) < (n : Int) := by omega
  have g2i : ¬ (20 : Int) < (mv : Int) := by omega
  have g3i : ¬ (8 : Int) < (n : Int) := by omega
  have hn : n ≤ 8 := by omega
  have hvl := hv.len
  obtain ⟨mB, hmB⟩ : ∃ x, x = (boxL n xs).length := ⟨_, rfl⟩
  have rB : mB ≤ 81 := by rw [hmB]; exact (boxL_isz hn xs).small
  have QX := Lib.hid ((zbox_any n hn xs hx a0 c0 w h0).mono (fun e w' h => ends_of (m := mB) hmB.symm (by omega) h))
  have QR := Lib.hid (fun W (hI : ItS W.heap.size W a0 xs) => rbox_any n hn xs hx a0 c0 W hI)
  obtain ⟨P, hP⟩ : ∃ P : Nat → Bool, P = inK n xs v := ⟨_, rfl⟩
  have hP0 : Hid (P 0 = decide (mv = n)) := Lib.hid (by rw [hP, hvl]; simp [inK])
  have hPn : Hid (∀ k, P (k + 1) = (P k && itvB (xs.getD k (0, 0)) (v.getD k 0))) := Lib.hid (fun k => by rw [hP]; exact inK_next n xs v k)
  have hbh : hasB n (boxL n xs) v = P n := by rw [hP, box_has hn, ← hvl, show min n mv = n by omega]
  have QH := Lib.hid (fun W a c (hS : SL W a mB c (boxL n xs)) (hV : SL W av mv cv v) => has_any n a mB c _ av mv cv v W hS hV)
  rw [hbh] at QH
  have QI := Lib.hid (fun k (hk : k < n) W a c (hS : SL W a mB c (boxL n xs)) => zitvL_any n (k + 1) (by omega) _ (boxL_isz hn xs) a mB c W hS)
  have QE := Lib.hid (fun W a c (hS : SL W a mB c (boxL n xs)) => empty_any n a mB c _ W hS)
  have he : emptyB n (boxL n xs) = false := by unfold emptyB; rw [(boxL_isz hn xs).check]; simp [hR]
  rw [he] at QE
  have QN := Lib.hid (fun W => rnone_any W)
  have QP := Lib.hid (fun k W => rplainZ_any (xs.getD k (0, 0)).1 (xs.getD k (0, 0)).2 W)
  have hit : Hid (∀ k, k < n → itvL n (boxL n xs) (k + 1) = ofP (xs.getD k (0, 0)).1 (xs.getD k (0, 0)).2) := Lib.hid (fun k hk => by exact box_itv hn xs k hk hR)
  have hI0 := Lib.hid h0
  have hx' := Lib.hid hx
  have hvl' := Lib.hid hvl
  have BL := Lib.hid (Below.refl w.heap.size w)
  have SV := Lib.hid hv
  clear h0 hv hx hvl hP hbh he hR hmB
  skip
  generalize boxL n xs = R at *
  go_enter Try.func5, Try.ntmps5
  have q := Lib.hid (QX.out)
  go_wp2_with fail
  with_reducible refine q.out.mono ?_
  rintro e v1 ⟨aB, dB, rfl, sB, bB⟩
  clear q QX
  have B0 := box_below v1 #[.int .i64 n, .slice aB mB dB] 24
  have B := bB.trans (B0.mono bB.size)
  replace BL := Lib.hid (BL.out.trans (B.mono BL.out.size))
  replace SV := Lib.hid (SV.out.below B)
  have ZB := Lib.hid (Holds.new v1 24 #[.int .i64 n, .slice aB mB dB])
  have TB := Lib.hid (sB.below B0)
  clear bB B B0 sB
  have q := Lib.hid (zlivesAt w _ BL.out)
  go_wp2_with fail
  with_reducible refine q.out.mono ?_
  rintro e v2 ⟨rfl, b2, -⟩
  clear q
  replace ZB := Lib.hid (ZB.out.below b2 ZB.out.lt)
  replace BL := Lib.hid (BL.out.trans (b2.mono BL.out.size))
  replace SV := Lib.hid (SV.out.below b2)
  replace TB := Lib.hid (TB.out.below b2)
  clear b2
  go_wp2
  go_loopw [7, 8] (fun y x wr => ∃ k : Nat, k ≤ n ∧ x = .int .i64 k ∧ y = .bool (P k) ∧ Hid (Below w.heap.size w wr) ∧ Hid (Holds wr v1.heap.size 24 #[.int .i64 n, .slice aB mB dB]) ∧ Hid (SL wr aB mB dB R) ∧ Hid (SL wr av mv cv v)) (fun _ x _ => n - (intOf x).toNat)
  case atStart => exact ⟨0, by omega, rfl, by rw [hP0.out]; congr 1; exact beq_cast _ _, BL, ZB, TB, SV⟩
  case round =>
    clear BL ZB TB SV
    obtain ⟨k, hk, rfl, rfl, BL, ZB, TB, SV⟩ := hrel
    by_cases hlt : k < n
    · have k1 : (k : Int) < (n : Int) := by omega
      have k2 : (k : Int) < (mv : Int) := by omega
      obtain ⟨b, off, ea, hb, i0, i1⟩ := (hI0.out.below BL.out).at_ (k := k) (by have := hx'.out; omega)
      obtain ⟨b2, off2, ev, hb2, i2⟩ := sees_at' SV.out.sees (i := k) (by have := hvl'.out; omega)
      subst ea ev
      have hwb := BL.out.size
      have c0 : ∀ W, Below wr.heap.size wr W → W.cell? ⟨b, off + k * 2, none⟩ = some (.int .i64 (xs.getD k (0, 0)).1) := fun W hW => (hW.cell (p := ⟨b, off + k * 2, none⟩) (by show b < _; omega)).trans i0
      have c1 : ∀ W, Below wr.heap.size wr W → W.cell? ⟨b, off + k * 2 + 1, none⟩ = some (.int .i64 (xs.getD k (0, 0)).2) := fun W hW => (hW.cell (p := ⟨b, off + k * 2 + 1, none⟩) (by show b < _; omega)).trans i1
      have c2 : ∀ W, Below wr.heap.size wr W → W.cell? ⟨b2, off2 + k, none⟩ = some (.int .i64 (v.getD k 0)) := fun W hW => (hW.cell (p := ⟨b2, off2 + k, none⟩) (by show b2 < _; omega)).trans i2
      have qh := Lib.hid (fun W => ihas_any (xs.getD k (0, 0)) (v.getD k 0) W)
      have hn1 := Lib.hid (hPn.out k)
      clear i0 i1 i2
      generalize itvB (xs.getD k (0, 0)) (v.getD k 0) = u at *
      generalize (xs.getD k (0, 0)).1 = x at *
      generalize (xs.getD k (0, 0)).2 = y at *
      generalize v.getD k 0 = z at *
      obtain ⟨p1, hp1'⟩ : ∃ p, p = P (k + 1) := ⟨_, rfl⟩
      rw [← hp1'] at hn1
      have hp1 := Lib.hid hp1'
      clear hp1'
      cases hpk : P k
      · have hn2 : Hid (p1 = false) := Lib.hid (by rw [hn1.out, hpk]; rfl)
        clear hn1 hpk
        go_wp2
        refine wp_drawn_on (fun W => Below wr.heap.size wr W) (by kernel_rfl) (below_drew (Below.refl _ _)) (fun hHeld => ?_)
        refine wpAnyH_take (i := 0) (oi := { dst := some 55, op := Go.Op.move (Go.Operand.tmp 7), type := 4, pos := "law.go:91", after := #[], guard := none }) (v := ?v181) rfl (by kernel_rfl) (by kernel_rfl) (by kernel_rfl) (fun _ _ _ h => h) (Or.inl ⟨by kernel_rfl, ?h181⟩) (by assumption) ?r181
        case h181 => (intro w hSw; (try dsimp only at hSw); go_simp; try with_reducible rfl)
        try simp only [Act.put, List.setIfInBounds_toArray, List.set_cons_zero, List.set_cons_succ]
        refine wpAnyH_take (i := 1) (oi := { dst := some 56, op := Go.Op.move (Go.Operand.tmp 55), type := 4, pos := "law.go:91", after := #[{ on := 0, ground := Go.Ground.data }], guard := none }) (v := ?v182) rfl (by kernel_rfl) (by kernel_rfl) (by kernel_rfl) (fun _ _ _ h => h) (Or.inl ⟨by kernel_rfl, ?h182⟩) (by assumption) ?r182
        case h182 => (intro w hSw; (try dsimp only at hSw); go_simp; try with_reducible rfl)
        try simp only [Act.put, List.setIfInBounds_toArray, List.set_cons_zero, List.set_cons_succ]
        refine wpAnyH_take (i := 2) (oi := { dst := some 57, op := Go.Op.move (Go.Operand.tmp 0), type := 47, pos := "law.go:91", after := #[{ on := 1, ground := Go.Ground.guard }], guard := some (1, true) }) (v := undef) rfl (by kernel_rfl) (by kernel_rfl) (by kernel_rfl) (fun _ _ _ h => h) (Or.inr ⟨by kernel_rfl, rfl⟩) (by assumption) ?_
        try simp only [Act.put, List.setIfInBounds_toArray, List.set_cons_zero, List.set_cons_succ]
        refine wpAnyH_take (i := 3) (oi := { dst := some 58, op := Go.Op.move (Go.Operand.tmp 8), type := 3, pos := "law.go:91", after := #[{ on := 1, ground := Go.Ground.guard }], guard := some (1, true) }) (v := undef) rfl (by kernel_rfl) (by kernel_rfl) (by kernel_rfl) (fun _ _ _ h => h) (Or.inr ⟨by kernel_rfl, rfl⟩) (by assumption) ?_
        try simp only [Act.put, List.setIfInBounds_toArray, List.set_cons_zero, List.set_cons_succ]
        refine wpAnyH_take (i := 4) (oi := { dst := some 59, op := Go.Op.indexAddr 47 (Go.Operand.tmp 57) (Go.Operand.tmp 58), type := 0, pos := "law.go:91", after := #[{ on := 2, ground := Go.Ground.data }, { on := 3, ground := Go.Ground.data }, { on := 1, ground := Go.Ground.guard }], guard := some (1, true) }) (v := undef) rfl (by kernel_rfl) (by kernel_rfl) (by kernel_rfl) (fun _ _ _ h => h) (Or.inr ⟨by kernel_rfl, rfl⟩) (by assumption) ?_
        try simp only [Act.put, List.setIfInBounds_toArray, List.set_cons_zero, List.set_cons_succ]
        refine wpAnyH_take (i := 5) (oi := { dst := some 60, op := Go.Op.load 38 (Go.Operand.tmp 59), type := 38, pos := "law.go:91", after := #[{ on := 4, ground := Go.Ground.data }, { on := 1, ground := Go.Ground.guard }], guard := some (1, true) }) (v := undef) rfl (by kernel_rfl) (by kernel_rfl) (by kernel_rfl) (fun _ _ _ h => h) (Or.inr ⟨by kernel_rfl, rfl⟩) (by assumption) ?_
        try simp only [Act.put, List.setIfInBounds_toArray, List.set_cons_zero, List.set_cons_succ]
        refine wpAnyH_take (i := 6) (oi := { dst := some 61, op := Go.Op.move (Go.Operand.tmp 1), type := 22, pos := "law.go:91", after := #[{ on := 1, ground := Go.Ground.guard }], guard := some (1, true) }) (v := undef) rfl (by kernel_rfl) (by kernel_rfl) (by kernel_rfl) (fun _ _ _ h => h) (Or.inr ⟨by kernel_rfl, rfl⟩) (by assumption) ?_
        try simp only [Act.put, List.setIfInBounds_toArray, List.set_cons_zero, List.set_cons_succ]
        refine wpAnyH_take (i := 7) (oi := { dst := some 62, op := Go.Op.move (Go.Operand.tmp 8), type := 3, pos := "law.go:91", after := #[{ on := 1, ground := Go.Ground.guard }], guard := some (1, true) }) (v := undef) rfl (by kernel_rfl) (by kernel_rfl) (by kernel_rfl) (fun _ _ _ h => h) (Or.inr ⟨by kernel_rfl, rfl⟩) (by assumption) ?_
        try simp only [Act.put, List.setIfInBounds_toArray, List.set_cons_zero, List.set_cons_succ]
        refine wpAnyH_take (i := 8) (oi := { dst := some 63, op := Go.Op.indexAddr 22 (Go.Operand.tmp 61) (Go.Operand.tmp 62), type := 0, pos := "law.go:91", after := #[{ on := 6, ground := Go.Ground.data }, { on := 7, ground := Go.Ground.data }, { on := 1, ground := Go.Ground.guard }], guard := some (1, true) }) (v := undef) rfl (by kernel_rfl) (by kernel_rfl) (by kernel_rfl) (fun _ _ _ h => h) (Or.inr ⟨by kernel_rfl, rfl⟩) (by assumption) ?_
        try simp only [Act.put, List.setIfInBounds_toArray, List.set_cons_zero, List.set_cons_succ]
        refine wpAnyH_take (i := 9) (oi := { dst := some 64, op := Go.Op.load 3 (Go.Operand.tmp 63), type := 3, pos := "law.go:91", after := #[{ on := 8, ground := Go.Ground.data }, { on := 1, ground := Go.Ground.guard }], guard := some (1, true) }) (v := undef) rfl (by kernel_rfl) (by kernel_rfl) (by kernel_rfl) (fun _ _ _ h => h) (Or.inr ⟨by kernel_rfl, rfl⟩) (by assumption) ?_
        try simp only [Act.put, List.setIfInBounds_toArray, List.set_cons_zero, List.set_cons_succ]
        refine wpAnyH_take (i := 10) (oi := { dst := some 65, op := Go.Op.call { callee := Go.Callee.value (Go.Operand.func 33), args := #[Go.Operand.tmp 60, Go.Operand.tmp 64], argTypes := #[38, 3] }, type := 4, pos := "law.go:91", after := #[{ on := 5, ground := Go.Ground.data }, { on := 9, ground := Go.Ground.data }, { on := 1, ground := Go.Ground.chain }, { on := 1, ground := Go.Ground.guard }], guard := some (1, true) }) (v := undef) rfl (by kernel_rfl) (by kernel_rfl) (by kernel_rfl) (fun _ _ _ h => h) (Or.inr ⟨by kernel_rfl, rfl⟩) (by assumption) ?_
        try simp only [Act.put, List.setIfInBounds_toArray, List.set_cons_zero, List.set_cons_succ]
        refine wpAnyH_take (i := 11) (oi := { dst := some 66, op := Go.Op.pick (Go.Operand.tmp 56) (Go.Operand.tmp 65) (Go.Operand.const (Go.Value.bool false)), type := 4, pos := "law.go:91", after := #[{ on := 1, ground := Go.Ground.data }, { on := 10, ground := Go.Ground.data }], guard := none }) (v := ?v192) rfl (by kernel_rfl) (by kernel_rfl) (by kernel_rfl) (fun _ _ _ h => h) (Or.inl ⟨by kernel_rfl, ?h192⟩) (by assumption) ?r192
        case h192 => (intro w hSw; (try dsimp only at hSw); go_simp; try with_reducible rfl)
        try simp only [Act.put, List.setIfInBounds_toArray, List.set_cons_zero, List.set_cons_succ]
        refine wpAnyH_take (i := 12) (oi := { dst := some 7, op := Go.Op.assign (Go.Operand.tmp 66), type := 4, pos := "law.go:91", after := #[{ on := 11, ground := Go.Ground.data }, { on := 10, ground := Go.Ground.chain }, { on := 0, ground := Go.Ground.phase }, { on := 1, ground := Go.Ground.phase }, { on := 2, ground := Go.Ground.phase }, { on := 3, ground := Go.Ground.phase }, { on := 4, ground := Go.Ground.phase }, { on := 5, ground := Go.Ground.phase }, { on := 6, ground := Go.Ground.phase }, { on := 7, ground := Go.Ground.phase }, { on := 8, ground := Go.Ground.phase }, { on := 9, ground := Go.Ground.phase }, { on := 10, ground := Go.Ground.phase }, { on := 11, ground := Go.Ground.phase }], guard := none }) (v := ?v193) rfl (by kernel_rfl) (by kernel_rfl) (by kernel_rfl) (fun _ _ _ h => h) (Or.inl ⟨by kernel_rfl, ?h193⟩) (by assumption) ?r193
        case h193 => (intro w hSw; (try dsimp only at hSw); go_simp; try with_reducible rfl)
        try simp only [Act.put, List.setIfInBounds_toArray, List.set_cons_zero, List.set_cons_succ]
        refine wpAnyH_done (by kernel_rfl) ?_ _
        replace ZB := Lib.hid (ZB.out.below hHeld ZB.out.lt)
        replace BL := Lib.hid (BL.out.trans (hHeld.mono BL.out.size))
        replace TB := Lib.hid (TB.out.below hHeld)
        replace SV := Lib.hid (SV.out.below hHeld)
        clear hHeld c0 c1 c2
        go_wp2
        go_roundw
        case rel => exact ⟨k + 1, by omega, by go_num, by rw [← hp1.out, hn2.out], BL, ZB, TB, SV⟩
        case measure => simp [intOf]; omega
      · have hn2 : Hid (p1 = u) := Lib.hid (by rw [hn1.out, hpk]; rfl)
        clear hn1 hpk
        go_wp2
        refine wp_drawn_on (fun W => Below wr.heap.size wr W) (by kernel_rfl) (below_drew (Below.refl _ _)) (fun hHeld => ?_)
        refine wpAnyH_take (i := 0) (oi := { dst := some 55, op := Go.Op.move (Go.Operand.tmp 7), type := 4, pos := "law.go:91", after := #[], guard := none }) (v := ?v194) rfl (by kernel_rfl) (by kernel_rfl) (by kernel_rfl) (fun _ _ _ h => h) (Or.inl ⟨by kernel_rfl, ?h194⟩) (by assumption) ?r194
        case h194 => (intro w hSw; (try dsimp only at hSw); go_simp; try with_reducible rfl)
        try simp only [Act.put, List.setIfInBounds_toArray, List.set_cons_zero, List.set_cons_succ]
        refine wpAnyH_take (i := 1) (oi := { dst := some 56, op := Go.Op.move (Go.Operand.tmp 55), type := 4, pos := "law.go:91", after := #[{ on := 0, ground := Go.Ground.data }], guard := none }) (v := ?v195) rfl (by kernel_rfl) (by kernel_rfl) (by kernel_rfl) (fun _ _ _ h => h) (Or.inl ⟨by kernel_rfl, ?h195⟩) (by assumption) ?r195
        case h195 => (intro w hSw; (try dsimp only at hSw); go_simp; try with_reducible rfl)
        try simp only [Act.put, List.setIfInBounds_toArray, List.set_cons_zero, List.set_cons_succ]
        refine wpAnyH_take (i := 2) (oi := { dst := some 57, op := Go.Op.move (Go.Operand.tmp 0), type := 47, pos := "law.go:91", after := #[{ on := 1, ground := Go.Ground.guard }], guard := some (1, true) }) (v := ?v196) rfl (by kernel_rfl) (by kernel_rfl) (by kernel_rfl) (fun _ _ _ h => h) (Or.inl ⟨by kernel_rfl, ?h196⟩) (by assumption) ?r196
        case h196 => (intro w hSw; (try dsimp only at hSw); go_simp; try with_reducible rfl)
        try simp only [Act.put, List.setIfInBounds_toArray, List.set_cons_zero, List.set_cons_succ]
        refine wpAnyH_take (i := 3) (oi := { dst := some 58, op := Go.Op.move (Go.Operand.tmp 8), type := 3, pos := "law.go:91", after := #[{ on := 1, ground := Go.Ground.guard }], guard := some (1, true) }) (v := ?v197) rfl (by kernel_rfl) (by kernel_rfl) (by kernel_rfl) (fun _ _ _ h => h) (Or.inl ⟨by kernel_rfl, ?h197⟩) (by assumption) ?r197
        case h197 => (intro w hSw; (try dsimp only at hSw); go_simp; try with_reducible rfl)
        try simp only [Act.put, List.setIfInBounds_toArray, List.set_cons_zero, List.set_cons_succ]
        refine wpAnyH_take (i := 4) (oi := { dst := some 59, op := Go.Op.indexAddr 47 (Go.Operand.tmp 57) (Go.Operand.tmp 58), type := 0, pos := "law.go:91", after := #[{ on := 2, ground := Go.Ground.data }, { on := 3, ground := Go.Ground.data }, { on := 1, ground := Go.Ground.guard }], guard := some (1, true) }) (v := ?v198) rfl (by kernel_rfl) (by kernel_rfl) (by kernel_rfl) (fun _ _ _ h => h) (Or.inl ⟨by kernel_rfl, ?h198⟩) (by assumption) ?r198
        case h198 => (intro w hSw; (try dsimp only at hSw); go_simp; try with_reducible rfl)
        try simp only [Act.put, List.setIfInBounds_toArray, List.set_cons_zero, List.set_cons_succ]
        refine wpAnyH_take (i := 5) (oi := { dst := some 60, op := Go.Op.load 38 (Go.Operand.tmp 59), type := 38, pos := "law.go:91", after := #[{ on := 4, ground := Go.Ground.data }, { on := 1, ground := Go.Ground.guard }], guard := some (1, true) }) (v := ?v199) rfl (by kernel_rfl) (by kernel_rfl) (by kernel_rfl) (fun _ _ _ h => h) (Or.inl ⟨by kernel_rfl, ?h199⟩) (by assumption) ?r199
        case h199 => (intro w hSw; (try dsimp only at hSw); go_simp; try with_reducible rfl)
        try simp only [Act.put, List.setIfInBounds_toArray, List.set_cons_zero, List.set_cons_succ]
        refine wpAnyH_take (i := 6) (oi := { dst := some 61, op := Go.Op.move (Go.Operand.tmp 1), type := 22, pos := "law.go:91", after := #[{ on := 1, ground := Go.Ground.guard }], guard := some (1, true) }) (v := ?v200) rfl (by kernel_rfl) (by kernel_rfl) (by kernel_rfl) (fun _ _ _ h => h) (Or.inl ⟨by kernel_rfl, ?h200⟩) (by assumption) ?r200
        case h200 => (intro w hSw; (try dsimp only at hSw); go_simp; try with_reducible rfl)
        try simp only [Act.put, List.setIfInBounds_toArray, List.set_cons_zero, List.set_cons_succ]
        refine wpAnyH_take (i := 7) (oi := { dst := some 62, op := Go.Op.move (Go.Operand.tmp 8), type := 3, pos := "law.go:91", after := #[{ on := 1, ground := Go.Ground.guard }], guard := some (1, true) }) (v := ?v201) rfl (by kernel_rfl) (by kernel_rfl) (by kernel_rfl) (fun _ _ _ h => h) (Or.inl ⟨by kernel_rfl, ?h201⟩) (by assumption) ?r201
        case h201 => (intro w hSw; (try dsimp only at hSw); go_simp; try with_reducible rfl)
        try simp only [Act.put, List.setIfInBounds_toArray, List.set_cons_zero, List.set_cons_succ]
        refine wpAnyH_take (i := 8) (oi := { dst := some 63, op := Go.Op.indexAddr 22 (Go.Operand.tmp 61) (Go.Operand.tmp 62), type := 0, pos := "law.go:91", after := #[{ on := 6, ground := Go.Ground.data }, { on := 7, ground := Go.Ground.data }, { on := 1, ground := Go.Ground.guard }], guard := some (1, true) }) (v := ?v202) rfl (by kernel_rfl) (by kernel_rfl) (by kernel_rfl) (fun _ _ _ h => h) (Or.inl ⟨by kernel_rfl, ?h202⟩) (by assumption) ?r202
        case h202 => (intro w hSw; (try dsimp only at hSw); go_simp; try with_reducible rfl)
        try simp only [Act.put, List.setIfInBounds_toArray, List.set_cons_zero, List.set_cons_succ]
        refine wpAnyH_take (i := 9) (oi := { dst := some 64, op := Go.Op.load 3 (Go.Operand.tmp 63), type := 3, pos := "law.go:91", after := #[{ on := 8, ground := Go.Ground.data }, { on := 1, ground := Go.Ground.guard }], guard := some (1, true) }) (v := ?v203) rfl (by kernel_rfl) (by kernel_rfl) (by kernel_rfl) (fun _ _ _ h => h) (Or.inl ⟨by kernel_rfl, ?h203⟩) (by assumption) ?r203
        case h203 => (intro w hSw; (try dsimp only at hSw); go_simp; try with_reducible rfl)
        try simp only [Act.put, List.setIfInBounds_toArray, List.set_cons_zero, List.set_cons_succ]
        refine wpAnyH_ready (rs := [10]) (by kernel_rfl) (by simp) ?_
        refine AllReadyH.cons (o := { dst := some 65, op := Go.Op.call { callee := Go.Callee.value (Go.Operand.func 33), args := #[Go.Operand.tmp 60, Go.Operand.tmp 64], argTypes := #[38, 3] }, type := 4, pos := "law.go:91", after := #[{ on := 5, ground := Go.Ground.data }, { on := 9, ground := Go.Ground.data }, { on := 1, ground := Go.Ground.chain }, { on := 1, ground := Go.Ground.guard }], guard := some (1, true) }) rfl (fun K hK => ?_) AllReadyH.nil
        go_simp
        with_reducible refine (qh.out _).mono ?_
        rintro e t10 ⟨rfl, b10⟩
        go_simp
        refine hK.out _ _ (hHeld.trans (b10.mono hHeld.size)) (fun hHeld => ?_)
        clear hK K
        try simp only [Act.put, List.setIfInBounds_toArray, List.set_cons_zero, List.set_cons_succ]
        refine wpAnyH_take (i := 11) (oi := { dst := some 66, op := Go.Op.pick (Go.Operand.tmp 56) (Go.Operand.tmp 65) (Go.Operand.const (Go.Value.bool false)), type := 4, pos := "law.go:91", after := #[{ on := 1, ground := Go.Ground.data }, { on := 10, ground := Go.Ground.data }], guard := none }) (v := ?v204) rfl (by kernel_rfl) (by kernel_rfl) (by kernel_rfl) (fun _ _ _ h => h) (Or.inl ⟨by kernel_rfl, ?h204⟩) (by assumption) ?r204
        case h204 => (intro w hSw; (try dsimp only at hSw); go_simp; try with_reducible rfl)
        try simp only [Act.put, List.setIfInBounds_toArray, List.set_cons_zero, List.set_cons_succ]
        refine wpAnyH_take (i := 12) (oi := { dst := some 7, op := Go.Op.assign (Go.Operand.tmp 66), type := 4, pos := "law.go:91", after := #[{ on := 11, ground := Go.Ground.data }, { on := 10, ground := Go.Ground.chain }, { on := 0, ground := Go.Ground.phase }, { on := 1, ground := Go.Ground.phase }, { on := 2, ground := Go.Ground.phase }, { on := 3, ground := Go.Ground.phase }, { on := 4, ground := Go.Ground.phase }, { on := 5, ground := Go.Ground.phase }, { on := 6, ground := Go.Ground.phase }, { on := 7, ground := Go.Ground.phase }, { on := 8, ground := Go.Ground.phase }, { on := 9, ground := Go.Ground.phase }, { on := 10, ground := Go.Ground.phase }, { on := 11, ground := Go.Ground.phase }], guard := none }) (v := ?v205) rfl (by kernel_rfl) (by kernel_rfl) (by kernel_rfl) (fun _ _ _ h => h) (Or.inl ⟨by kernel_rfl, ?h205⟩) (by assumption) ?r205
        case h205 => (intro w hSw; (try dsimp only at hSw); go_simp; try with_reducible rfl)
        try simp only [Act.put, List.setIfInBounds_toArray, List.set_cons_zero, List.set_cons_succ]
        refine wpAnyH_done (by kernel_rfl) ?_ _
        replace ZB := Lib.hid (ZB.out.below hHeld ZB.out.lt)
        replace BL := Lib.hid (BL.out.trans (hHeld.mono BL.out.size))
        replace TB := Lib.hid (TB.out.below hHeld)
        replace SV := Lib.hid (SV.out.below hHeld)
        clear hHeld c0 c1 c2
        go_wp2
        go_roundw
        case rel => exact ⟨k + 1, by omega, by go_num, by rw [← hp1.out, hn2.out], BL, ZB, TB, SV⟩
        case measure => simp [intOf]; omega
    · have hke : k = n := by omega
      subst hke
      generalize P k = p1 at *
      have hkn : ¬ ((k : Int) < (k : Int)) := by omega
      go_wp2
      have k201 : ∀ W, Below wr.heap.size wr W → W.cell? ⟨v1.heap.size, 0, none⟩ = some (.int .i64 k) := fun W hW => (ZB.out.below hW ZB.out.lt).cell 0
      have k202 : ∀ W, Below wr.heap.size wr W → W.cell? ⟨v1.heap.size, 1, none⟩ = some (.slice aB mB dB) := fun W hW => (ZB.out.below hW ZB.out.lt).cell 1
      have qv := Lib.hid (fun W (hW : Below wr.heap.size wr W) => SV.out.below hW)
      have qb := Lib.hid (fun W (hW : Below wr.heap.size wr W) => TB.out.below hW)
      have qi := Lib.hid (fun W (hW : Below wr.heap.size wr W) => its_up (hI0.out.below (BL.out.trans (hW.mono BL.out.size))) (Nat.le_trans BL.out.size hW.size))
      refine wp_drawn_on (fun W => Below wr.heap.size wr W) (by kernel_rfl) (below_drew (Below.refl _ _)) (fun hHeld => ?_)
      refine wpAnyH_take (i := 0) (oi := { dst := some 67, op := Go.Op.move (Go.Operand.tmp 6), type := 27, pos := "law.go:93", after := #[], guard := none }) (v := ?v206) rfl (by kernel_rfl) (by kernel_rfl) (by kernel_rfl) (fun _ _ _ h => h) (Or.inl ⟨by kernel_rfl, ?h206⟩) (by assumption) ?r206
      case h206 => (intro w hSw; (try dsimp only at hSw); go_simp; try with_reducible rfl)
      try simp only [Act.put, List.setIfInBounds_toArray, List.set_cons_zero, List.set_cons_succ]
      refine wpAnyH_take (i := 1) (oi := { dst := some 68, op := Go.Op.binOp Go.BinOp.neq 27 (Go.Operand.tmp 67) (Go.Operand.const (Go.Value.int Go.IntKind.i64 0)) 27, type := 4, pos := "law.go:93", after := #[{ on := 0, ground := Go.Ground.data }], guard := none }) (v := ?v207) rfl (by kernel_rfl) (by kernel_rfl) (by kernel_rfl) (fun _ _ _ h => h) (Or.inl ⟨by kernel_rfl, ?h207⟩) (by assumption) ?r207
      case h207 => (intro w hSw; (try dsimp only at hSw); go_simp; try with_reducible rfl)
      try simp only [Act.put, List.setIfInBounds_toArray, List.set_cons_zero, List.set_cons_succ]
      refine wpAnyH_take (i := 2) (oi := { dst := some 69, op := Go.Op.move (Go.Operand.tmp 68), type := 4, pos := "law.go:93", after := #[{ on := 1, ground := Go.Ground.data }], guard := none }) (v := ?v208) rfl (by kernel_rfl) (by kernel_rfl) (by kernel_rfl) (fun _ _ _ h => h) (Or.inl ⟨by kernel_rfl, ?h208⟩) (by assumption) ?r208
      case h208 => (intro w hSw; (try dsimp only at hSw); go_simp; try with_reducible rfl)
      try simp only [Act.put, List.setIfInBounds_toArray, List.set_cons_zero, List.set_cons_succ]
      refine wpAnyH_take (i := 3) (oi := { dst := some 70, op := Go.Op.load 24 (Go.Operand.tmp 5), type := 24, pos := "law.go:93", after := #[{ on := 2, ground := Go.Ground.guard }], guard := some (2, false) }) (v := ?v209) rfl (by kernel_rfl) (by kernel_rfl) (by kernel_rfl) (fun _ _ _ h => h) (Or.inl ⟨by kernel_rfl, ?h209⟩) (by assumption) ?r209
      case h209 => (intro w hSw; (try dsimp only at hSw); go_simp; try with_reducible rfl)
      try simp only [Act.put, List.setIfInBounds_toArray, List.set_cons_zero, List.set_cons_succ]
      refine wpAnyH_take (i := 4) (oi := { dst := some 71, op := Go.Op.move (Go.Operand.tmp 0), type := 47, pos := "law.go:93", after := #[{ on := 2, ground := Go.Ground.guard }], guard := some (2, false) }) (v := ?v210) rfl (by kernel_rfl) (by kernel_rfl) (by kernel_rfl) (fun _ _ _ h => h) (Or.inl ⟨by kernel_rfl, ?h210⟩) (by assumption) ?r210
      case h210 => (intro w hSw; (try dsimp only at hSw); go_simp; try with_reducible rfl)
      try simp only [Act.put, List.setIfInBounds_toArray, List.set_cons_zero, List.set_cons_succ]
      refine wpAnyH_ready (rs := [5]) (by kernel_rfl) (by simp) ?_
      refine AllReadyH.cons (o := { dst := some 72, op := Go.Op.call { callee := Go.Callee.value (Go.Operand.func 34), args := #[Go.Operand.tmp 71], argTypes := #[47] }, type := 24, pos := "law.go:93", after := #[{ on := 4, ground := Go.Ground.data }, { on := 2, ground := Go.Ground.chain }, { on := 2, ground := Go.Ground.guard }], guard := some (2, false) }) rfl (fun K hK => ?_) AllReadyH.nil
      go_simp
      with_reducible refine (QR.out _ (qi.out _ hHeld)).mono ?_
      rintro e t5 ⟨aR, mR, dR, rfl, sR, b5⟩
      have hs := Lib.hid (rself_any k aB aR R mB mR dB dR t5 (qb.out _ (hHeld.trans (b5.mono hHeld.size))) sR)
      go_simp
      refine hK.out _ _ (hHeld.trans (b5.mono hHeld.size)) (fun hHeld => ?_)
      clear hK K
      try simp only [Act.put, List.setIfInBounds_toArray, List.set_cons_zero, List.set_cons_succ]
      refine wpAnyH_ready (rs := [6]) (by kernel_rfl) (by simp) ?_
      refine AllReadyH.cons (o := { dst := some 73, op := Go.Op.call { callee := Go.Callee.value (Go.Operand.func 16), args := #[Go.Operand.tmp 70, Go.Operand.tmp 72], argTypes := #[24, 24] }, type := 4, pos := "law.go:93", after := #[{ on := 3, ground := Go.Ground.data }, { on := 5, ground := Go.Ground.data }, { on := 5, ground := Go.Ground.chain }, { on := 2, ground := Go.Ground.guard }], guard := some (2, false) }) rfl (fun K hK => ?_) AllReadyH.nil
      go_simp
      with_reducible refine hs.out.mono ?_
      rintro e t6 ⟨rfl, b6⟩
      go_simp
      refine hK.out _ _ (hHeld.trans (b6.mono hHeld.size)) (fun hHeld => ?_)
      clear hK K
      try simp only [Act.put, List.setIfInBounds_toArray, List.set_cons_zero, List.set_cons_succ]
      refine wpAnyH_take (i := 7) (oi := { dst := some 74, op := Go.Op.unOp Go.UnOp.not 4 (Go.Operand.tmp 73), type := 4, pos := "law.go:93", after := #[{ on := 6, ground := Go.Ground.data }, { on := 2, ground := Go.Ground.guard }], guard := some (2, false) }) (v := ?v211) rfl (by kernel_rfl) (by kernel_rfl) (by kernel_rfl) (fun _ _ _ h => h) (Or.inl ⟨by kernel_rfl, ?h211⟩) (by assumption) ?r211
      case h211 => (intro w hSw; (try dsimp only at hSw); go_simp; try with_reducible rfl)
      try simp only [Act.put, List.setIfInBounds_toArray, List.set_cons_zero, List.set_cons_succ]
      refine wpAnyH_take (i := 8) (oi := { dst := some 75, op := Go.Op.pick (Go.Operand.tmp 69) (Go.Operand.const (Go.Value.bool true)) (Go.Operand.tmp 74), type := 4, pos := "law.go:93", after := #[{ on := 2, ground := Go.Ground.data }, { on := 7, ground := Go.Ground.data }], guard := none }) (v := ?v212) rfl (by kernel_rfl) (by kernel_rfl) (by kernel_rfl) (fun _ _ _ h => h) (Or.inl ⟨by kernel_rfl, ?h212⟩) (by assumption) ?r212
      case h212 => (intro w hSw; (try dsimp only at hSw); go_simp; try with_reducible rfl)
      try simp only [Act.put, List.setIfInBounds_toArray, List.set_cons_zero, List.set_cons_succ]
      refine wpAnyH_take (i := 9) (oi := { dst := some 76, op := Go.Op.move (Go.Operand.tmp 75), type := 4, pos := "law.go:93", after := #[{ on := 8, ground := Go.Ground.data }, { on := 6, ground := Go.Ground.chain }], guard := none }) (v := ?v213) rfl (by kernel_rfl) (by kernel_rfl) (by kernel_rfl) (fun _ _ _ h => h) (Or.inl ⟨by kernel_rfl, ?h213⟩) (by assumption) ?r213
      case h213 => (intro w hSw; (try dsimp only at hSw); go_simp; try with_reducible rfl)
      try simp only [Act.put, List.setIfInBounds_toArray, List.set_cons_zero, List.set_cons_succ]
      refine wpAnyH_take (i := 10) (oi := { dst := some 77, op := Go.Op.load 24 (Go.Operand.tmp 5), type := 24, pos := "law.go:93", after := #[{ on := 9, ground := Go.Ground.guard }], guard := some (9, false) }) (v := ?v214) rfl (by kernel_rfl) (by kernel_rfl) (by kernel_rfl) (fun _ _ _ h => h) (Or.inl ⟨by kernel_rfl, ?h214⟩) (by assumption) ?r214
      case h214 => (intro w hSw; (try dsimp only at hSw); go_simp; try with_reducible rfl)
      try simp only [Act.put, List.setIfInBounds_toArray, List.set_cons_zero, List.set_cons_succ]
      refine wpAnyH_take (i := 11) (oi := { dst := some 78, op := Go.Op.move (Go.Operand.tmp 1), type := 22, pos := "law.go:93", after := #[{ on := 9, ground := Go.Ground.guard }], guard := some (9, false) }) (v := ?v215) rfl (by kernel_rfl) (by kernel_rfl) (by kernel_rfl) (fun _ _ _ h => h) (Or.inl ⟨by kernel_rfl, ?h215⟩) (by assumption) ?r215
      case h215 => (intro w hSw; (try dsimp only at hSw); go_simp; try with_reducible rfl)
      try simp only [Act.put, List.setIfInBounds_toArray, List.set_cons_zero, List.set_cons_succ]
      refine wpAnyH_take (i := 13) (oi := { dst := some 80, op := Go.Op.move (Go.Operand.tmp 7), type := 4, pos := "law.go:93", after := #[{ on := 9, ground := Go.Ground.guard }], guard := some (9, false) }) (v := ?v216) rfl (by kernel_rfl) (by kernel_rfl) (by kernel_rfl) (fun _ _ _ h => h) (Or.inl ⟨by kernel_rfl, ?h216⟩) (by assumption) ?r216
      case h216 => (intro w hSw; (try dsimp only at hSw); go_simp; try with_reducible rfl)
      try simp only [Act.put, List.setIfInBounds_toArray, List.set_cons_zero, List.set_cons_succ]
      refine wpAnyH_ready (rs := [12]) (by kernel_rfl) (by simp) ?_
      refine AllReadyH.cons (o := { dst := some 79, op := Go.Op.call { callee := Go.Callee.value (Go.Operand.func 35), args := #[Go.Operand.tmp 77, Go.Operand.tmp 78], argTypes := #[24, 22] }, type := 4, pos := "law.go:93", after := #[{ on := 10, ground := Go.Ground.data }, { on := 11, ground := Go.Ground.data }, { on := 9, ground := Go.Ground.chain }, { on := 9, ground := Go.Ground.guard }], guard := some (9, false) }) rfl (fun K hK => ?_) AllReadyH.nil
      go_simp
      with_reducible refine (QH.out _ aB dB (qb.out _ hHeld) (qv.out _ hHeld)).mono ?_
      rintro e t12 ⟨rfl, b12⟩
      go_simp
      refine hK.out _ _ (hHeld.trans (b12.mono hHeld.size)) (fun hHeld => ?_)
      clear hK K
      try simp only [Act.put, List.setIfInBounds_toArray, List.set_cons_zero, List.set_cons_succ]
      refine wpAnyH_take (i := 14) (oi := { dst := some 81, op := Go.Op.binOp Go.BinOp.neq 4 (Go.Operand.tmp 79) (Go.Operand.tmp 80) 4, type := 4, pos := "law.go:93", after := #[{ on := 12, ground := Go.Ground.data }, { on := 13, ground := Go.Ground.data }, { on := 9, ground := Go.Ground.guard }], guard := some (9, false) }) (v := ?v217) rfl (by kernel_rfl) (by kernel_rfl) (by kernel_rfl) (fun _ _ _ h => h) (Or.inl ⟨by kernel_rfl, ?h217⟩) (by assumption) ?r217
      case h217 => (intro w hSw; (try dsimp only at hSw); go_simp; try with_reducible rfl)
      try simp only [Act.put, List.setIfInBounds_toArray, List.set_cons_zero, List.set_cons_succ]
      refine wpAnyH_take (i := 15) (oi := { dst := some 82, op := Go.Op.pick (Go.Operand.tmp 76) (Go.Operand.const (Go.Value.bool true)) (Go.Operand.tmp 81), type := 4, pos := "law.go:93", after := #[{ on := 9, ground := Go.Ground.data }, { on := 14, ground := Go.Ground.data }], guard := none }) (v := ?v218) rfl (by kernel_rfl) (by kernel_rfl) (by kernel_rfl) (fun _ _ _ h => h) (Or.inl ⟨by kernel_rfl, ?h218⟩) (by assumption) ?r218
      case h218 => (intro w hSw; (try dsimp only at hSw); go_simp; try with_reducible rfl)
      try simp only [Act.put, List.setIfInBounds_toArray, List.set_cons_zero, List.set_cons_succ]
      refine wpAnyH_done (by kernel_rfl) ?_ _
      clear k201 k202
      replace ZB := Lib.hid (ZB.out.below hHeld ZB.out.lt)
      replace BL := Lib.hid (BL.out.trans (hHeld.mono BL.out.size))
      replace TB := Lib.hid (TB.out.below hHeld)
      replace SV := Lib.hid (SV.out.below hHeld)
      clear hHeld qv qb qi QR QH
      go_wp2
      go_loopw [9] (fun x wq => ∃ t : Nat, t ≤ k ∧ x = .int .i64 t ∧ Hid (Below w.heap.size w wq) ∧ Hid (Holds wq v1.heap.size 24 #[.int .i64 k, .slice aB mB dB]) ∧ Hid (SL wq aB mB dB R) ∧ Hid (SL wq av mv cv v)) (fun x _ => k - (intOf x).toNat)
      case atStart => exact ⟨0, by omega, rfl, BL, ZB, TB, SV⟩
      case round =>
        clear BL ZB TB SV
        obtain ⟨i, hi, rfl, BL, ZB, TB, SV⟩ := hrel
        have k301 := ZB.out.cell 0
        have k302 := ZB.out.cell 1
        by_cases hlt2 : i < k
        · have k1 : (i : Int) < (k : Int) := by omega
          obtain ⟨b, off, ea, hb, i0, i1⟩ := hI0.out.at_ (k := i) (by have := hx'.out; omega)
          subst ea
          have hwb := BL.out.size
          have ku : IntKind.i64.wrap ((i : Int) + 1) = (i : Int) + 1 := wrap_small (by omega) (by omega)
          have qi := QI.out i hlt2
          rw [hit.out i hlt2, show ((i + 1 : Nat) : Int) = (i : Int) + 1 by omega] at qi
          have qi := Lib.hid qi
          have qp := Lib.hid (QP.out i)
          generalize (xs.getD i (0, 0)).1 = x at *
          generalize (xs.getD i (0, 0)).2 = y at *
          generalize (ofP x y).1 = px at *
          generalize (ofP x y).2 = py at *
          have q := Lib.hid (qi.out _ aB dB TB.out)
          go_wp2_with fail
          with_reducible refine q.out.mono ?_
          rintro e s1 ⟨rfl, b1⟩
          clear k301 k302
          clear q qi
          have B0 := box_below s1 #[.int .i64 px, .int .i64 py] 38
          have B := b1.trans (B0.mono b1.size)
          replace ZB := Lib.hid (ZB.out.below B ZB.out.lt)
          replace BL := Lib.hid (BL.out.trans (B.mono BL.out.size))
          replace TB := Lib.hid (TB.out.below B)
          replace SV := Lib.hid (SV.out.below B)
          have ZI := Lib.hid (Holds.new s1 38 #[.int .i64 px, .int .i64 py])
          clear b1 B B0
          go_wp2
          generalize (s1.alloc (.cells #[.int .i64 px, .int .i64 py] 38)) = V at *
          have k401 : ∀ W, Below V.heap.size V W → W.cell? ⟨v1.heap.size, 0, none⟩ = some (.int .i64 k) := fun W hW => (ZB.out.below hW ZB.out.lt).cell 0
          have k402 : ∀ W, Below V.heap.size V W → W.cell? ⟨v1.heap.size, 1, none⟩ = some (.slice aB mB dB) := fun W hW => (ZB.out.below hW ZB.out.lt).cell 1
          have k403 : ∀ W, Below V.heap.size V W → W.cell? ⟨s1.heap.size, 0, none⟩ = some (.int .i64 px) := fun W hW => (ZI.out.below hW ZI.out.lt).cell 0
          have k404 : ∀ W, Below V.heap.size V W → W.cell? ⟨s1.heap.size, 1, none⟩ = some (.int .i64 py) := fun W hW => (ZI.out.below hW ZI.out.lt).cell 1
          have hbz := BL.out.size
          skip
          have c0 : ∀ W, Below V.heap.size V W → W.cell? ⟨b, off + i * 2, none⟩ = some (.int .i64 x) := fun W hW => ((BL.out.trans (hW.mono BL.out.size)).cell (p := ⟨b, off + i * 2, none⟩) hb).trans i0
          have c1 : ∀ W, Below V.heap.size V W → W.cell? ⟨b, off + i * 2 + 1, none⟩ = some (.int .i64 y) := fun W hW => ((BL.out.trans (hW.mono BL.out.size)).cell (p := ⟨b, off + i * 2 + 1, none⟩) hb).trans i1
          have qb := Lib.hid (fun W (hW : Below V.heap.size V W) => TB.out.below hW)
          refine wp_drawn_on (fun W => Below V.heap.size V W) (by kernel_rfl) (below_drew (Below.refl _ _)) (fun hHeld => ?_)
          refine wpAnyH_take (i := 0) (oi := { dst := some 96, op := Go.Op.move (Go.Operand.tmp 11), type := 27, pos := "law.go:98", after := #[], guard := none }) (v := ?v219) rfl (by kernel_rfl) (by kernel_rfl) (by kernel_rfl) (fun _ _ _ h => h) (Or.inl ⟨by kernel_rfl, ?h219⟩) (by assumption) ?r219
          case h219 => (intro w hSw; (try dsimp only at hSw); go_simp; try with_reducible rfl)
          try simp only [Act.put, List.setIfInBounds_toArray, List.set_cons_zero, List.set_cons_succ]
          refine wpAnyH_take (i := 1) (oi := { dst := some 97, op := Go.Op.binOp Go.BinOp.neq 27 (Go.Operand.tmp 96) (Go.Operand.const (Go.Value.int Go.IntKind.i64 0)) 27, type := 4, pos := "law.go:98", after := #[{ on := 0, ground := Go.Ground.data }], guard := none }) (v := ?v220) rfl (by kernel_rfl) (by kernel_rfl) (by kernel_rfl) (fun _ _ _ h => h) (Or.inl ⟨by kernel_rfl, ?h220⟩) (by assumption) ?r220
          case h220 => (intro w hSw; (try dsimp only at hSw); go_simp; try with_reducible rfl)
          try simp only [Act.put, List.setIfInBounds_toArray, List.set_cons_zero, List.set_cons_succ]
          refine wpAnyH_take (i := 2) (oi := { dst := some 98, op := Go.Op.move (Go.Operand.tmp 97), type := 4, pos := "law.go:98", after := #[{ on := 1, ground := Go.Ground.data }], guard := none }) (v := ?v221) rfl (by kernel_rfl) (by kernel_rfl) (by kernel_rfl) (fun _ _ _ h => h) (Or.inl ⟨by kernel_rfl, ?h221⟩) (by assumption) ?r221
          case h221 => (intro w hSw; (try dsimp only at hSw); go_simp; try with_reducible rfl)
          try simp only [Act.put, List.setIfInBounds_toArray, List.set_cons_zero, List.set_cons_succ]
          refine wpAnyH_take (i := 3) (oi := { dst := some 99, op := Go.Op.load 24 (Go.Operand.tmp 5), type := 24, pos := "law.go:98", after := #[{ on := 2, ground := Go.Ground.guard }], guard := some (2, false) }) (v := ?v222) rfl (by kernel_rfl) (by kernel_rfl) (by kernel_rfl) (fun _ _ _ h => h) (Or.inl ⟨by kernel_rfl, ?h222⟩) (by assumption) ?r222
          case h222 => (intro w hSw; (try dsimp only at hSw); go_simp; try with_reducible rfl)
          try simp only [Act.put, List.setIfInBounds_toArray, List.set_cons_zero, List.set_cons_succ]
          refine wpAnyH_ready (rs := [4]) (by kernel_rfl) (by simp) ?_
          refine AllReadyH.cons (o := { dst := some 100, op := Go.Op.call { callee := Go.Callee.value (Go.Operand.func 36), args := #[Go.Operand.tmp 99], argTypes := #[24] }, type := 4, pos := "law.go:98", after := #[{ on := 3, ground := Go.Ground.data }, { on := 2, ground := Go.Ground.chain }, { on := 2, ground := Go.Ground.guard }], guard := some (2, false) }) rfl (fun K hK => ?_) AllReadyH.nil
          go_simp
          with_reducible refine (QE.out _ aB dB (qb.out _ hHeld)).mono ?_
          rintro e t4 ⟨rfl, b4⟩
          go_simp
          refine hK.out _ _ (hHeld.trans (b4.mono hHeld.size)) (fun hHeld => ?_)
          clear hK K
          try simp only [Act.put, List.setIfInBounds_toArray, List.set_cons_zero, List.set_cons_succ]
          refine wpAnyH_take (i := 5) (oi := { dst := some 101, op := Go.Op.unOp Go.UnOp.not 4 (Go.Operand.tmp 100), type := 4, pos := "law.go:98", after := #[{ on := 4, ground := Go.Ground.data }, { on := 2, ground := Go.Ground.guard }], guard := some (2, false) }) (v := ?v223) rfl (by kernel_rfl) (by kernel_rfl) (by kernel_rfl) (fun _ _ _ h => h) (Or.inl ⟨by kernel_rfl, ?h223⟩) (by assumption) ?r223
          case h223 => (intro w hSw; (try dsimp only at hSw); go_simp; try with_reducible rfl)
          try simp only [Act.put, List.setIfInBounds_toArray, List.set_cons_zero, List.set_cons_succ]
          refine wpAnyH_take (i := 6) (oi := { dst := some 102, op := Go.Op.move (Go.Operand.tmp 101), type := 4, pos := "law.go:98", after := #[{ on := 5, ground := Go.Ground.data }, { on := 4, ground := Go.Ground.chain }, { on := 2, ground := Go.Ground.guard }], guard := some (2, false) }) (v := ?v224) rfl (by kernel_rfl) (by kernel_rfl) (by kernel_rfl) (fun _ _ _ h => h) (Or.inl ⟨by kernel_rfl, ?h224⟩) (by assumption) ?r224
          case h224 => (intro w hSw; (try dsimp only at hSw); go_simp; try with_reducible rfl)
          try simp only [Act.put, List.setIfInBounds_toArray, List.set_cons_zero, List.set_cons_succ]
          refine wpAnyH_take (i := 7) (oi := { dst := some 103, op := Go.Op.load 38 (Go.Operand.tmp 10), type := 38, pos := "law.go:98", after := #[{ on := 6, ground := Go.Ground.guard }], guard := some (6, true) }) (v := ?v225) rfl (by kernel_rfl) (by kernel_rfl) (by kernel_rfl) (fun _ _ _ h => h) (Or.inl ⟨by kernel_rfl, ?h225⟩) (by assumption) ?r225
          case h225 => (intro w hSw; (try dsimp only at hSw); go_simp; try with_reducible rfl)
          try simp only [Act.put, List.setIfInBounds_toArray, List.set_cons_zero, List.set_cons_succ]
          refine wpAnyH_take (i := 8) (oi := { dst := some 104, op := Go.Op.move (Go.Operand.tmp 0), type := 47, pos := "law.go:98", after := #[{ on := 6, ground := Go.Ground.guard }], guard := some (6, true) }) (v := ?v226) rfl (by kernel_rfl) (by kernel_rfl) (by kernel_rfl) (fun _ _ _ h => h) (Or.inl ⟨by kernel_rfl, ?h226⟩) (by assumption) ?r226
          case h226 => (intro w hSw; (try dsimp only at hSw); go_simp; try with_reducible rfl)
          try simp only [Act.put, List.setIfInBounds_toArray, List.set_cons_zero, List.set_cons_succ]
          refine wpAnyH_take (i := 9) (oi := { dst := some 105, op := Go.Op.move (Go.Operand.tmp 9), type := 3, pos := "law.go:98", after := #[{ on := 6, ground := Go.Ground.guard }], guard := some (6, true) }) (v := ?v227) rfl (by kernel_rfl) (by kernel_rfl) (by kernel_rfl) (fun _ _ _ h => h) (Or.inl ⟨by kernel_rfl, ?h227⟩) (by assumption) ?r227
          case h227 => (intro w hSw; (try dsimp only at hSw); go_simp; try with_reducible rfl)
          try simp only [Act.put, List.setIfInBounds_toArray, List.set_cons_zero, List.set_cons_succ]
          refine wpAnyH_take (i := 10) (oi := { dst := some 106, op := Go.Op.indexAddr 47 (Go.Operand.tmp 104) (Go.Operand.tmp 105), type := 0, pos := "law.go:98", after := #[{ on := 8, ground := Go.Ground.data }, { on := 9, ground := Go.Ground.data }, { on := 6, ground := Go.Ground.guard }], guard := some (6, true) }) (v := ?v228) rfl (by kernel_rfl) (by kernel_rfl) (by kernel_rfl) (fun _ _ _ h => h) (Or.inl ⟨by kernel_rfl, ?h228⟩) (by assumption) ?r228
          case h228 => (intro w hSw; (try dsimp only at hSw); go_simp; try with_reducible rfl)
          try simp only [Act.put, List.setIfInBounds_toArray, List.set_cons_zero, List.set_cons_succ]
          refine wpAnyH_take (i := 11) (oi := { dst := some 107, op := Go.Op.load 38 (Go.Operand.tmp 106), type := 38, pos := "law.go:98", after := #[{ on := 10, ground := Go.Ground.data }, { on := 6, ground := Go.Ground.guard }], guard := some (6, true) }) (v := ?v229) rfl (by kernel_rfl) (by kernel_rfl) (by kernel_rfl) (fun _ _ _ h => h) (Or.inl ⟨by kernel_rfl, ?h229⟩) (by assumption) ?r229
          case h229 => (intro w hSw; (try dsimp only at hSw); go_simp; try with_reducible rfl)
          try simp only [Act.put, List.setIfInBounds_toArray, List.set_cons_zero, List.set_cons_succ]
          refine wpAnyH_ready (rs := [12]) (by kernel_rfl) (by simp) ?_
          refine AllReadyH.cons (o := { dst := some 108, op := Go.Op.call { callee := Go.Callee.value (Go.Operand.func 37), args := #[Go.Operand.tmp 107], argTypes := #[38] }, type := 38, pos := "law.go:98", after := #[{ on := 11, ground := Go.Ground.data }, { on := 6, ground := Go.Ground.chain }, { on := 6, ground := Go.Ground.guard }], guard := some (6, true) }) rfl (fun K hK => ?_) AllReadyH.nil
          go_simp
          with_reducible refine (qp.out _).mono ?_
          rintro e t12 ⟨rfl, b12⟩
          go_simp
          refine hK.out _ _ (hHeld.trans (b12.mono hHeld.size)) (fun hHeld => ?_)
          clear hK K
          try simp only [Act.put, List.setIfInBounds_toArray, List.set_cons_zero, List.set_cons_succ]
          refine wpAnyH_take (i := 13) (oi := { dst := some 109, op := Go.Op.binOp Go.BinOp.neq 38 (Go.Operand.tmp 103) (Go.Operand.tmp 108) 38, type := 4, pos := "law.go:98", after := #[{ on := 7, ground := Go.Ground.data }, { on := 12, ground := Go.Ground.data }, { on := 6, ground := Go.Ground.guard }], guard := some (6, true) }) (v := ?v230) rfl (by kernel_rfl) (by kernel_rfl) (by kernel_rfl) (fun _ _ _ h => h) (Or.inl ⟨by kernel_rfl, ?h230⟩) (by assumption) ?r230
          case h230 => (intro w hSw; (try dsimp only at hSw); refine Eq.trans (b := Result.ok (Next.value (.bool false)) w) (by go_simp) ?_; with_reducible rfl)
          try simp only [Act.put, List.setIfInBounds_toArray, List.set_cons_zero, List.set_cons_succ]
          refine wpAnyH_take (i := 14) (oi := { dst := some 110, op := Go.Op.pick (Go.Operand.tmp 102) (Go.Operand.tmp 109) (Go.Operand.const (Go.Value.bool false)), type := 4, pos := "law.go:98", after := #[{ on := 6, ground := Go.Ground.data }, { on := 13, ground := Go.Ground.data }, { on := 2, ground := Go.Ground.guard }], guard := some (2, false) }) (v := ?v231) rfl (by kernel_rfl) (by kernel_rfl) (by kernel_rfl) (fun _ _ _ h => h) (Or.inl ⟨by kernel_rfl, ?h231⟩) (by assumption) ?r231
          case h231 => (intro w hSw; (try dsimp only at hSw); go_simp; try with_reducible rfl)
          try simp only [Act.put, List.setIfInBounds_toArray, List.set_cons_zero, List.set_cons_succ]
          refine wpAnyH_take (i := 15) (oi := { dst := some 111, op := Go.Op.pick (Go.Operand.tmp 98) (Go.Operand.const (Go.Value.bool true)) (Go.Operand.tmp 110), type := 4, pos := "law.go:98", after := #[{ on := 2, ground := Go.Ground.data }, { on := 14, ground := Go.Ground.data }], guard := none }) (v := ?v232) rfl (by kernel_rfl) (by kernel_rfl) (by kernel_rfl) (fun _ _ _ h => h) (Or.inl ⟨by kernel_rfl, ?h232⟩) (by assumption) ?r232
          case h232 => (intro w hSw; (try dsimp only at hSw); go_simp; try with_reducible rfl)
          try simp only [Act.put, List.setIfInBounds_toArray, List.set_cons_zero, List.set_cons_succ]
          refine wpAnyH_take (i := 16) (oi := { dst := some 112, op := Go.Op.move (Go.Operand.tmp 111), type := 4, pos := "law.go:98", after := #[{ on := 15, ground := Go.Ground.data }, { on := 12, ground := Go.Ground.chain }], guard := none }) (v := ?v233) rfl (by kernel_rfl) (by kernel_rfl) (by kernel_rfl) (fun _ _ _ h => h) (Or.inl ⟨by kernel_rfl, ?h233⟩) (by assumption) ?r233
          case h233 => (intro w hSw; (try dsimp only at hSw); go_simp; try with_reducible rfl)
          try simp only [Act.put, List.setIfInBounds_toArray, List.set_cons_zero, List.set_cons_succ]
          refine wpAnyH_take (i := 17) (oi := { dst := some 113, op := Go.Op.load 24 (Go.Operand.tmp 5), type := 24, pos := "law.go:98", after := #[{ on := 16, ground := Go.Ground.guard }], guard := some (16, false) }) (v := ?v234) rfl (by kernel_rfl) (by kernel_rfl) (by kernel_rfl) (fun _ _ _ h => h) (Or.inl ⟨by kernel_rfl, ?h234⟩) (by assumption) ?r234
          case h234 => (intro w hSw; (try dsimp only at hSw); go_simp; try with_reducible rfl)
          try simp only [Act.put, List.setIfInBounds_toArray, List.set_cons_zero, List.set_cons_succ]
          refine wpAnyH_ready (rs := [18]) (by kernel_rfl) (by simp) ?_
          refine AllReadyH.cons (o := { dst := some 114, op := Go.Op.call { callee := Go.Callee.value (Go.Operand.func 36), args := #[Go.Operand.tmp 113], argTypes := #[24] }, type := 4, pos := "law.go:98", after := #[{ on := 17, ground := Go.Ground.data }, { on := 16, ground := Go.Ground.chain }, { on := 16, ground := Go.Ground.guard }], guard := some (16, false) }) rfl (fun K hK => ?_) AllReadyH.nil
          go_simp
          with_reducible refine (QE.out _ aB dB (qb.out _ hHeld)).mono ?_
          rintro e t18 ⟨rfl, b18⟩
          go_simp
          refine hK.out _ _ (hHeld.trans (b18.mono hHeld.size)) (fun hHeld => ?_)
          clear hK K
          try simp only [Act.put, List.setIfInBounds_toArray, List.set_cons_zero, List.set_cons_succ]
          refine wpAnyH_take (i := 19) (oi := { dst := some 115, op := Go.Op.move (Go.Operand.tmp 114), type := 4, pos := "law.go:98", after := #[{ on := 18, ground := Go.Ground.data }, { on := 18, ground := Go.Ground.chain }, { on := 16, ground := Go.Ground.guard }], guard := some (16, false) }) (v := ?v235) rfl (by kernel_rfl) (by kernel_rfl) (by kernel_rfl) (fun _ _ _ h => h) (Or.inl ⟨by kernel_rfl, ?h235⟩) (by assumption) ?r235
          case h235 => (intro w hSw; (try dsimp only at hSw); go_simp; try with_reducible rfl)
          try simp only [Act.put, List.setIfInBounds_toArray, List.set_cons_zero, List.set_cons_succ]
          refine wpAnyH_take (i := 20) (oi := { dst := some 116, op := Go.Op.load 38 (Go.Operand.tmp 10), type := 38, pos := "law.go:98", after := #[{ on := 19, ground := Go.Ground.guard }], guard := some (19, true) }) (v := undef) rfl (by kernel_rfl) (by kernel_rfl) (by kernel_rfl) (fun _ _ _ h => h) (Or.inr ⟨by kernel_rfl, rfl⟩) (by assumption) ?_
          try simp only [Act.put, List.setIfInBounds_toArray, List.set_cons_zero, List.set_cons_succ]
          refine wpAnyH_take (i := 21) (oi := { dst := some 117, op := Go.Op.call { callee := Go.Callee.value (Go.Operand.func 38), args := #[], argTypes := #[] }, type := 38, pos := "law.go:98", after := #[{ on := 19, ground := Go.Ground.chain }, { on := 19, ground := Go.Ground.guard }], guard := some (19, true) }) (v := undef) rfl (by kernel_rfl) (by kernel_rfl) (by kernel_rfl) (fun _ _ _ h => h) (Or.inr ⟨by kernel_rfl, rfl⟩) (by assumption) ?_
          try simp only [Act.put, List.setIfInBounds_toArray, List.set_cons_zero, List.set_cons_succ]
          refine wpAnyH_take (i := 22) (oi := { dst := some 118, op := Go.Op.binOp Go.BinOp.neq 38 (Go.Operand.tmp 116) (Go.Operand.tmp 117) 38, type := 4, pos := "law.go:98", after := #[{ on := 20, ground := Go.Ground.data }, { on := 21, ground := Go.Ground.data }, { on := 19, ground := Go.Ground.guard }], guard := some (19, true) }) (v := undef) rfl (by kernel_rfl) (by kernel_rfl) (by kernel_rfl) (fun _ _ _ h => h) (Or.inr ⟨by kernel_rfl, rfl⟩) (by assumption) ?_
          try simp only [Act.put, List.setIfInBounds_toArray, List.set_cons_zero, List.set_cons_succ]
          refine wpAnyH_take (i := 23) (oi := { dst := some 119, op := Go.Op.pick (Go.Operand.tmp 115) (Go.Operand.tmp 118) (Go.Operand.const (Go.Value.bool false)), type := 4, pos := "law.go:98", after := #[{ on := 19, ground := Go.Ground.data }, { on := 22, ground := Go.Ground.data }, { on := 16, ground := Go.Ground.guard }], guard := some (16, false) }) (v := ?v239) rfl (by kernel_rfl) (by kernel_rfl) (by kernel_rfl) (fun _ _ _ h => h) (Or.inl ⟨by kernel_rfl, ?h239⟩) (by assumption) ?r239
          case h239 => (intro w hSw; (try dsimp only at hSw); go_simp; try with_reducible rfl)
          try simp only [Act.put, List.setIfInBounds_toArray, List.set_cons_zero, List.set_cons_succ]
          refine wpAnyH_take (i := 24) (oi := { dst := some 120, op := Go.Op.pick (Go.Operand.tmp 112) (Go.Operand.const (Go.Value.bool true)) (Go.Operand.tmp 119), type := 4, pos := "law.go:98", after := #[{ on := 16, ground := Go.Ground.data }, { on := 23, ground := Go.Ground.data }], guard := none }) (v := ?v240) rfl (by kernel_rfl) (by kernel_rfl) (by kernel_rfl) (fun _ _ _ h => h) (Or.inl ⟨by kernel_rfl, ?h240⟩) (by assumption) ?r240
          case h240 => (intro w hSw; (try dsimp only at hSw); go_simp; try with_reducible rfl)
          try simp only [Act.put, List.setIfInBounds_toArray, List.set_cons_zero, List.set_cons_succ]
          refine wpAnyH_done (by kernel_rfl) ?_ _
          clear k401 k402 k403 k404
          replace ZB := Lib.hid (ZB.out.below hHeld ZB.out.lt)
          replace ZI := Lib.hid (ZI.out.below hHeld ZI.out.lt)
          replace BL := Lib.hid (BL.out.trans (hHeld.mono BL.out.size))
          replace TB := Lib.hid (TB.out.below hHeld)
          replace SV := Lib.hid (SV.out.below hHeld)
          clear hHeld qb c0 c1
          go_wp2
          go_roundw
          case rel => exact ⟨i + 1, by omega, by go_num, BL, ZB, TB, SV⟩
          case measure => simp [intOf]; omega
        · have hie : i = k := by omega
          subst hie
          go_wp2
          go_ret
          exact ⟨rfl, BL.out⟩
theorem zoneBoxes_walk (w : World) (a0 : Option Addr) (n c0 : Nat) (hr : ItvSl w a0 n c0)
    (av : Option Addr) (mv cv : Nat) (v : List Int) (hlv : v.length = mv) (hmv : mv ≤ maxLen) (hcv : mv ≤ cv) (hwv : ∀ n ∈ v, (Lit.int .i64 n).wf = true) (hsv : Sees .i64 w.heap.size w av v) :
    Calls Try.prog 5 #[.slice a0 n c0, .slice av mv cv] w (Gives (.bool true) w) := by
  obtain ⟨hn1, hn2, xs, hx, h0⟩ := hr
  have hv : SL w av mv cv v := ⟨hlv.symm, hcv, by unfold maxLen at hmv; omega, hsv⟩
  by_cases g1 : 20 < n
  · exact boxes_g1 n mv a0 av c0 cv xs v w hx h0 hv g1
  by_cases g2 : 20 < mv
  · exact boxes_g2 n mv a0 av c0 cv xs v w hx h0 hv g1 g2
  by_cases g3 : 8 < n
  · exact boxes_long n mv a0 av c0 cv xs v w hx h0 hv g1 g2 g3
  by_cases hR : boxL n xs = []
  · by_cases hm : mv < n
    · exact boxes_es n mv a0 av c0 cv xs v w hx h0 hv g1 g2 g3 hR hm
    · exact boxes_el n mv a0 av c0 cv xs v w hx h0 hv g1 g2 g3 hR (by omega)
  · by_cases hm : mv < n
    · exact boxes_fs n mv a0 av c0 cv xs v w hx h0 hv g1 g2 g3 hR hm
    · exact boxes_fl n mv a0 av c0 cv xs v w hx h0 hv g1 g2 g3 hR (by omega)
end Go.Proofs.Ytacbkddkjlnklaa
