/-
  Words and walks under the law's proof.
-/
import Derived.ArgAppend
import Derived.Test.YtbpaoiajfjkmfaaQT01
import Derived.Test.YtbpaoiajfjkmfaaQT02
import Derived.Test.YtbpaoiajfjkmfaaQT03
namespace Go.Proofs.Ytbpaoiajfjkmfaa
open Go.RowKit
set_option linter.unusedVariables false
set_option linter.unusedSimpArgs false
def lvA : AlD := ⟨1, 1, ⟨#[102]⟩, ⟨#[97, 46, 103, 111]⟩, 9, ⟨#[120, 32, 45, 32, 121, 32, 60, 61, 32, 48]⟩⟩
def lvB : AlD := ⟨1, 1, ⟨#[102]⟩, ⟨#[97, 46, 103, 111]⟩, 3, ⟨#[120, 45, 121, 32, 60, 61, 48]⟩⟩
theorem lv_key : keyA lvA = keyA lvB := by
  unfold keyA lvA lvB
  have e : normS (codes ⟨#[120, 32, 45, 32, 121, 32, 60, 61, 32, 48]⟩) = normS (codes ⟨#[120, 45, 121, 32, 60, 61, 48]⟩) := by
    rw [show codes ⟨#[120, 32, 45, 32, 121, 32, 60, 61, 32, 48]⟩ = [120, 32, 45, 32, 121, 32, 60, 61, 32, 48] by rfl, show codes ⟨#[120, 45, 121, 32, 60, 61, 48]⟩ = [120, 45, 121, 32, 60, 61, 48] by rfl]
    simp [normS, normL, hw, partsL, wdB, letB]
  rw [e]
theorem lv_cmp1 : cmpA lvA lvB = 1 := by decide +kernel
theorem lv_cmp2 : cmpA lvB lvA = -1 := by decide +kernel
theorem lv_rank0 : rankA [lvA, lvB] 0 = 1 := by
  unfold rankA rankL
  have e : List.range [lvA, lvB].length = [0, 1] := rfl
  rw [e]
  have s0 : aheadB cmpA [lvA, lvB] al0 0 0 = false := ahead_self cmA _ _ _
  have s1 : aheadB cmpA [lvA, lvB] al0 1 0 = true := by unfold aheadB; rw [show [lvA, lvB].getD 1 al0 = lvB from rfl, show [lvA, lvB].getD 0 al0 = lvA from rfl, lv_cmp2]; rfl
  have k1 : keyA ([lvA, lvB].getD 1 al0) = keyA ([lvA, lvB].getD 0 al0) := lv_key.symm
  simp only [List.countP_cons, List.countP_nil, s0, s1, Bool.false_and, Bool.true_and]
  rw [decide_eq_true k1]
  rfl
theorem lv_rank1 : rankA [lvA, lvB] 1 = 0 := by
  unfold rankA rankL
  have e : List.range [lvA, lvB].length = [0, 1] := rfl
  rw [e]
  have s0 : aheadB cmpA [lvA, lvB] al0 1 1 = false := ahead_self cmA _ _ _
  have s1 : aheadB cmpA [lvA, lvB] al0 0 1 = false := by unfold aheadB; rw [show [lvA, lvB].getD 1 al0 = lvB from rfl, show [lvA, lvB].getD 0 al0 = lvA from rfl, lv_cmp1]; rfl
  simp only [List.countP_cons, List.countP_nil, s0, s1, Bool.false_and]
  rfl
theorem lv_ranks : (List.range 2).map (fun i => (rankA [lvA, lvB] i : Int)) = [1, 0] := by
  rw [show List.range 2 = [0, 1] from rfl]
  simp only [List.map_cons, List.map_nil, lv_rank0, lv_rank1]
  rfl
theorem lv_fing : (List.range 2).map (fun i => oneK (keyA ([lvA, lvB].getD i al0)) (rankA [lvA, lvB] i)) = [oneK (keyA lvA) 1, oneK (keyA lvA) 0] := by
  rw [show List.range 2 = [0, 1] from rfl]
  simp only [List.map_cons, List.map_nil, lv_rank0, lv_rank1]
  rw [show [lvA, lvB].getD 1 al0 = lvB from rfl, show [lvA, lvB].getD 0 al0 = lvA from rfl, lv_key]
theorem lv_ne (k : List Int) : (oneK k 1 != oneK k 0) = true := by
  rw [bne_iff_ne]
  intro h
  unfold oneK at h
  rw [leb_small (by omega), leb_small (by omega)] at h
  have := fstep_inj (t := fsum fstart k) (x := 1) (y := 0) (fsum_in fstart_in k) (by unfold InU; omega) (by unfold InU; omega) h
  omega
theorem lv_w : ∀ s ∈ [lvA, lvB], alW s := by
  intro s hs
  simp at hs
  rcases hs with rfl | rfl <;> (unfold alW; decide)
theorem lv_s : ∀ s ∈ [lvA, lvB], smallA s := by
  intro s hs
  simp at hs
  rcases hs with rfl | rfl <;> (unfold smallA; decide)
theorem lv_lit (w : World) (cs : Array Value) (h : cs.toList = [lvA, lvB].flatMap alC) : RO alC (w.alloc (.cells cs 24)) (some ⟨w.heap.size, 0, none⟩) 2 2 [lvA, lvB] := by
  refine ⟨rfl, Nat.le_refl _, by decide, ?_⟩
  rw [← h]
  exact seesC_lit w _ cs
set_option maxRecDepth 100000 in
set_option maxHeartbeats 4000000 in
theorem flives_any (w : World) : Calls Try.prog 8 #[] w (Gives (.bool true) w) := by
  have q1 := Lib.hid (fun (a : Option Addr) (W : World) (h : RO alC W a 2 2 [lvA, lvB]) => frankss_any [lvA, lvB] a 2 2 W h lv_w lv_s (by omega))
  have q2 := Lib.hid (fun (a : Option Addr) (W : World) (h : RO alC W a 2 2 [lvA, lvB]) => fofs_any [lvA, lvB] a 2 2 W h lv_w lv_s (by omega))
  have q3 : Hid (∀ W, Calls Try.prog 10 #[.agg #[.int .i64 1, .int .i64 1, .string ⟨#[102]⟩, .string ⟨#[97, 46, 103, 111]⟩, .int .i64 3, .string ⟨#[120, 45, 121, 32, 60, 61, 48]⟩], .int .i64 1] W (Gives (.int .u64 (oneA lvB 1)) W)) := Lib.hid (fun (W : World) => fone_any lvB (by decide) (by unfold smallA; decide) 1 (by decide) W)
  have q4 : Hid (∀ W, Calls Try.prog 10 #[.agg #[.int .i64 1, .int .i64 1, .string ⟨#[102]⟩, .string ⟨#[97, 46, 103, 111]⟩, .int .i64 9, .string ⟨#[120, 32, 45, 32, 121, 32, 60, 61, 32, 48]⟩], .int .i64 0] W (Gives (.int .u64 (oneA lvA 0)) W)) := Lib.hid (fun (W : World) => fone_any lvA (by decide) (by unfold smallA; decide) 0 (by decide) W)
  rw [lv_ranks] at q1
  rw [lv_fing] at q2
  have e3 : oneA lvB 1 = oneK (keyA lvA) 1 := by unfold oneA; rw [lv_key]; rfl
  have e4 : oneA lvA 0 = oneK (keyA lvA) 0 := rfl
  rw [e3] at q3
  rw [e4] at q4
  have hne := lv_ne (keyA lvA)
  clear e3 e4
  generalize oneK (keyA lvA) 1 = R1 at *
  generalize oneK (keyA lvA) 0 = R0 at *
  obtain ⟨W1, hW1⟩ : ∃ W1, W1 = ((w.alloc (.cells #[.int .i64 1, .int .i64 1, .string ⟨#[102]⟩, .string ⟨#[97, 46, 103, 111]⟩, .int .i64 9, .string ⟨#[120, 32, 45, 32, 121, 32, 60, 61, 32, 48]⟩] 24)).alloc (.cells #[.int .i64 1, .int .i64 1, .string ⟨#[102]⟩, .string ⟨#[97, 46, 103, 111]⟩, .int .i64 3, .string ⟨#[120, 45, 121, 32, 60, 61, 48]⟩] 24)).alloc (.cells #[.int .i64 1, .int .i64 1, .string ⟨#[102]⟩, .string ⟨#[97, 46, 103, 111]⟩, .int .i64 9, .string ⟨#[120, 32, 45, 32, 121, 32, 60, 61, 32, 48]⟩, .int .i64 1, .int .i64 1, .string ⟨#[102]⟩, .string ⟨#[97, 46, 103, 111]⟩, .int .i64 3, .string ⟨#[120, 45, 121, 32, 60, 61, 48]⟩] 24) := ⟨_, rfl⟩
  have B1 : Hid (Below w.heap.size w W1) := Lib.hid (by rw [hW1]; exact (box2_below _ _ _ _ _).alloc (by simp; omega) _)
  have ZA : Hid (Holds W1 w.heap.size 24 #[.int .i64 1, .int .i64 1, .string ⟨#[102]⟩, .string ⟨#[97, 46, 103, 111]⟩, .int .i64 9, .string ⟨#[120, 32, 45, 32, 121, 32, 60, 61, 32, 48]⟩]) := Lib.hid (by rw [hW1]; exact ((Holds.new w _ _).alloc _).alloc _)
  have ZB : Hid (Holds W1 (w.heap.size + 1) 24 #[.int .i64 1, .int .i64 1, .string ⟨#[102]⟩, .string ⟨#[97, 46, 103, 111]⟩, .int .i64 3, .string ⟨#[120, 45, 121, 32, 60, 61, 48]⟩]) := Lib.hid (by rw [hW1]; have q := (Holds.new (w.alloc (.cells #[.int .i64 1, .int .i64 1, .string ⟨#[102]⟩, .string ⟨#[97, 46, 103, 111]⟩, .int .i64 9, .string ⟨#[120, 32, 45, 32, 121, 32, 60, 61, 32, 48]⟩] 24)) 24 #[.int .i64 1, .int .i64 1, .string ⟨#[102]⟩, .string ⟨#[97, 46, 103, 111]⟩, .int .i64 3, .string ⟨#[120, 45, 121, 32, 60, 61, 48]⟩]).alloc (.cells #[.int .i64 1, .int .i64 1, .string ⟨#[102]⟩, .string ⟨#[97, 46, 103, 111]⟩, .int .i64 9, .string ⟨#[120, 32, 45, 32, 121, 32, 60, 61, 32, 48]⟩, .int .i64 1, .int .i64 1, .string ⟨#[102]⟩, .string ⟨#[97, 46, 103, 111]⟩, .int .i64 3, .string ⟨#[120, 45, 121, 32, 60, 61, 48]⟩] 24); simpa using q)
  have R1' : Hid (RO alC W1 (some ⟨w.heap.size + 1 + 1, 0, none⟩) 2 2 [lvA, lvB]) := Lib.hid (by rw [hW1]; have q := lv_lit ((w.alloc (.cells #[.int .i64 1, .int .i64 1, .string ⟨#[102]⟩, .string ⟨#[97, 46, 103, 111]⟩, .int .i64 9, .string ⟨#[120, 32, 45, 32, 121, 32, 60, 61, 32, 48]⟩] 24)).alloc (.cells #[.int .i64 1, .int .i64 1, .string ⟨#[102]⟩, .string ⟨#[97, 46, 103, 111]⟩, .int .i64 3, .string ⟨#[120, 45, 121, 32, 60, 61, 48]⟩] 24)) #[.int .i64 1, .int .i64 1, .string ⟨#[102]⟩, .string ⟨#[97, 46, 103, 111]⟩, .int .i64 9, .string ⟨#[120, 32, 45, 32, 121, 32, 60, 61, 32, 48]⟩, .int .i64 1, .int .i64 1, .string ⟨#[102]⟩, .string ⟨#[97, 46, 103, 111]⟩, .int .i64 3, .string ⟨#[120, 45, 121, 32, 60, 61, 48]⟩] rfl; simpa using q)
  have hW1' := Lib.hid hW1
  clear hW1
  go_enter Try.func8, Try.ntmps8
  go_wp2_with fail
  rw [← hW1'.out]
  with_reducible refine (q1.out _ _ R1'.out).mono ?_
  rintro e w2 h2
  obtain ⟨a2, c2, rfl, s2, b2⟩ := h2.open 2 rfl
  clear h2 q1 R1' hW1'
  replace ZA := Lib.hid (ZA.out.below b2 ZA.out.lt)
  replace ZB := Lib.hid (ZB.out.below b2 ZB.out.lt)
  replace B1 := Lib.hid (B1.out.trans (b2.mono B1.out.size))
  have xa0 := ZA.out.cell 0
  have xa1 := ZA.out.cell 1
  have xa2 := ZA.out.cell 2
  have xa3 := ZA.out.cell 3
  have xa4 := ZA.out.cell 4
  have xa5 := ZA.out.cell 5
  have xb0 := ZB.out.cell 0
  have xb1 := ZB.out.cell 1
  have xb2 := ZB.out.cell 2
  have xb3 := ZB.out.cell 3
  have xb4 := ZB.out.cell 4
  have xb5 := ZB.out.cell 5
  simp at xa0 xa1 xa2 xa3 xa4 xa5 xb0 xb1 xb2 xb3 xb4 xb5
  have s2' := Lib.hid s2
  have R2' := Lib.hid (lv_lit w2 #[.int .i64 1, .int .i64 1, .string ⟨#[102]⟩, .string ⟨#[97, 46, 103, 111]⟩, .int .i64 9, .string ⟨#[120, 32, 45, 32, 121, 32, 60, 61, 32, 48]⟩, .int .i64 1, .int .i64 1, .string ⟨#[102]⟩, .string ⟨#[97, 46, 103, 111]⟩, .int .i64 3, .string ⟨#[120, 45, 121, 32, 60, 61, 48]⟩] rfl)
  have B2 := Lib.hid (box_below w2 #[.int .i64 1, .int .i64 1, .string ⟨#[102]⟩, .string ⟨#[97, 46, 103, 111]⟩, .int .i64 9, .string ⟨#[120, 32, 45, 32, 121, 32, 60, 61, 32, 48]⟩, .int .i64 1, .int .i64 1, .string ⟨#[102]⟩, .string ⟨#[97, 46, 103, 111]⟩, .int .i64 3, .string ⟨#[120, 45, 121, 32, 60, 61, 48]⟩] 24)
  clear s2 b2
  go_wp2_with fail
  with_reducible refine (q2.out _ _ R2'.out).mono ?_
  rintro e w3 h3
  obtain ⟨a3, c3, rfl, s3, b3⟩ := h3.open 2 rfl
  have b3' := Lib.hid (B2.out.trans (b3.mono B2.out.size))
  clear h3 q2 R2' xa0 xa1 xa2 xa3 xa4 xa5 xb0 xb1 xb2 xb3 xb4 xb5 B2 b3
  replace ZA := Lib.hid (ZA.out.below b3'.out ZA.out.lt)
  replace ZB := Lib.hid (ZB.out.below b3'.out ZB.out.lt)
  replace B1 := Lib.hid (B1.out.trans (b3'.out.mono B1.out.size))
  have s4 := s2'.out.below b3'.out
  rcases s4 with h | ⟨g4, o4, rfl, l4, c4⟩
  · cases h
  rcases s3 with h | ⟨g5, o5, rfl, l5, c5⟩
  · cases h
  have l4' : g4 < w3.heap.size := Nat.lt_of_lt_of_le l4 b3'.out.size
  have p0 : ∀ V, Below w3.heap.size w3 V → V.cell? ⟨g4, o4, none⟩ = some (.int .i64 1) := fun V hV => (hV.cell (p := ⟨g4, o4, none⟩) l4').trans (c4 0 (by decide))
  have p1 : ∀ V, Below w3.heap.size w3 V → V.cell? ⟨g4, o4 + 1, none⟩ = some (.int .i64 0) := fun V hV => (hV.cell (p := ⟨g4, o4 + 1, none⟩) l4').trans (c4 1 (by decide))
  have r0 : ∀ V, Below w3.heap.size w3 V → V.cell? ⟨g5, o5, none⟩ = some (.int .u64 R1) := fun V hV => (hV.cell (p := ⟨g5, o5, none⟩) l5).trans (c5 0 (by simp))
  have r1 : ∀ V, Below w3.heap.size w3 V → V.cell? ⟨g5, o5 + 1, none⟩ = some (.int .u64 R0) := fun V hV => (hV.cell (p := ⟨g5, o5 + 1, none⟩) l5).trans (c5 1 (by simp))
  have yA0 : ∀ V, Below w3.heap.size w3 V → V.cell? ⟨w.heap.size, 0, none⟩ = some (.int .i64 1) := fun V hV => (ZA.out.below hV ZA.out.lt).cell 0
  have yA1 : ∀ V, Below w3.heap.size w3 V → V.cell? ⟨w.heap.size, 1, none⟩ = some (.int .i64 1) := fun V hV => (ZA.out.below hV ZA.out.lt).cell 1
  have yA2 : ∀ V, Below w3.heap.size w3 V → V.cell? ⟨w.heap.size, 2, none⟩ = some (.string ⟨#[102]⟩) := fun V hV => (ZA.out.below hV ZA.out.lt).cell 2
  have yA3 : ∀ V, Below w3.heap.size w3 V → V.cell? ⟨w.heap.size, 3, none⟩ = some (.string ⟨#[97, 46, 103, 111]⟩) := fun V hV => (ZA.out.below hV ZA.out.lt).cell 3
  have yA4 : ∀ V, Below w3.heap.size w3 V → V.cell? ⟨w.heap.size, 4, none⟩ = some (.int .i64 9) := fun V hV => (ZA.out.below hV ZA.out.lt).cell 4
  have yA5 : ∀ V, Below w3.heap.size w3 V → V.cell? ⟨w.heap.size, 5, none⟩ = some (.string ⟨#[120, 32, 45, 32, 121, 32, 60, 61, 32, 48]⟩) := fun V hV => (ZA.out.below hV ZA.out.lt).cell 5
  have yB0 : ∀ V, Below w3.heap.size w3 V → V.cell? ⟨w.heap.size + 1, 0, none⟩ = some (.int .i64 1) := fun V hV => (ZB.out.below hV ZB.out.lt).cell 0
  have yB1 : ∀ V, Below w3.heap.size w3 V → V.cell? ⟨w.heap.size + 1, 1, none⟩ = some (.int .i64 1) := fun V hV => (ZB.out.below hV ZB.out.lt).cell 1
  have yB2 : ∀ V, Below w3.heap.size w3 V → V.cell? ⟨w.heap.size + 1, 2, none⟩ = some (.string ⟨#[102]⟩) := fun V hV => (ZB.out.below hV ZB.out.lt).cell 2
  have yB3 : ∀ V, Below w3.heap.size w3 V → V.cell? ⟨w.heap.size + 1, 3, none⟩ = some (.string ⟨#[97, 46, 103, 111]⟩) := fun V hV => (ZB.out.below hV ZB.out.lt).cell 3
  have yB4 : ∀ V, Below w3.heap.size w3 V → V.cell? ⟨w.heap.size + 1, 4, none⟩ = some (.int .i64 3) := fun V hV => (ZB.out.below hV ZB.out.lt).cell 4
  have yB5 : ∀ V, Below w3.heap.size w3 V → V.cell? ⟨w.heap.size + 1, 5, none⟩ = some (.string ⟨#[120, 45, 121, 32, 60, 61, 48]⟩) := fun V hV => (ZB.out.below hV ZB.out.lt).cell 5
  clear c4 c5 s2' b3' ZA ZB l4 l5 l4'
  go_wp2
  refine wp_drawn_on (fun V => Below w3.heap.size w3 V) (by kernel_rfl) ((Below.refl _ _).drew) (fun hHeld => ?_)
  refine wpAnyH_take (i := 0) (oi := { dst := some 17, op := Go.Op.move (Go.Operand.tmp 3), type := 27, pos := "law.go:21", after := #[], guard := none }) (v := ?v1) rfl (by kernel_rfl) (by kernel_rfl) (by kernel_rfl) (fun _ _ _ h => h) (Or.inl ⟨by kernel_rfl, ?h1⟩) (by assumption) ?r1
  case h1 => (intro w hSw; (try dsimp only at hSw); go_simp; try with_reducible rfl)
  try simp only [Act.put, List.setIfInBounds_toArray, List.set_cons_zero, List.set_cons_succ]
  refine wpAnyH_take (i := 1) (oi := { dst := some 18, op := Go.Op.call { callee := Go.Callee.builtin Go.Builtin.len, args := #[Go.Operand.tmp 17], argTypes := #[27] }, type := 3, pos := "law.go:21", after := #[{ on := 0, ground := Go.Ground.data }], guard := none }) (v := ?v2) rfl (by kernel_rfl) (by kernel_rfl) (by kernel_rfl) (fun _ _ _ h => h) (Or.inl ⟨by kernel_rfl, ?h2⟩) (by assumption) ?r2
  case h2 => (intro w hSw; (try dsimp only at hSw); go_simp; try with_reducible rfl)
  try simp only [Act.put, List.setIfInBounds_toArray, List.set_cons_zero, List.set_cons_succ]
  refine wpAnyH_take (i := 2) (oi := { dst := some 19, op := Go.Op.binOp Go.BinOp.eql 3 (Go.Operand.tmp 18) (Go.Operand.const (Go.Value.int Go.IntKind.i64 2)) 3, type := 4, pos := "law.go:21", after := #[{ on := 1, ground := Go.Ground.data }], guard := none }) (v := ?v3) rfl (by kernel_rfl) (by kernel_rfl) (by kernel_rfl) (fun _ _ _ h => h) (Or.inl ⟨by kernel_rfl, ?h3⟩) (by assumption) ?r3
  case h3 => (intro w hSw; (try dsimp only at hSw); go_simp; try with_reducible rfl)
  try simp only [Act.put, List.setIfInBounds_toArray, List.set_cons_zero, List.set_cons_succ]
  refine wpAnyH_take (i := 3) (oi := { dst := some 20, op := Go.Op.move (Go.Operand.tmp 19), type := 4, pos := "law.go:21", after := #[{ on := 2, ground := Go.Ground.data }], guard := none }) (v := ?v4) rfl (by kernel_rfl) (by kernel_rfl) (by kernel_rfl) (fun _ _ _ h => h) (Or.inl ⟨by kernel_rfl, ?h4⟩) (by assumption) ?r4
  case h4 => (intro w hSw; (try dsimp only at hSw); go_simp; try with_reducible rfl)
  try simp only [Act.put, List.setIfInBounds_toArray, List.set_cons_zero, List.set_cons_succ]
  refine wpAnyH_take (i := 4) (oi := { dst := some 21, op := Go.Op.move (Go.Operand.tmp 3), type := 27, pos := "law.go:21", after := #[{ on := 3, ground := Go.Ground.guard }], guard := some (3, true) }) (v := ?v5) rfl (by kernel_rfl) (by kernel_rfl) (by kernel_rfl) (fun _ _ _ h => h) (Or.inl ⟨by kernel_rfl, ?h5⟩) (by assumption) ?r5
  case h5 => (intro w hSw; (try dsimp only at hSw); go_simp; try with_reducible rfl)
  try simp only [Act.put, List.setIfInBounds_toArray, List.set_cons_zero, List.set_cons_succ]
  refine wpAnyH_take (i := 5) (oi := { dst := some 22, op := Go.Op.indexAddr 27 (Go.Operand.tmp 21) (Go.Operand.const (Go.Value.int Go.IntKind.i64 0)), type := 0, pos := "law.go:21", after := #[{ on := 4, ground := Go.Ground.data }, { on := 3, ground := Go.Ground.guard }], guard := some (3, true) }) (v := ?v6) rfl (by kernel_rfl) (by kernel_rfl) (by kernel_rfl) (fun _ _ _ h => h) (Or.inl ⟨by kernel_rfl, ?h6⟩) (by assumption) ?r6
  case h6 => (intro w hSw; (try dsimp only at hSw); go_simp; try with_reducible rfl)
  try simp only [Act.put, List.setIfInBounds_toArray, List.set_cons_zero, List.set_cons_succ]
  refine wpAnyH_take (i := 6) (oi := { dst := some 23, op := Go.Op.load 3 (Go.Operand.tmp 22), type := 3, pos := "law.go:21", after := #[{ on := 5, ground := Go.Ground.data }, { on := 3, ground := Go.Ground.guard }], guard := some (3, true) }) (v := ?v7) rfl (by kernel_rfl) (by kernel_rfl) (by kernel_rfl) (fun _ _ _ h => h) (Or.inl ⟨by kernel_rfl, ?h7⟩) (by assumption) ?r7
  case h7 => (intro w hSw; (try dsimp only at hSw); go_simp; try with_reducible rfl)
  try simp only [Act.put, List.setIfInBounds_toArray, List.set_cons_zero, List.set_cons_succ]
  refine wpAnyH_take (i := 7) (oi := { dst := some 24, op := Go.Op.binOp Go.BinOp.eql 3 (Go.Operand.tmp 23) (Go.Operand.const (Go.Value.int Go.IntKind.i64 1)) 3, type := 4, pos := "law.go:21", after := #[{ on := 6, ground := Go.Ground.data }, { on := 3, ground := Go.Ground.guard }], guard := some (3, true) }) (v := ?v8) rfl (by kernel_rfl) (by kernel_rfl) (by kernel_rfl) (fun _ _ _ h => h) (Or.inl ⟨by kernel_rfl, ?h8⟩) (by assumption) ?r8
  case h8 => (intro w hSw; (try dsimp only at hSw); go_simp; try with_reducible rfl)
  try simp only [Act.put, List.setIfInBounds_toArray, List.set_cons_zero, List.set_cons_succ]
  refine wpAnyH_take (i := 8) (oi := { dst := some 25, op := Go.Op.pick (Go.Operand.tmp 20) (Go.Operand.tmp 24) (Go.Operand.const (Go.Value.bool false)), type := 4, pos := "law.go:21", after := #[{ on := 3, ground := Go.Ground.data }, { on := 7, ground := Go.Ground.data }], guard := none }) (v := ?v9) rfl (by kernel_rfl) (by kernel_rfl) (by kernel_rfl) (fun _ _ _ h => h) (Or.inl ⟨by kernel_rfl, ?h9⟩) (by assumption) ?r9
  case h9 => (intro w hSw; (try dsimp only at hSw); go_simp; try with_reducible rfl)
  try simp only [Act.put, List.setIfInBounds_toArray, List.set_cons_zero, List.set_cons_succ]
  refine wpAnyH_take (i := 9) (oi := { dst := some 26, op := Go.Op.move (Go.Operand.tmp 25), type := 4, pos := "law.go:21", after := #[{ on := 8, ground := Go.Ground.data }, { on := 3, ground := Go.Ground.chain }], guard := none }) (v := ?v10) rfl (by kernel_rfl) (by kernel_rfl) (by kernel_rfl) (fun _ _ _ h => h) (Or.inl ⟨by kernel_rfl, ?h10⟩) (by assumption) ?r10
  case h10 => (intro w hSw; (try dsimp only at hSw); go_simp; try with_reducible rfl)
  try simp only [Act.put, List.setIfInBounds_toArray, List.set_cons_zero, List.set_cons_succ]
  refine wpAnyH_take (i := 10) (oi := { dst := some 27, op := Go.Op.move (Go.Operand.tmp 3), type := 27, pos := "law.go:21", after := #[{ on := 9, ground := Go.Ground.guard }], guard := some (9, true) }) (v := ?v11) rfl (by kernel_rfl) (by kernel_rfl) (by kernel_rfl) (fun _ _ _ h => h) (Or.inl ⟨by kernel_rfl, ?h11⟩) (by assumption) ?r11
  case h11 => (intro w hSw; (try dsimp only at hSw); go_simp; try with_reducible rfl)
  try simp only [Act.put, List.setIfInBounds_toArray, List.set_cons_zero, List.set_cons_succ]
  refine wpAnyH_take (i := 11) (oi := { dst := some 28, op := Go.Op.indexAddr 27 (Go.Operand.tmp 27) (Go.Operand.const (Go.Value.int Go.IntKind.i64 1)), type := 0, pos := "law.go:21", after := #[{ on := 10, ground := Go.Ground.data }, { on := 9, ground := Go.Ground.guard }], guard := some (9, true) }) (v := ?v12) rfl (by kernel_rfl) (by kernel_rfl) (by kernel_rfl) (fun _ _ _ h => h) (Or.inl ⟨by kernel_rfl, ?h12⟩) (by assumption) ?r12
  case h12 => (intro w hSw; (try dsimp only at hSw); go_simp; try with_reducible rfl)
  try simp only [Act.put, List.setIfInBounds_toArray, List.set_cons_zero, List.set_cons_succ]
  refine wpAnyH_take (i := 12) (oi := { dst := some 29, op := Go.Op.load 3 (Go.Operand.tmp 28), type := 3, pos := "law.go:21", after := #[{ on := 11, ground := Go.Ground.data }, { on := 9, ground := Go.Ground.guard }], guard := some (9, true) }) (v := ?v13) rfl (by kernel_rfl) (by kernel_rfl) (by kernel_rfl) (fun _ _ _ h => h) (Or.inl ⟨by kernel_rfl, ?h13⟩) (by assumption) ?r13
  case h13 => (intro w hSw; (try dsimp only at hSw); go_simp; try with_reducible rfl)
  try simp only [Act.put, List.setIfInBounds_toArray, List.set_cons_zero, List.set_cons_succ]
  refine wpAnyH_take (i := 13) (oi := { dst := some 30, op := Go.Op.binOp Go.BinOp.eql 3 (Go.Operand.tmp 29) (Go.Operand.const (Go.Value.int Go.IntKind.i64 0)) 3, type := 4, pos := "law.go:21", after := #[{ on := 12, ground := Go.Ground.data }, { on := 9, ground := Go.Ground.guard }], guard := some (9, true) }) (v := ?v14) rfl (by kernel_rfl) (by kernel_rfl) (by kernel_rfl) (fun _ _ _ h => h) (Or.inl ⟨by kernel_rfl, ?h14⟩) (by assumption) ?r14
  case h14 => (intro w hSw; (try dsimp only at hSw); go_simp; try with_reducible rfl)
  try simp only [Act.put, List.setIfInBounds_toArray, List.set_cons_zero, List.set_cons_succ]
  refine wpAnyH_take (i := 14) (oi := { dst := some 31, op := Go.Op.pick (Go.Operand.tmp 26) (Go.Operand.tmp 30) (Go.Operand.const (Go.Value.bool false)), type := 4, pos := "law.go:21", after := #[{ on := 9, ground := Go.Ground.data }, { on := 13, ground := Go.Ground.data }], guard := none }) (v := ?v15) rfl (by kernel_rfl) (by kernel_rfl) (by kernel_rfl) (fun _ _ _ h => h) (Or.inl ⟨by kernel_rfl, ?h15⟩) (by assumption) ?r15
  case h15 => (intro w hSw; (try dsimp only at hSw); go_simp; try with_reducible rfl)
  try simp only [Act.put, List.setIfInBounds_toArray, List.set_cons_zero, List.set_cons_succ]
  refine wpAnyH_take (i := 15) (oi := { dst := some 32, op := Go.Op.move (Go.Operand.tmp 31), type := 4, pos := "law.go:21", after := #[{ on := 14, ground := Go.Ground.data }, { on := 9, ground := Go.Ground.chain }], guard := none }) (v := ?v16) rfl (by kernel_rfl) (by kernel_rfl) (by kernel_rfl) (fun _ _ _ h => h) (Or.inl ⟨by kernel_rfl, ?h16⟩) (by assumption) ?r16
  case h16 => (intro w hSw; (try dsimp only at hSw); go_simp; try with_reducible rfl)
  try simp only [Act.put, List.setIfInBounds_toArray, List.set_cons_zero, List.set_cons_succ]
  refine wpAnyH_take (i := 16) (oi := { dst := some 33, op := Go.Op.move (Go.Operand.tmp 4), type := 36, pos := "law.go:21", after := #[{ on := 15, ground := Go.Ground.guard }], guard := some (15, true) }) (v := ?v17) rfl (by kernel_rfl) (by kernel_rfl) (by kernel_rfl) (fun _ _ _ h => h) (Or.inl ⟨by kernel_rfl, ?h17⟩) (by assumption) ?r17
  case h17 => (intro w hSw; (try dsimp only at hSw); go_simp; try with_reducible rfl)
  try simp only [Act.put, List.setIfInBounds_toArray, List.set_cons_zero, List.set_cons_succ]
  refine wpAnyH_take (i := 17) (oi := { dst := some 34, op := Go.Op.call { callee := Go.Callee.builtin Go.Builtin.len, args := #[Go.Operand.tmp 33], argTypes := #[36] }, type := 3, pos := "law.go:21", after := #[{ on := 16, ground := Go.Ground.data }, { on := 15, ground := Go.Ground.guard }], guard := some (15, true) }) (v := ?v18) rfl (by kernel_rfl) (by kernel_rfl) (by kernel_rfl) (fun _ _ _ h => h) (Or.inl ⟨by kernel_rfl, ?h18⟩) (by assumption) ?r18
  case h18 => (intro w hSw; (try dsimp only at hSw); go_simp; try with_reducible rfl)
  try simp only [Act.put, List.setIfInBounds_toArray, List.set_cons_zero, List.set_cons_succ]
  refine wpAnyH_take (i := 18) (oi := { dst := some 35, op := Go.Op.binOp Go.BinOp.eql 3 (Go.Operand.tmp 34) (Go.Operand.const (Go.Value.int Go.IntKind.i64 2)) 3, type := 4, pos := "law.go:21", after := #[{ on := 17, ground := Go.Ground.data }, { on := 15, ground := Go.Ground.guard }], guard := some (15, true) }) (v := ?v19) rfl (by kernel_rfl) (by kernel_rfl) (by kernel_rfl) (fun _ _ _ h => h) (Or.inl ⟨by kernel_rfl, ?h19⟩) (by assumption) ?r19
  case h19 => (intro w hSw; (try dsimp only at hSw); go_simp; try with_reducible rfl)
  try simp only [Act.put, List.setIfInBounds_toArray, List.set_cons_zero, List.set_cons_succ]
  refine wpAnyH_take (i := 19) (oi := { dst := some 36, op := Go.Op.pick (Go.Operand.tmp 32) (Go.Operand.tmp 35) (Go.Operand.const (Go.Value.bool false)), type := 4, pos := "law.go:21", after := #[{ on := 15, ground := Go.Ground.data }, { on := 18, ground := Go.Ground.data }], guard := none }) (v := ?v20) rfl (by kernel_rfl) (by kernel_rfl) (by kernel_rfl) (fun _ _ _ h => h) (Or.inl ⟨by kernel_rfl, ?h20⟩) (by assumption) ?r20
  case h20 => (intro w hSw; (try dsimp only at hSw); go_simp; try with_reducible rfl)
  try simp only [Act.put, List.setIfInBounds_toArray, List.set_cons_zero, List.set_cons_succ]
  refine wpAnyH_take (i := 20) (oi := { dst := some 37, op := Go.Op.move (Go.Operand.tmp 36), type := 4, pos := "law.go:21", after := #[{ on := 19, ground := Go.Ground.data }, { on := 15, ground := Go.Ground.chain }], guard := none }) (v := ?v21) rfl (by kernel_rfl) (by kernel_rfl) (by kernel_rfl) (fun _ _ _ h => h) (Or.inl ⟨by kernel_rfl, ?h21⟩) (by assumption) ?r21
  case h21 => (intro w hSw; (try dsimp only at hSw); go_simp; try with_reducible rfl)
  try simp only [Act.put, List.setIfInBounds_toArray, List.set_cons_zero, List.set_cons_succ]
  refine wpAnyH_take (i := 21) (oi := { dst := some 38, op := Go.Op.move (Go.Operand.tmp 4), type := 36, pos := "law.go:21", after := #[{ on := 20, ground := Go.Ground.guard }], guard := some (20, true) }) (v := ?v22) rfl (by kernel_rfl) (by kernel_rfl) (by kernel_rfl) (fun _ _ _ h => h) (Or.inl ⟨by kernel_rfl, ?h22⟩) (by assumption) ?r22
  case h22 => (intro w hSw; (try dsimp only at hSw); go_simp; try with_reducible rfl)
  try simp only [Act.put, List.setIfInBounds_toArray, List.set_cons_zero, List.set_cons_succ]
  refine wpAnyH_take (i := 22) (oi := { dst := some 39, op := Go.Op.indexAddr 36 (Go.Operand.tmp 38) (Go.Operand.const (Go.Value.int Go.IntKind.i64 0)), type := 0, pos := "law.go:21", after := #[{ on := 21, ground := Go.Ground.data }, { on := 20, ground := Go.Ground.guard }], guard := some (20, true) }) (v := ?v23) rfl (by kernel_rfl) (by kernel_rfl) (by kernel_rfl) (fun _ _ _ h => h) (Or.inl ⟨by kernel_rfl, ?h23⟩) (by assumption) ?r23
  case h23 => (intro w hSw; (try dsimp only at hSw); go_simp; try with_reducible rfl)
  try simp only [Act.put, List.setIfInBounds_toArray, List.set_cons_zero, List.set_cons_succ]
  refine wpAnyH_take (i := 23) (oi := { dst := some 40, op := Go.Op.load 29 (Go.Operand.tmp 39), type := 29, pos := "law.go:21", after := #[{ on := 22, ground := Go.Ground.data }, { on := 20, ground := Go.Ground.guard }], guard := some (20, true) }) (v := ?v24) rfl (by kernel_rfl) (by kernel_rfl) (by kernel_rfl) (fun _ _ _ h => h) (Or.inl ⟨by kernel_rfl, ?h24⟩) (by assumption) ?r24
  case h24 => (intro w hSw; (try dsimp only at hSw); go_simp; try with_reducible rfl)
  try simp only [Act.put, List.setIfInBounds_toArray, List.set_cons_zero, List.set_cons_succ]
  refine wpAnyH_take (i := 24) (oi := { dst := some 41, op := Go.Op.load 24 (Go.Operand.tmp 2), type := 24, pos := "law.go:21", after := #[{ on := 20, ground := Go.Ground.guard }], guard := some (20, true) }) (v := ?v25) rfl (by kernel_rfl) (by kernel_rfl) (by kernel_rfl) (fun _ _ _ h => h) (Or.inl ⟨by kernel_rfl, ?h25⟩) (by assumption) ?r25
  case h25 => (intro w hSw; (try dsimp only at hSw); go_simp; try with_reducible rfl)
  try simp only [Act.put, List.setIfInBounds_toArray, List.set_cons_zero, List.set_cons_succ]
  refine wpAnyH_ready (rs := [25]) (by kernel_rfl) (by simp) ?_
  refine AllReadyH.cons (o := { dst := some 42, op := Go.Op.call { callee := Go.Callee.value (Go.Operand.func 10), args := #[Go.Operand.tmp 41, Go.Operand.const (Go.Value.int Go.IntKind.i64 1)], argTypes := #[24, 3] }, type := 29, pos := "law.go:21", after := #[{ on := 24, ground := Go.Ground.data }, { on := 20, ground := Go.Ground.chain }, { on := 20, ground := Go.Ground.guard }], guard := some (20, true) }) rfl (fun K hK => ?_) AllReadyH.nil
  go_simp
  with_reducible refine (q3.out _).mono ?_
  rintro e w6 ⟨rfl, b6⟩
  go_simp
  refine hK.out _ _ (hHeld.trans (b6.mono hHeld.size)) (fun hHeld => ?_)
  clear hK K
  try simp only [Act.put, List.setIfInBounds_toArray, List.set_cons_zero, List.set_cons_succ]
  refine wpAnyH_take (i := 26) (oi := { dst := some 43, op := Go.Op.binOp Go.BinOp.eql 29 (Go.Operand.tmp 40) (Go.Operand.tmp 42) 29, type := 4, pos := "law.go:21", after := #[{ on := 23, ground := Go.Ground.data }, { on := 25, ground := Go.Ground.data }, { on := 20, ground := Go.Ground.guard }], guard := some (20, true) }) (v := ?v26) rfl (by kernel_rfl) (by kernel_rfl) (by kernel_rfl) (fun _ _ _ h => h) (Or.inl ⟨by kernel_rfl, ?h26⟩) (by assumption) ?r26
  case h26 => (intro w hSw; (try dsimp only at hSw); go_simp; try with_reducible rfl)
  try simp only [Act.put, List.setIfInBounds_toArray, List.set_cons_zero, List.set_cons_succ]
  refine wpAnyH_take (i := 27) (oi := { dst := some 44, op := Go.Op.pick (Go.Operand.tmp 37) (Go.Operand.tmp 43) (Go.Operand.const (Go.Value.bool false)), type := 4, pos := "law.go:21", after := #[{ on := 20, ground := Go.Ground.data }, { on := 26, ground := Go.Ground.data }], guard := none }) (v := ?v27) rfl (by kernel_rfl) (by kernel_rfl) (by kernel_rfl) (fun _ _ _ h => h) (Or.inl ⟨by kernel_rfl, ?h27⟩) (by assumption) ?r27
  case h27 => (intro w hSw; (try dsimp only at hSw); go_simp; try with_reducible rfl)
  try simp only [Act.put, List.setIfInBounds_toArray, List.set_cons_zero, List.set_cons_succ]
  refine wpAnyH_take (i := 28) (oi := { dst := some 45, op := Go.Op.move (Go.Operand.tmp 44), type := 4, pos := "law.go:21", after := #[{ on := 27, ground := Go.Ground.data }, { on := 25, ground := Go.Ground.chain }], guard := none }) (v := ?v28) rfl (by kernel_rfl) (by kernel_rfl) (by kernel_rfl) (fun _ _ _ h => h) (Or.inl ⟨by kernel_rfl, ?h28⟩) (by assumption) ?r28
  case h28 => (intro w hSw; (try dsimp only at hSw); go_simp; try with_reducible rfl)
  try simp only [Act.put, List.setIfInBounds_toArray, List.set_cons_zero, List.set_cons_succ]
  refine wpAnyH_take (i := 29) (oi := { dst := some 46, op := Go.Op.move (Go.Operand.tmp 4), type := 36, pos := "law.go:21", after := #[{ on := 28, ground := Go.Ground.guard }], guard := some (28, true) }) (v := ?v29) rfl (by kernel_rfl) (by kernel_rfl) (by kernel_rfl) (fun _ _ _ h => h) (Or.inl ⟨by kernel_rfl, ?h29⟩) (by assumption) ?r29
  case h29 => (intro w hSw; (try dsimp only at hSw); go_simp; try with_reducible rfl)
  try simp only [Act.put, List.setIfInBounds_toArray, List.set_cons_zero, List.set_cons_succ]
  refine wpAnyH_take (i := 30) (oi := { dst := some 47, op := Go.Op.indexAddr 36 (Go.Operand.tmp 46) (Go.Operand.const (Go.Value.int Go.IntKind.i64 1)), type := 0, pos := "law.go:21", after := #[{ on := 29, ground := Go.Ground.data }, { on := 28, ground := Go.Ground.guard }], guard := some (28, true) }) (v := ?v30) rfl (by kernel_rfl) (by kernel_rfl) (by kernel_rfl) (fun _ _ _ h => h) (Or.inl ⟨by kernel_rfl, ?h30⟩) (by assumption) ?r30
  case h30 => (intro w hSw; (try dsimp only at hSw); go_simp; try with_reducible rfl)
  try simp only [Act.put, List.setIfInBounds_toArray, List.set_cons_zero, List.set_cons_succ]
  refine wpAnyH_take (i := 31) (oi := { dst := some 48, op := Go.Op.load 29 (Go.Operand.tmp 47), type := 29, pos := "law.go:21", after := #[{ on := 30, ground := Go.Ground.data }, { on := 28, ground := Go.Ground.guard }], guard := some (28, true) }) (v := ?v31) rfl (by kernel_rfl) (by kernel_rfl) (by kernel_rfl) (fun _ _ _ h => h) (Or.inl ⟨by kernel_rfl, ?h31⟩) (by assumption) ?r31
  case h31 => (intro w hSw; (try dsimp only at hSw); go_simp; try with_reducible rfl)
  try simp only [Act.put, List.setIfInBounds_toArray, List.set_cons_zero, List.set_cons_succ]
  refine wpAnyH_take (i := 32) (oi := { dst := some 49, op := Go.Op.load 24 (Go.Operand.tmp 1), type := 24, pos := "law.go:21", after := #[{ on := 28, ground := Go.Ground.guard }], guard := some (28, true) }) (v := ?v32) rfl (by kernel_rfl) (by kernel_rfl) (by kernel_rfl) (fun _ _ _ h => h) (Or.inl ⟨by kernel_rfl, ?h32⟩) (by assumption) ?r32
  case h32 => (intro w hSw; (try dsimp only at hSw); go_simp; try with_reducible rfl)
  try simp only [Act.put, List.setIfInBounds_toArray, List.set_cons_zero, List.set_cons_succ]
  refine wpAnyH_ready (rs := [33]) (by kernel_rfl) (by simp) ?_
  refine AllReadyH.cons (o := { dst := some 50, op := Go.Op.call { callee := Go.Callee.value (Go.Operand.func 10), args := #[Go.Operand.tmp 49, Go.Operand.const (Go.Value.int Go.IntKind.i64 0)], argTypes := #[24, 3] }, type := 29, pos := "law.go:21", after := #[{ on := 32, ground := Go.Ground.data }, { on := 28, ground := Go.Ground.chain }, { on := 28, ground := Go.Ground.guard }], guard := some (28, true) }) rfl (fun K hK => ?_) AllReadyH.nil
  go_simp
  with_reducible refine (q4.out _).mono ?_
  rintro e w7 ⟨rfl, b7⟩
  go_simp
  refine hK.out _ _ (hHeld.trans (b7.mono hHeld.size)) (fun hHeld => ?_)
  clear hK K
  try simp only [Act.put, List.setIfInBounds_toArray, List.set_cons_zero, List.set_cons_succ]
  refine wpAnyH_take (i := 34) (oi := { dst := some 51, op := Go.Op.binOp Go.BinOp.eql 29 (Go.Operand.tmp 48) (Go.Operand.tmp 50) 29, type := 4, pos := "law.go:21", after := #[{ on := 31, ground := Go.Ground.data }, { on := 33, ground := Go.Ground.data }, { on := 28, ground := Go.Ground.guard }], guard := some (28, true) }) (v := ?v33) rfl (by kernel_rfl) (by kernel_rfl) (by kernel_rfl) (fun _ _ _ h => h) (Or.inl ⟨by kernel_rfl, ?h33⟩) (by assumption) ?r33
  case h33 => (intro w hSw; (try dsimp only at hSw); go_simp; try with_reducible rfl)
  try simp only [Act.put, List.setIfInBounds_toArray, List.set_cons_zero, List.set_cons_succ]
  refine wpAnyH_take (i := 35) (oi := { dst := some 52, op := Go.Op.pick (Go.Operand.tmp 45) (Go.Operand.tmp 51) (Go.Operand.const (Go.Value.bool false)), type := 4, pos := "law.go:21", after := #[{ on := 28, ground := Go.Ground.data }, { on := 34, ground := Go.Ground.data }], guard := none }) (v := ?v34) rfl (by kernel_rfl) (by kernel_rfl) (by kernel_rfl) (fun _ _ _ h => h) (Or.inl ⟨by kernel_rfl, ?h34⟩) (by assumption) ?r34
  case h34 => (intro w hSw; (try dsimp only at hSw); go_simp; try with_reducible rfl)
  try simp only [Act.put, List.setIfInBounds_toArray, List.set_cons_zero, List.set_cons_succ]
  refine wpAnyH_take (i := 36) (oi := { dst := some 53, op := Go.Op.move (Go.Operand.tmp 52), type := 4, pos := "law.go:21", after := #[{ on := 35, ground := Go.Ground.data }, { on := 33, ground := Go.Ground.chain }], guard := none }) (v := ?v35) rfl (by kernel_rfl) (by kernel_rfl) (by kernel_rfl) (fun _ _ _ h => h) (Or.inl ⟨by kernel_rfl, ?h35⟩) (by assumption) ?r35
  case h35 => (intro w hSw; (try dsimp only at hSw); go_simp; try with_reducible rfl)
  try simp only [Act.put, List.setIfInBounds_toArray, List.set_cons_zero, List.set_cons_succ]
  refine wpAnyH_take (i := 37) (oi := { dst := some 54, op := Go.Op.move (Go.Operand.tmp 4), type := 36, pos := "law.go:21", after := #[{ on := 36, ground := Go.Ground.guard }], guard := some (36, true) }) (v := ?v36) rfl (by kernel_rfl) (by kernel_rfl) (by kernel_rfl) (fun _ _ _ h => h) (Or.inl ⟨by kernel_rfl, ?h36⟩) (by assumption) ?r36
  case h36 => (intro w hSw; (try dsimp only at hSw); go_simp; try with_reducible rfl)
  try simp only [Act.put, List.setIfInBounds_toArray, List.set_cons_zero, List.set_cons_succ]
  refine wpAnyH_take (i := 38) (oi := { dst := some 55, op := Go.Op.indexAddr 36 (Go.Operand.tmp 54) (Go.Operand.const (Go.Value.int Go.IntKind.i64 0)), type := 0, pos := "law.go:21", after := #[{ on := 37, ground := Go.Ground.data }, { on := 36, ground := Go.Ground.guard }], guard := some (36, true) }) (v := ?v37) rfl (by kernel_rfl) (by kernel_rfl) (by kernel_rfl) (fun _ _ _ h => h) (Or.inl ⟨by kernel_rfl, ?h37⟩) (by assumption) ?r37
  case h37 => (intro w hSw; (try dsimp only at hSw); go_simp; try with_reducible rfl)
  try simp only [Act.put, List.setIfInBounds_toArray, List.set_cons_zero, List.set_cons_succ]
  refine wpAnyH_take (i := 39) (oi := { dst := some 56, op := Go.Op.load 29 (Go.Operand.tmp 55), type := 29, pos := "law.go:21", after := #[{ on := 38, ground := Go.Ground.data }, { on := 36, ground := Go.Ground.guard }], guard := some (36, true) }) (v := ?v38) rfl (by kernel_rfl) (by kernel_rfl) (by kernel_rfl) (fun _ _ _ h => h) (Or.inl ⟨by kernel_rfl, ?h38⟩) (by assumption) ?r38
  case h38 => (intro w hSw; (try dsimp only at hSw); go_simp; try with_reducible rfl)
  try simp only [Act.put, List.setIfInBounds_toArray, List.set_cons_zero, List.set_cons_succ]
  refine wpAnyH_take (i := 40) (oi := { dst := some 57, op := Go.Op.move (Go.Operand.tmp 4), type := 36, pos := "law.go:21", after := #[{ on := 36, ground := Go.Ground.guard }], guard := some (36, true) }) (v := ?v39) rfl (by kernel_rfl) (by kernel_rfl) (by kernel_rfl) (fun _ _ _ h => h) (Or.inl ⟨by kernel_rfl, ?h39⟩) (by assumption) ?r39
  case h39 => (intro w hSw; (try dsimp only at hSw); go_simp; try with_reducible rfl)
  try simp only [Act.put, List.setIfInBounds_toArray, List.set_cons_zero, List.set_cons_succ]
  refine wpAnyH_take (i := 41) (oi := { dst := some 58, op := Go.Op.indexAddr 36 (Go.Operand.tmp 57) (Go.Operand.const (Go.Value.int Go.IntKind.i64 1)), type := 0, pos := "law.go:21", after := #[{ on := 40, ground := Go.Ground.data }, { on := 36, ground := Go.Ground.guard }], guard := some (36, true) }) (v := ?v40) rfl (by kernel_rfl) (by kernel_rfl) (by kernel_rfl) (fun _ _ _ h => h) (Or.inl ⟨by kernel_rfl, ?h40⟩) (by assumption) ?r40
  case h40 => (intro w hSw; (try dsimp only at hSw); go_simp; try with_reducible rfl)
  try simp only [Act.put, List.setIfInBounds_toArray, List.set_cons_zero, List.set_cons_succ]
  refine wpAnyH_take (i := 42) (oi := { dst := some 59, op := Go.Op.load 29 (Go.Operand.tmp 58), type := 29, pos := "law.go:21", after := #[{ on := 41, ground := Go.Ground.data }, { on := 36, ground := Go.Ground.guard }], guard := some (36, true) }) (v := ?v41) rfl (by kernel_rfl) (by kernel_rfl) (by kernel_rfl) (fun _ _ _ h => h) (Or.inl ⟨by kernel_rfl, ?h41⟩) (by assumption) ?r41
  case h41 => (intro w hSw; (try dsimp only at hSw); go_simp; try with_reducible rfl)
  try simp only [Act.put, List.setIfInBounds_toArray, List.set_cons_zero, List.set_cons_succ]
  refine wpAnyH_take (i := 43) (oi := { dst := some 60, op := Go.Op.binOp Go.BinOp.neq 29 (Go.Operand.tmp 56) (Go.Operand.tmp 59) 29, type := 4, pos := "law.go:21", after := #[{ on := 39, ground := Go.Ground.data }, { on := 42, ground := Go.Ground.data }, { on := 36, ground := Go.Ground.guard }], guard := some (36, true) }) (v := ?v42) rfl (by kernel_rfl) (by kernel_rfl) (by kernel_rfl) (fun _ _ _ h => h) (Or.inl ⟨by kernel_rfl, ?h42⟩) (by assumption) ?r42
  case h42 => (intro w hSw; (try dsimp only at hSw); go_simp; try with_reducible rfl)
  try simp only [Act.put, List.setIfInBounds_toArray, List.set_cons_zero, List.set_cons_succ]
  refine wpAnyH_take (i := 44) (oi := { dst := some 61, op := Go.Op.pick (Go.Operand.tmp 53) (Go.Operand.tmp 60) (Go.Operand.const (Go.Value.bool false)), type := 4, pos := "law.go:21", after := #[{ on := 36, ground := Go.Ground.data }, { on := 43, ground := Go.Ground.data }], guard := none }) (v := ?v43) rfl (by kernel_rfl) (by kernel_rfl) (by kernel_rfl) (fun _ _ _ h => h) (Or.inl ⟨by kernel_rfl, ?h43⟩) (by assumption) ?r43
  case h43 => (intro w hSw; (try dsimp only at hSw); go_simp; try with_reducible rfl)
  try simp only [Act.put, List.setIfInBounds_toArray, List.set_cons_zero, List.set_cons_succ]
  refine wpAnyH_take (i := 45) (oi := { dst := some 0, op := Go.Op.assign (Go.Operand.tmp 61), type := 4, pos := "law.go:21", after := #[{ on := 44, ground := Go.Ground.data }, { on := 36, ground := Go.Ground.chain }, { on := 0, ground := Go.Ground.phase }, { on := 1, ground := Go.Ground.phase }, { on := 2, ground := Go.Ground.phase }, { on := 3, ground := Go.Ground.phase }, { on := 4, ground := Go.Ground.phase }, { on := 5, ground := Go.Ground.phase }, { on := 6, ground := Go.Ground.phase }, { on := 7, ground := Go.Ground.phase }, { on := 8, ground := Go.Ground.phase }, { on := 9, ground := Go.Ground.phase }, { on := 10, ground := Go.Ground.phase }, { on := 11, ground := Go.Ground.phase }, { on := 12, ground := Go.Ground.phase }, { on := 13, ground := Go.Ground.phase }, { on := 14, ground := Go.Ground.phase }, { on := 15, ground := Go.Ground.phase }, { on := 16, ground := Go.Ground.phase }, { on := 17, ground := Go.Ground.phase }, { on := 18, ground := Go.Ground.phase }, { on := 19, ground := Go.Ground.phase }, { on := 20, ground := Go.Ground.phase }, { on := 21, ground := Go.Ground.phase }, { on := 22, ground := Go.Ground.phase }, { on := 23, ground := Go.Ground.phase }, { on := 24, ground := Go.Ground.phase }, { on := 25, ground := Go.Ground.phase }, { on := 26, ground := Go.Ground.phase }, { on := 27, ground := Go.Ground.phase }, { on := 28, ground := Go.Ground.phase }, { on := 29, ground := Go.Ground.phase }, { on := 30, ground := Go.Ground.phase }, { on := 31, ground := Go.Ground.phase }, { on := 32, ground := Go.Ground.phase }, { on := 33, ground := Go.Ground.phase }, { on := 34, ground := Go.Ground.phase }, { on := 35, ground := Go.Ground.phase }, { on := 36, ground := Go.Ground.phase }, { on := 37, ground := Go.Ground.phase }, { on := 38, ground := Go.Ground.phase }, { on := 39, ground := Go.Ground.phase }, { on := 40, ground := Go.Ground.phase }, { on := 41, ground := Go.Ground.phase }, { on := 42, ground := Go.Ground.phase }, { on := 43, ground := Go.Ground.phase }, { on := 44, ground := Go.Ground.phase }], guard := none }) (v := ?v44) rfl (by kernel_rfl) (by kernel_rfl) (by kernel_rfl) (fun _ _ _ h => h) (Or.inl ⟨by kernel_rfl, ?h44⟩) (by assumption) ?r44
  case h44 => (intro w hSw; (try dsimp only at hSw); go_simp; try with_reducible rfl)
  try simp only [Act.put, List.setIfInBounds_toArray, List.set_cons_zero, List.set_cons_succ]
  refine wpAnyH_done (by kernel_rfl) ?_ _
  have hX := Lib.hid hHeld
  clear hHeld
  go_wp2
  go_ret
  exact ⟨rfl, B1.out.trans (hX.out.mono B1.out.size)⟩
end Go.Proofs.Ytbpaoiajfjkmfaa
namespace Go.Proofs.Ytbpaoiajfjkmfaa
open Go.RowKit
set_option linter.unusedVariables false
theorem SeesC.cut {B : Nat} {w : World} {a : Option Addr} {cs : List Value} (h : SeesC B w a cs) (size lo hi cap : Nat) (hl : hi * size ≤ cs.length) (hlo : lo ≤ hi) (hc : hi ≤ cap) (hz : 0 < size) :
    ∃ a', sliced a lo hi cap size = .slice a' (hi - lo) (cap - lo) ∧ SeesC B w a' ((cs.take (hi * size)).drop (lo * size)) ∧ (a = none → a' = none) := by
  unfold sliced
  refine ⟨_, rfl, ?_, by rintro rfl; split <;> rfl⟩
  by_cases h0 : lo = hi
  · left; subst h0; exact List.drop_of_length_le (by simp; omega)
  have hmul : lo * size < hi * size := Nat.mul_lt_mul_of_pos_right (by omega) hz
  rcases h with rfl | ⟨b, off, rfl, hB, hcell⟩
  · simp at hl; omega
  · right
    have h1 : ¬ (cap = lo) := by omega
    have key : ∀ i u, ((cs.take (hi * size)).drop (lo * size))[i]? = some u → cs[lo * size + i]? = some u := by
      intro i u hu
      rw [List.getElem?_drop] at hu
      rw [List.getElem?_take] at hu
      split at hu
      · exact hu
      · cases hu
    refine ⟨b, off + lo * size, ?_, hB, fun i u hi' => ?_⟩
    · simp only [h1, if_false]
      simp only [Option.map_some, add_at]
    · rw [Nat.add_assoc]
      exact hcell _ _ (key i u hi')
theorem ccut_l {P : Program} {t : TypeId} {size : Nat} (ht : P.underlying t = some (.slice (P.elem t))) (hs : ∀ W, (sizeOf (P.elem t)).run P W = .ok size W) (a : Option Addr) (n cap lo : Nat) {a' : Option Addr} {m c : Nat} (h : sliced a lo n cap size = .slice a' m c) (hlo : lo ≤ n) (W : World) :
    (Instr.slice t (.slice a n cap) (some (.int .i64 (lo : Int))) none none).run P W = .ok (.slice a' m c) W := by
  rw [← h, run_slice_l (P := P) (w := W) t a n cap ht .i64 lo (by omega) (by omega), hs]
  simp [Result.andThen]
theorem ccut_hm {P : Program} {t : TypeId} {size : Nat} (ht : P.underlying t = some (.slice (P.elem t))) (hs : ∀ W, (sizeOf (P.elem t)).run P W = .ok size W) (a : Option Addr) (n cap hi mx : Nat) {a' : Option Addr} {m c : Nat} (h : sliced a 0 hi mx size = .slice a' m c) (hhi : hi ≤ mx) (hm : mx ≤ cap) (W : World) :
    (Instr.slice t (.slice a n cap) none (some (.int .i64 (hi : Int))) (some (.int .i64 (mx : Int)))).run P W = .ok (.slice a' m c) W := by
  rw [← h, run_slice_hm (P := P) (w := W) t a n cap ht .i64 .i64 hi mx (by omega) (by omega) (by omega), hs]
  simp [Result.andThen]
theorem wp_append_full {P : Program} (w : World) {o : Oper} {a : Act} {K : Act → World → Prop} {Q : Exit → Act → World → Prop}
    (s x : Operand) (t : TypeId) (hop : o.op = Op.call { callee := Callee.builtin Builtin.append, args := #[s, x], argTypes := #[t, t] })
    (e : TypeId) (i : TypeInfo) (z : Value) (size bytes : Nat) (h1 : P.underlying t = some (.slice e)) (h2 : P.info? e = some i) (h3 : i.zero = some z) (h4 : i.size = size) (h5 : i.bytes = bytes) (h6 : z.cells.size = size) (h7 : 0 < size)
    (ao : Option Addr) (n cap : Nat) (olds : List Value) (hs : a.eval s = .slice ao n cap) (hnone : ao = none → n = 0 ∧ cap = 0) (hlo : olds.length = n * size) (B : Nat) (holds : SeesC B w ao olds)
    (ad : Addr) (m c : Nat) (news : List Value) (hx : a.eval x = .slice (some ad) m c) (hn : news.length = m * size) (hc : SeesC B w (some ad) news) (h1c : ∀ u ∈ news, u.oneCell' = true)
    (hfull : cap < n + m) (b1 : n + m ≤ maxLen) (b2 : (n + m) * bytes ≤ 140737488355328)
    (hK : ∀ v' w', w'.ownsRow w.heap.size e size v' (n + m) (olds ++ news) → w.grownBy w' none → K (a.put o.dst v') w') : o.wp P a w K Q := by
  have look : ∀ {b : Addr} {cs : List Value}, SeesC B w (some b) cs → ∀ j u, cs[j]? = some u → w.cell? (b.add j) = some u := by
    intro b cs h j u hu
    rcases h with rfl | ⟨g, off, hb, _, hcell⟩
    · simp at hu
    · injection hb with hb; subst hb; rw [add_at]; exact hcell j u hu
  cases ao with
  | some b =>
    obtain ⟨v', w', hrun, r1, r2⟩ := run_append_arg_grows (P := P) w t o.type e i z size bytes h1 h2 h3 h4 h5 h6 h7 b n cap olds hlo (look holds) ad m c news hn (look hc) hfull b1 b2
    unfold Oper.wp
    simp [execOp, hop, resolve, invoke, builtin, hs, hx, hrun, Result.andThen]
    exact hK v' w' r1 r2
  | none =>
    obtain ⟨rfl, rfl⟩ := hnone rfl
    obtain rfl : olds = [] := List.eq_nil_of_length_eq_zero (by simpa using hlo)
    obtain ⟨v', w', hrun, r1, r2, _⟩ := run_append_own (P := P) w w.heap.size t o.type e i z size bytes h1 h2 h3 h4 h5 h6 h7 (.slice none 0 0) 0 [] (World.ownsRow_nil w _ e size) ad m c news hn (look hc) h1c b1 b2 (Nat.le_refl _)
    unfold Oper.wp
    simp [execOp, hop, resolve, invoke, builtin, hs, hx, hrun, Result.andThen]
    exact hK v' w' r1 r2
theorem wp_append_cellsB {P : Program} (w : World) {o : Oper} {a : Act} {K : Act → World → Prop} {Q : Exit → Act → World → Prop}
    (s x : Operand) (t : TypeId) (hop : o.op = Op.call { callee := Callee.builtin Builtin.append, args := #[s, x], argTypes := #[t, t] })
    (base : Nat) (e : TypeId) (i : TypeInfo) (z : Value) (size bytes : Nat) (ht : P.underlying t = some (.slice e)) (hi : P.info? e = some i) (hz : i.zero = some z)
    (hsize : i.size = size) (hby : i.bytes = bytes) (hzs : z.cells.size = size) (hsz : 0 < size)
    (v : Value) (n : Nat) (xs : List Value) (hown : w.ownsRow base e size v n xs) (hb : base ≤ w.heap.size) (B : Nat) (A : Option Addr) (m c : Nat) (news : List Value) (hl : news.length = m * size) (hs : SeesC B w A news) (h1 : ∀ u ∈ news, u.oneCell' = true)
    (hsv : a.eval s = v) (hx : a.eval x = .slice A m c) (hn : n + m ≤ maxLen) (hby2 : (n + m) * bytes ≤ 140737488355328)
    (hK : ∀ v' w', w'.ownsRow base e size v' (n + m) (xs ++ news) → w.grownBy w' v.ownBlock → K (a.put o.dst v') w') : o.wp P a w K Q := by
  obtain ⟨v', w', hrun, g1, g2, g3⟩ := run_append_cellsB (P := P) w base t o.type e i z size bytes ht hi hz hsize hby hzs hsz v n xs hown B A m c news hl hs h1 hn hby2 hb
  unfold Oper.wp
  simp [execOp, hop, resolve, invoke, builtin, hsv, hx, hrun, Result.andThen]
  exact hK v' w' g1 g2
end Go.Proofs.Ytbpaoiajfjkmfaa
namespace Go.Proofs.Ytbpaoiajfjkmfaa
open Go.RowKit
set_option linter.unusedVariables false
set_option linter.unusedSimpArgs false
theorem cmpZ_pos (a b : Int) : 0 < cmpZ a b ↔ b < a := by
  unfold cmpZ
  split
  · constructor <;> intro h <;> omega
  · split
    · constructor <;> intro h <;> omega
    · constructor <;> intro h <;> omega
theorem size_u64 (W : World) : (sizeOf (Try.prog.elem 36)).run Try.prog W = .ok 1 W := by kernel_rfl
theorem under_u64 : Try.prog.underlying 36 = some (.slice (Try.prog.elem 36)) := by kernel_rfl
theorem sortC_len {α : Type} (c : α → α → Int) (l : List α) : (sortC c l).length = l.length := (sortC_perm c l).length_eq
theorem sortZ_step (l : List Int) {i : Nat} (hi : i < l.length) {k : Nat} (hk : k ≤ (sortC cmpZ (l.take i)).length) (h1 : ∀ j, k ≤ j → j < (sortC cmpZ (l.take i)).length → l.getD i 0 < (sortC cmpZ (l.take i)).getD j 0) (h2 : k = 0 ∨ ¬ l.getD i 0 < (sortC cmpZ (l.take i)).getD (k - 1) 0) :
    sortC cmpZ (l.take (i + 1)) = (sortC cmpZ (l.take i)).take k ++ l.getD i 0 :: (sortC cmpZ (l.take i)).drop k := by
  have e : l.take (i + 1) = l.take i ++ [l.getD i 0] := by rw [List.take_add_one]; simp [List.getD, hi]
  rw [e, sortC_snoc]
  exact insF_place cmpZ (l.getD i 0) 0 _ k hk (fun j a b => (cmpZ_pos _ _).2 (h1 j a b)) (h2.imp id (fun h q => h ((cmpZ_pos _ _).1 q)))
set_option maxRecDepth 100000 in
set_option maxHeartbeats 8000000 in
theorem rsorted_any (a : Option Addr) (n c : Nat) (l : List Int) (hn : n ≤ 100000) (w : World) (h : SU .u64 w a n c l) : Calls Try.prog 17 #[.slice a n c] w (Made 29 .u64 w (sortC cmpZ l)) := by
  obtain ⟨i0, hi, hz0, hz1, hz2⟩ := info_parts infoU64'
  have hT := Lib.hid h
  have hnl := Lib.hid h.len
  have hni : (n : Int) ≤ 100000 := by omega
  clear h
  go_enter Try.func17, Try.ntmps17
  go_wp2
  go_loopw [3, 4] (fun v x wr => ∃ k : Nat, k ≤ n ∧ x = .int .i64 k ∧ Hid (wr.ownsRow w.heap.size 29 1 v k (nums .u64 (sortC cmpZ (l.take k)))) ∧ Hid (Below w.heap.size w wr)) (fun _ x _ => n - (intOf x).toNat)
  case atStart => exact ⟨0, Nat.zero_le _, rfl, Lib.hid ⟨by simp [nums, sortC, backF], .inl ⟨rfl, rfl⟩⟩, Lib.hid (Below.refl _ _)⟩
  case round =>
    obtain ⟨i, hin, rfl, hown, hB⟩ := hrel
    generalize wr = g0 at *
    by_cases hlt : i < n
    · have hii : (i : Int) < (n : Int) := by omega
      have hil : i < l.length := by have := hnl.out; omega
      obtain ⟨b, off, rfl, hbw, hc⟩ := sees_num hT.out.sees hil
      have hs0 : ∀ W, Below w.heap.size w W → W.cell? ⟨b, off + i, none⟩ = some (.int .u64 (l.getD i 0)) := fun W hW => (hW.cell (p := ⟨b, off + i, none⟩) hbw).trans hc
      have hst := Lib.hid (fun (k : Nat) hk h1 h2 => sortZ_step l hil (k := k) hk h1 h2)
      have hol : (sortC cmpZ (l.take i)).length = i := by rw [sortC_len, List.length_take]; omega
      clear hc
      obtain ⟨O2, hO2e⟩ : ∃ O2, sortC cmpZ (l.take (i + 1)) = O2 := ⟨_, rfl⟩
      rw [hO2e] at hst
      have hOe := Lib.hid hO2e
      clear hO2e
      generalize sortC cmpZ (l.take i) = O at *
      generalize l.getD i 0 = s at *
      obtain ⟨ao, co, rfl, hlc, hcm, hse⟩ := seesC_own hown.out
      have hse' := Lib.hid hse
      have hoi : (i : Int) ≤ 100000 := by omega
      have hcell : Hid (∀ k, k < i → ∃ g off, ao = some ⟨g, off, none⟩ ∧ g0.cell? ⟨g, off + k, none⟩ = some (.int .u64 (O.getD k 0))) := Lib.hid (fun k hk => by
        rcases hse with h | ⟨g, off, h1, _, h2⟩
        · have h3 : (nums .u64 O).length = 0 := by rw [h]; rfl
          simp only [nums, List.length_map] at h3; omega
        · exact ⟨g, off, h1, h2 k _ (by simp [nums, List.getD, show k < O.length by omega])⟩)
      have hol' := Lib.hid hol
      clear hse hol
      go_wp2
      go_loopw [5] (fun x wk => ∃ k m : Nat, k ≤ i ∧ x = .int .i64 k ∧ Hid (∀ j, k ≤ j → j < O.length → s < O.getD j 0) ∧ wk = g0.drewN m) (fun x _ => (intOf x).toNat)
      case atStart => exact ⟨i, 0, Nat.le_refl _, rfl, Lib.hid (fun j h1 h2 => by have := hol'.out; omega), rfl⟩
      case round =>
        obtain ⟨k, m, hk, rfl, hal, rfl⟩ := hrel
        by_cases hk0 : k = 0
        · have hO3 := Lib.hid (hst.out k (by have := hol'.out; omega) hal.out (.inl hk0))
          have hkz : ¬ (0 : Int) < (k : Int) := by omega
          have hkzb : decide ((0 : Int) < (k : Int)) = false := decide_eq_false hkz
          have hkzn : ¬ 0 < k := by omega
          have hkznb : decide (0 < k) = false := decide_eq_false hkzn
          have hk0' := Lib.hid hk0
          clear hk0
          clear hst hal
          go_wp2
          refine wp_drawn_on (fun W => ∃ j, W = g0.drewN j) (by kernel_rfl) (⟨m + 1, rfl⟩) (fun hHeld => ?_)
          refine wpAnyH_take (i := 0) (oi := { dst := some 15, op := Go.Op.move (Go.Operand.tmp 5), type := 3, pos := "ref.go:49", after := #[], guard := none }) (v := ?v1) rfl (by kernel_rfl) (by kernel_rfl) (by kernel_rfl) (fun _ _ _ h => h) (Or.inl ⟨by kernel_rfl, ?h1⟩) (by assumption) ?r1
          case h1 => (intro w hSw; (try dsimp only at hSw); go_simp; try with_reducible rfl)
          try simp only [Act.put, List.setIfInBounds_toArray, List.set_cons_zero, List.set_cons_succ]
          refine wpAnyH_take (i := 1) (oi := { dst := some 16, op := Go.Op.binOp Go.BinOp.gtr 3 (Go.Operand.tmp 15) (Go.Operand.const (Go.Value.int Go.IntKind.i64 0)) 3, type := 4, pos := "ref.go:49", after := #[{ on := 0, ground := Go.Ground.data }], guard := none }) (v := ?v2) rfl (by kernel_rfl) (by kernel_rfl) (by kernel_rfl) (fun _ _ _ h => h) (Or.inl ⟨by kernel_rfl, ?h2⟩) (by assumption) ?r2
          case h2 => (intro w hSw; (try dsimp only at hSw); go_simp; try with_reducible rfl)
          try simp only [Act.put, List.setIfInBounds_toArray, List.set_cons_zero, List.set_cons_succ]
          refine wpAnyH_take (i := 2) (oi := { dst := some 17, op := Go.Op.move (Go.Operand.tmp 16), type := 4, pos := "ref.go:49", after := #[{ on := 1, ground := Go.Ground.data }], guard := none }) (v := ?v3) rfl (by kernel_rfl) (by kernel_rfl) (by kernel_rfl) (fun _ _ _ h => h) (Or.inl ⟨by kernel_rfl, ?h3⟩) (by assumption) ?r3
          case h3 => (intro w hSw; (try dsimp only at hSw); go_simp; try with_reducible rfl)
          try simp only [Act.put, List.setIfInBounds_toArray, List.set_cons_zero, List.set_cons_succ]
          refine wpAnyH_take (i := 3) (oi := { dst := some 18, op := Go.Op.move (Go.Operand.tmp 3), type := 36, pos := "ref.go:49", after := #[{ on := 2, ground := Go.Ground.guard }], guard := some (2, true) }) (v := undef) rfl (by kernel_rfl) (by kernel_rfl) (by kernel_rfl) (fun _ _ _ h => h) (Or.inr ⟨by kernel_rfl, rfl⟩) (by assumption) ?_
          try simp only [Act.put, List.setIfInBounds_toArray, List.set_cons_zero, List.set_cons_succ]
          refine wpAnyH_take (i := 4) (oi := { dst := some 19, op := Go.Op.move (Go.Operand.tmp 5), type := 3, pos := "ref.go:49", after := #[{ on := 2, ground := Go.Ground.guard }], guard := some (2, true) }) (v := undef) rfl (by kernel_rfl) (by kernel_rfl) (by kernel_rfl) (fun _ _ _ h => h) (Or.inr ⟨by kernel_rfl, rfl⟩) (by assumption) ?_
          try simp only [Act.put, List.setIfInBounds_toArray, List.set_cons_zero, List.set_cons_succ]
          refine wpAnyH_take (i := 5) (oi := { dst := some 20, op := Go.Op.binOp Go.BinOp.sub 3 (Go.Operand.tmp 19) (Go.Operand.const (Go.Value.int Go.IntKind.i64 1)) 3, type := 3, pos := "ref.go:49", after := #[{ on := 4, ground := Go.Ground.data }, { on := 2, ground := Go.Ground.guard }], guard := some (2, true) }) (v := undef) rfl (by kernel_rfl) (by kernel_rfl) (by kernel_rfl) (fun _ _ _ h => h) (Or.inr ⟨by kernel_rfl, rfl⟩) (by assumption) ?_
          try simp only [Act.put, List.setIfInBounds_toArray, List.set_cons_zero, List.set_cons_succ]
          refine wpAnyH_take (i := 6) (oi := { dst := some 21, op := Go.Op.indexAddr 36 (Go.Operand.tmp 18) (Go.Operand.tmp 20), type := 0, pos := "ref.go:49", after := #[{ on := 3, ground := Go.Ground.data }, { on := 5, ground := Go.Ground.data }, { on := 2, ground := Go.Ground.guard }], guard := some (2, true) }) (v := undef) rfl (by kernel_rfl) (by kernel_rfl) (by kernel_rfl) (fun _ _ _ h => h) (Or.inr ⟨by kernel_rfl, rfl⟩) (by assumption) ?_
          try simp only [Act.put, List.setIfInBounds_toArray, List.set_cons_zero, List.set_cons_succ]
          refine wpAnyH_take (i := 7) (oi := { dst := some 22, op := Go.Op.load 29 (Go.Operand.tmp 21), type := 29, pos := "ref.go:49", after := #[{ on := 6, ground := Go.Ground.data }, { on := 2, ground := Go.Ground.guard }], guard := some (2, true) }) (v := undef) rfl (by kernel_rfl) (by kernel_rfl) (by kernel_rfl) (fun _ _ _ h => h) (Or.inr ⟨by kernel_rfl, rfl⟩) (by assumption) ?_
          try simp only [Act.put, List.setIfInBounds_toArray, List.set_cons_zero, List.set_cons_succ]
          refine wpAnyH_take (i := 8) (oi := { dst := some 23, op := Go.Op.move (Go.Operand.tmp 0), type := 36, pos := "ref.go:49", after := #[{ on := 2, ground := Go.Ground.guard }], guard := some (2, true) }) (v := undef) rfl (by kernel_rfl) (by kernel_rfl) (by kernel_rfl) (fun _ _ _ h => h) (Or.inr ⟨by kernel_rfl, rfl⟩) (by assumption) ?_
          try simp only [Act.put, List.setIfInBounds_toArray, List.set_cons_zero, List.set_cons_succ]
          refine wpAnyH_take (i := 9) (oi := { dst := some 24, op := Go.Op.move (Go.Operand.tmp 4), type := 3, pos := "ref.go:49", after := #[{ on := 2, ground := Go.Ground.guard }], guard := some (2, true) }) (v := undef) rfl (by kernel_rfl) (by kernel_rfl) (by kernel_rfl) (fun _ _ _ h => h) (Or.inr ⟨by kernel_rfl, rfl⟩) (by assumption) ?_
          try simp only [Act.put, List.setIfInBounds_toArray, List.set_cons_zero, List.set_cons_succ]
          refine wpAnyH_take (i := 10) (oi := { dst := some 25, op := Go.Op.indexAddr 36 (Go.Operand.tmp 23) (Go.Operand.tmp 24), type := 0, pos := "ref.go:49", after := #[{ on := 8, ground := Go.Ground.data }, { on := 9, ground := Go.Ground.data }, { on := 2, ground := Go.Ground.guard }], guard := some (2, true) }) (v := undef) rfl (by kernel_rfl) (by kernel_rfl) (by kernel_rfl) (fun _ _ _ h => h) (Or.inr ⟨by kernel_rfl, rfl⟩) (by assumption) ?_
          try simp only [Act.put, List.setIfInBounds_toArray, List.set_cons_zero, List.set_cons_succ]
          refine wpAnyH_take (i := 11) (oi := { dst := some 26, op := Go.Op.load 29 (Go.Operand.tmp 25), type := 29, pos := "ref.go:49", after := #[{ on := 10, ground := Go.Ground.data }, { on := 2, ground := Go.Ground.guard }], guard := some (2, true) }) (v := undef) rfl (by kernel_rfl) (by kernel_rfl) (by kernel_rfl) (fun _ _ _ h => h) (Or.inr ⟨by kernel_rfl, rfl⟩) (by assumption) ?_
          try simp only [Act.put, List.setIfInBounds_toArray, List.set_cons_zero, List.set_cons_succ]
          refine wpAnyH_take (i := 12) (oi := { dst := some 27, op := Go.Op.binOp Go.BinOp.gtr 29 (Go.Operand.tmp 22) (Go.Operand.tmp 26) 29, type := 4, pos := "ref.go:49", after := #[{ on := 7, ground := Go.Ground.data }, { on := 11, ground := Go.Ground.data }, { on := 2, ground := Go.Ground.guard }], guard := some (2, true) }) (v := undef) rfl (by kernel_rfl) (by kernel_rfl) (by kernel_rfl) (fun _ _ _ h => h) (Or.inr ⟨by kernel_rfl, rfl⟩) (by assumption) ?_
          try simp only [Act.put, List.setIfInBounds_toArray, List.set_cons_zero, List.set_cons_succ]
          refine wpAnyH_take (i := 13) (oi := { dst := some 28, op := Go.Op.pick (Go.Operand.tmp 17) (Go.Operand.tmp 27) (Go.Operand.const (Go.Value.bool false)), type := 4, pos := "ref.go:49", after := #[{ on := 2, ground := Go.Ground.data }, { on := 12, ground := Go.Ground.data }], guard := none }) (v := ?v14) rfl (by kernel_rfl) (by kernel_rfl) (by kernel_rfl) (fun _ _ _ h => h) (Or.inl ⟨by kernel_rfl, ?h14⟩) (by assumption) ?r14
          case h14 => (intro w hSw; (try dsimp only at hSw); go_simp; try with_reducible rfl)
          try simp only [Act.put, List.setIfInBounds_toArray, List.set_cons_zero, List.set_cons_succ]
          refine wpAnyH_done (by kernel_rfl) ?_ _
          obtain ⟨V, hV⟩ : ∃ V, V = g0.drewN (m + 1) := ⟨_, rfl⟩
          have hVz : V.heap.size = g0.heap.size := by rw [hV]; rfl
          have hol := hol'.out
          obtain ⟨ad, hsl1, hsd, hnd⟩ := hse'.out.cut 1 k i co (by simp [nums, hol]) (by omega) hlc (by omega)
          obtain ⟨ae, hsl2, hsf, hnf⟩ := hse'.out.cut 1 0 k k (by simp [nums, hol] <;> omega) (by omega) (Nat.le_refl _) (by omega)
          have g1 := ccut_l under_u64 size_u64 _ i co k hsl1 (by omega)
          have g2 := ccut_hm under_u64 size_u64 _ i co k k hsl2 (Nat.le_refl _) (by omega)
          have nl : (nums .u64 O).length = i := by simp [nums, hol]
          have nd : ∀ q, (nums .u64 O).drop q = nums .u64 (O.drop q) := fun q => by simp [nums, List.map_drop]
          have nt : ∀ q, (nums .u64 O).take q = nums .u64 (O.take q) := fun q => by simp [nums, List.map_take]
          simp only [Nat.mul_one, List.take_of_length_le (Nat.le_of_eq nl), nd, nt, List.drop_zero, Nat.sub_zero, Nat.zero_mul] at hsd hsf g1 g2
          have hne : ae = none → k = 0 ∧ k = 0 := by
            intro h
            by_cases h0 : k = 0
            · exact ⟨h0, h0⟩
            · rcases hsf with h1 | ⟨g, off, h1, _⟩
              · have h3 : (nums .u64 (O.take k)).length = 0 := by rw [h1]; rfl
                simp only [nums, List.length_map, List.length_take] at h3; omega
              · rw [h] at h1; cases h1
          have hne' := Lib.hid hne
          have hk5 : k ≤ 100000 := by omega
          have hko5 : i - k ≤ 100000 := by omega
          have hBV : Below w.heap.size w V := by rw [hV]; exact Below.drewN hB.out (m + 1)
          have hsfV : SeesC V.heap.size V ae (nums .u64 (O.take k)) := by rw [hV]; exact hsf
          obtain ⟨W2, hW2⟩ : ∃ W2, W2 = V.alloc (.cells #[] 29) := ⟨_, rfl⟩
          have hBx : Below V.heap.size V W2 := by rw [hW2]; exact (Below.refl _ _).alloc (Nat.le_refl _) _
          have hBx' := Lib.hid hBx
          have hsd2 : Hid (SeesC W2.heap.size W2 ad (nums .u64 (O.drop k))) := Lib.hid (by
            have : SeesC V.heap.size V ad (nums .u64 (O.drop k)) := by rw [hV]; exact hsd
            exact (this.below hBx).mono hBx.size)
          have hro : Hid (W2.ownsRow V.heap.size 29 1 (.slice (some ⟨g0.heap.size, 0, none⟩) 0 0) 0 []) := Lib.hid (by rw [hW2, ← hVz]; exact own_cells V 29 1 0 #[] (by simp) (by simp [maxLen]))
          have hdl : Hid ((nums .u64 (O.drop k)).length = i - k) := Lib.hid (by simp [nums, hol])
          have htl : Hid ((nums .u64 (O.take k)).length = k) := Lib.hid (by simp [nums, hol] <;> omega)
          have hW2' := Lib.hid hW2
          have hV' := Lib.hid hV
          have hBV' := Lib.hid hBV
          have hsfV' := Lib.hid hsfV
          have hone : Hid (∀ q : List Int, ∀ u ∈ nums .u64 q, u.oneCell' = true) := Lib.hid (fun q u hu => by obtain ⟨x, _, rfl⟩ := List.mem_map.1 hu; rfl)
          have hfin5 : Hid (nums .u64 (O.take k ++ s :: O.drop k) = nums .u64 (O.take k) ++ [.int .u64 s] ++ nums .u64 (O.drop k)) := Lib.hid (by simp [nums])
          clear hsl1 hsl2 hsd hsf hnd hnf hse' hcell hown hBx hW2 hV hBV hsfV hne hVz hol nl nd nt
          go_wp2_with (at_builtin; go_loud (rw [← hV'.out, ← hW2'.out]; refine wpList_append_cellsB _ rfl (.tmp 31) (.tmp 34) 36 rfl V 29 i0 (.int .u64 0) 1 8 Try.underlying36 hi hz0 hz1 hz2 rfl (by decide) _ 0 [] hro.out hBx'.out W2.heap.size ad (i - k) (co - k) (nums .u64 (O.drop k)) (by rw [hdl.out]; omega) hsd2.out (hone.out _) rfl rfl (by simp [maxLen]; omega) (by omega) ?_); intro v3 w3 own3 b3; simp only [List.nil_append, Nat.zero_add] at own3)
          obtain ⟨a3, c3, rfl, -, -, s3⟩ := seesC_own own3
          have hsz : SeesC w3.drew.heap.size w3.drew a3 (nums .u64 (O.drop k)) := s3
          have hall : Below V.heap.size V w3.drew := b3.drew
          have hs0' := Lib.hid hs0
          have hld : ∀ W, Below V.heap.size V W → W.cell? ⟨b, off + i, none⟩ = some (.int .u64 s) := fun W hW => hs0 W (hBV'.out.trans (hW.mono hBV'.out.size))
          clear own3 s3 hs0 hro hsd2
          refine wp_drawn_on (fun W => Below V.heap.size V W) (by kernel_rfl) (b3.drew) (fun hHeld => ?_)
          generalize w3.drew = W4 at hsz hall hHeld ⊢
          refine wpAnyH_take (i := 0) (oi := { dst := some 36, op := Go.Op.move (Go.Operand.tmp 3), type := 36, pos := "ref.go:53", after := #[], guard := none }) (v := ?v15) rfl (by kernel_rfl) (by kernel_rfl) (by kernel_rfl) (fun _ _ _ h => h) (Or.inl ⟨by kernel_rfl, ?h15⟩) (by assumption) ?r15
          case h15 => (intro w hSw; (try dsimp only at hSw); go_simp; try with_reducible rfl)
          try simp only [Act.put, List.setIfInBounds_toArray, List.set_cons_zero, List.set_cons_succ]
          refine wpAnyH_take (i := 1) (oi := { dst := some 37, op := Go.Op.move (Go.Operand.tmp 5), type := 3, pos := "ref.go:53", after := #[], guard := none }) (v := ?v16) rfl (by kernel_rfl) (by kernel_rfl) (by kernel_rfl) (fun _ _ _ h => h) (Or.inl ⟨by kernel_rfl, ?h16⟩) (by assumption) ?r16
          case h16 => (intro w hSw; (try dsimp only at hSw); go_simp; try with_reducible rfl)
          try simp only [Act.put, List.setIfInBounds_toArray, List.set_cons_zero, List.set_cons_succ]
          refine wpAnyH_take (i := 2) (oi := { dst := some 38, op := Go.Op.move (Go.Operand.tmp 5), type := 3, pos := "ref.go:53", after := #[], guard := none }) (v := ?v17) rfl (by kernel_rfl) (by kernel_rfl) (by kernel_rfl) (fun _ _ _ h => h) (Or.inl ⟨by kernel_rfl, ?h17⟩) (by assumption) ?r17
          case h17 => (intro w hSw; (try dsimp only at hSw); go_simp; try with_reducible rfl)
          try simp only [Act.put, List.setIfInBounds_toArray, List.set_cons_zero, List.set_cons_succ]
          refine wpAnyH_take (i := 3) (oi := { dst := some 39, op := Go.Op.slice 36 (Go.Operand.tmp 36) none (some (Go.Operand.tmp 37)) (some (Go.Operand.tmp 38)), type := 36, pos := "ref.go:53", after := #[{ on := 0, ground := Go.Ground.data }, { on := 1, ground := Go.Ground.data }, { on := 2, ground := Go.Ground.data }], guard := none }) (v := ?v18) rfl (by kernel_rfl) (by kernel_rfl) (by kernel_rfl) (fun _ _ _ h => h) (Or.inl ⟨by kernel_rfl, ?h18⟩) (by assumption) ?r18
          case h18 => (intro w hSw; (try dsimp only at hSw); go_simp; try with_reducible rfl)
          try simp only [Act.put, List.setIfInBounds_toArray, List.set_cons_zero, List.set_cons_succ]
          refine wpAnyH_take (i := 4) (oi := { dst := some 40, op := Go.Op.move (Go.Operand.tmp 0), type := 36, pos := "ref.go:53", after := #[], guard := none }) (v := ?v19) rfl (by kernel_rfl) (by kernel_rfl) (by kernel_rfl) (fun _ _ _ h => h) (Or.inl ⟨by kernel_rfl, ?h19⟩) (by assumption) ?r19
          case h19 => (intro w hSw; (try dsimp only at hSw); go_simp; try with_reducible rfl)
          try simp only [Act.put, List.setIfInBounds_toArray, List.set_cons_zero, List.set_cons_succ]
          refine wpAnyH_take (i := 5) (oi := { dst := some 41, op := Go.Op.move (Go.Operand.tmp 4), type := 3, pos := "ref.go:53", after := #[], guard := none }) (v := ?v20) rfl (by kernel_rfl) (by kernel_rfl) (by kernel_rfl) (fun _ _ _ h => h) (Or.inl ⟨by kernel_rfl, ?h20⟩) (by assumption) ?r20
          case h20 => (intro w hSw; (try dsimp only at hSw); go_simp; try with_reducible rfl)
          try simp only [Act.put, List.setIfInBounds_toArray, List.set_cons_zero, List.set_cons_succ]
          refine wpAnyH_take (i := 6) (oi := { dst := some 42, op := Go.Op.indexAddr 36 (Go.Operand.tmp 40) (Go.Operand.tmp 41), type := 0, pos := "ref.go:53", after := #[{ on := 4, ground := Go.Ground.data }, { on := 5, ground := Go.Ground.data }], guard := none }) (v := ?v21) rfl (by kernel_rfl) (by kernel_rfl) (by kernel_rfl) (fun _ _ _ h => h) (Or.inl ⟨by kernel_rfl, ?h21⟩) (by assumption) ?r21
          case h21 => (intro w hSw; (try dsimp only at hSw); go_simp; try with_reducible rfl)
          try simp only [Act.put, List.setIfInBounds_toArray, List.set_cons_zero, List.set_cons_succ]
          refine wpAnyH_take (i := 7) (oi := { dst := some 43, op := Go.Op.load 29 (Go.Operand.tmp 42), type := 29, pos := "ref.go:53", after := #[{ on := 6, ground := Go.Ground.data }], guard := none }) (v := ?v22) rfl (by kernel_rfl) (by kernel_rfl) (by kernel_rfl) (fun _ _ _ h => h) (Or.inl ⟨by kernel_rfl, ?h22⟩) (by assumption) ?r22
          case h22 => (intro w hSw; (try dsimp only at hSw); go_simp; try with_reducible rfl)
          try simp only [Act.put, List.setIfInBounds_toArray, List.set_cons_zero, List.set_cons_succ]
          refine wpAnyH_take (i := 10) (oi := { dst := some 46, op := Go.Op.move (Go.Operand.tmp 6), type := 36, pos := "ref.go:53", after := #[], guard := none }) (v := ?v23) rfl (by kernel_rfl) (by kernel_rfl) (by kernel_rfl) (fun _ _ _ h => h) (Or.inl ⟨by kernel_rfl, ?h23⟩) (by assumption) ?r23
          case h23 => (intro w hSw; (try dsimp only at hSw); go_simp; try with_reducible rfl)
          try simp only [Act.put, List.setIfInBounds_toArray, List.set_cons_zero, List.set_cons_succ]
          refine wpAnyH_ready (rs := [8]) (by kernel_rfl) (by simp) ?_
          refine AllReadyH.cons (o := { dst := some 44, op := Go.Op.buildSlice 36 1 #[(0, Go.Operand.tmp 43)], type := 36, pos := "ref.go:53", after := #[{ on := 7, ground := Go.Ground.data }], guard := none }) rfl (fun K hK => ?_) AllReadyH.nil
          go_simp
          have hx8 := hHeld.alloc hHeld.size (.cells #[.int .u64 s] 29)
          have s8 := seesC_lit (W4) 29 #[.int .u64 s]
          have s38 := (hsz.below (box_below (W4) #[.int .u64 s] 29)).mono (box_below (W4) #[.int .u64 s] 29).size
          go_simp
          generalize hw8 : (W4).alloc (.cells #[.int .u64 s] 29) = w8 at *
          generalize (W4).heap.size = g8 at *
          refine hK.out _ _ (hx8) (fun hHeld => ?_)
          clear hK K
          try simp only [Act.put, List.setIfInBounds_toArray, List.set_cons_zero, List.set_cons_succ]
          refine wpAnyH_ready (rs := [9]) (by kernel_rfl) (by simp) ?_
          refine AllReadyH.cons (o := { dst := some 45, op := Go.Op.call { callee := Go.Callee.builtin Go.Builtin.append, args := #[Go.Operand.tmp 39, Go.Operand.tmp 44], argTypes := #[36, 36] }, type := 36, pos := "ref.go:53", after := #[{ on := 3, ground := Go.Ground.data }, { on := 8, ground := Go.Ground.data }], guard := none }) rfl (fun K hK => ?_) AllReadyH.nil
          refine wp_append_full _ (.tmp 39) (.tmp 44) 36 rfl 29 i0 (.int .u64 0) 1 8 Try.underlying36 hi hz0 hz1 hz2 rfl (by decide) ae k k (nums .u64 (O.take k)) rfl hne'.out (by rw [htl.out]; omega) w8.heap.size ((hsfV'.out.below hHeld).mono hHeld.size) ⟨g8, 0, none⟩ 1 1 [.int .u64 s] rfl (by simp) s8 (by intro u hu; simp at hu; subst hu; rfl) (by omega) (by simp [maxLen]; omega) (by omega) ?_
          intro v9 w9 own9 grow9
          have bg9 : Below w8.heap.size w8 w9 := (Below.refl _ _).grown grow9 (Nat.le_refl _) (by intro k hk; cases hk)
          have hx9 := hHeld.trans (bg9.mono hHeld.size)
          have s39 := (s38.below bg9).mono bg9.size
          have own9' := own_from own9 (B := w.heap.size) (fun k hk => by have q1 := (own9.lt k hk).1; have q2 := hHeld.size; have q3 := hBV'.out.size; omega)
          refine hK.out _ _ (hx9) (fun hHeld => ?_)
          clear hK K
          try simp only [Act.put, List.setIfInBounds_toArray, List.set_cons_zero, List.set_cons_succ]
          refine wpAnyH_ready (rs := [11]) (by kernel_rfl) (by simp) ?_
          refine AllReadyH.cons (o := { dst := some 47, op := Go.Op.call { callee := Go.Callee.builtin Go.Builtin.append, args := #[Go.Operand.tmp 45, Go.Operand.tmp 46], argTypes := #[36, 36] }, type := 36, pos := "ref.go:53", after := #[{ on := 9, ground := Go.Ground.data }, { on := 10, ground := Go.Ground.data }, { on := 9, ground := Go.Ground.chain }], guard := none }) rfl (fun K hK => ?_) AllReadyH.nil
          refine wp_append_cellsB _ (.tmp 45) (.tmp 46) 36 rfl w.heap.size 29 i0 (.int .u64 0) 1 8 Try.underlying36 hi hz0 hz1 hz2 rfl (by decide) v9 (k + 1) _ own9' (by have q2 := hHeld.size; have q3 := hBV'.out.size; omega) _ a3 (i - k) c3 (nums .u64 (O.drop k)) (by rw [hdl.out]; omega) s39 (hone.out _) rfl rfl (by simp [maxLen]; omega) (by omega) ?_
          intro v11 w11 own11 grow11
          have hx11 : Below V.heap.size V w11 := hHeld.grown grow11 hHeld.size (fun k hk => by have q1 := (own9.lt k hk).1; have q2 := hx8.size; omega)
          refine hK.out _ _ (hx11) (fun hHeld => ?_)
          clear hK K
          try simp only [Act.put, List.setIfInBounds_toArray, List.set_cons_zero, List.set_cons_succ]
          refine wpAnyH_take (i := 12) (oi := { dst := some 3, op := Go.Op.assign (Go.Operand.tmp 47), type := 36, pos := "ref.go:53", after := #[{ on := 11, ground := Go.Ground.data }, { on := 11, ground := Go.Ground.chain }, { on := 0, ground := Go.Ground.phase }, { on := 1, ground := Go.Ground.phase }, { on := 2, ground := Go.Ground.phase }, { on := 3, ground := Go.Ground.phase }, { on := 4, ground := Go.Ground.phase }, { on := 5, ground := Go.Ground.phase }, { on := 6, ground := Go.Ground.phase }, { on := 7, ground := Go.Ground.phase }, { on := 8, ground := Go.Ground.phase }, { on := 9, ground := Go.Ground.phase }, { on := 10, ground := Go.Ground.phase }, { on := 11, ground := Go.Ground.phase }], guard := none }) (v := ?v24) rfl (by kernel_rfl) (by kernel_rfl) (by kernel_rfl) (fun _ _ _ h => h) (Or.inl ⟨by kernel_rfl, ?h24⟩) (by assumption) ?r24
          case h24 => (intro w hSw; (try dsimp only at hSw); go_simp; try with_reducible rfl)
          try simp only [Act.put, List.setIfInBounds_toArray, List.set_cons_zero, List.set_cons_succ]
          refine wpAnyH_done (by kernel_rfl) ?_ _
          have hfin : Hid (w11.ownsRow w.heap.size 29 1 v11 (i + 1) (nums .u64 O2) ∧ Below w.heap.size w w11) := Lib.hid ⟨by rw [hO3.out, hfin5.out, show i + 1 = k + 1 + (i - k) by omega]; exact own11, hBV'.out.trans (hx11.mono hBV'.out.size)⟩
          clear own11 grow11 hx11 own9' own9 grow9 bg9 s39 s38 s8 hx8 hx9 hHeld hld
          go_wp2
          go_roundw
          case rel => exact ⟨i + 1, by omega, by go_num, Lib.hid (by rw [hOe.out]; exact hfin.out.1), Lib.hid hfin.out.2⟩
          case measure => simp [intOf]; omega
        · obtain ⟨j, hkj⟩ : ∃ j, k = j + 1 := ⟨k - 1, by omega⟩
          obtain ⟨g, off2, rfl, hx⟩ := hcell.out j (by omega)
          have hx0 : ∀ W, (∃ q, W = g0.drewN q) → W.cell? ⟨g, off2 + j, none⟩ = some (.int .u64 (O.getD j 0)) := fun W hW => by obtain ⟨q, rfl⟩ := hW; exact hx
          have hs1 : ∀ W, (∃ q, W = g0.drewN q) → W.cell? ⟨b, off + i, none⟩ = some (.int .u64 s) := fun W hW => by obtain ⟨q, rfl⟩ := hW; exact hs0 g0 hB.out
          have hji : (j : Int) < (i : Int) := by omega
          have hj0 : (0 : Int) ≤ (j : Int) := by omega
          have hjw : wrap64 ((k : Int) - 1) = (j : Int) := by unfold wrap64; omega
          have hjw2 : IntKind.i64.wrap ((k : Int) - 1) = (j : Int) := by rw [IntKind.wrap_i64]; omega
          have hjp : (0 : Int) < (k : Int) := by omega
          have hjpn : 0 < k := by omega
          have hkj' := Lib.hid hkj
          have hal2 : Hid (s < O.getD j 0 → ∀ t, j ≤ t → t < O.length → s < O.getD t 0) := Lib.hid (fun h t h1 h2 => by
            by_cases e : t = j
            · rw [e]; exact h
            · exact hal.out t (by omega) h2)
          have hn2 : Hid (¬ s < O.getD j 0 → O2 = O.take k ++ s :: O.drop k) := Lib.hid (fun h => hst.out k (by have := hol'.out; omega) hal.out (.inr (by rw [show k - 1 = j by omega]; first | exact h | omega)))
          clear hx hal hkj
          generalize O.getD j 0 = y at *
          by_cases hys : s < y
          · have hS := Lib.hid (hal2.out hys)
            clear hn2 hal2
            go_wp2
            refine wp_drawn_on (fun W => ∃ q, W = g0.drewN q) (by kernel_rfl) (⟨m + 1, rfl⟩) (fun hHeld => ?_)
            refine wpAnyH_take (i := 0) (oi := { dst := some 15, op := Go.Op.move (Go.Operand.tmp 5), type := 3, pos := "ref.go:49", after := #[], guard := none }) (v := ?v25) rfl (by kernel_rfl) (by kernel_rfl) (by kernel_rfl) (fun _ _ _ h => h) (Or.inl ⟨by kernel_rfl, ?h25⟩) (by assumption) ?r25
            case h25 => (intro w hSw; (try dsimp only at hSw); go_simp; try with_reducible rfl)
            try simp only [Act.put, List.setIfInBounds_toArray, List.set_cons_zero, List.set_cons_succ]
            refine wpAnyH_take (i := 1) (oi := { dst := some 16, op := Go.Op.binOp Go.BinOp.gtr 3 (Go.Operand.tmp 15) (Go.Operand.const (Go.Value.int Go.IntKind.i64 0)) 3, type := 4, pos := "ref.go:49", after := #[{ on := 0, ground := Go.Ground.data }], guard := none }) (v := ?v26) rfl (by kernel_rfl) (by kernel_rfl) (by kernel_rfl) (fun _ _ _ h => h) (Or.inl ⟨by kernel_rfl, ?h26⟩) (by assumption) ?r26
            case h26 => (intro w hSw; (try dsimp only at hSw); go_simp; try with_reducible rfl)
            try simp only [Act.put, List.setIfInBounds_toArray, List.set_cons_zero, List.set_cons_succ]
            refine wpAnyH_take (i := 2) (oi := { dst := some 17, op := Go.Op.move (Go.Operand.tmp 16), type := 4, pos := "ref.go:49", after := #[{ on := 1, ground := Go.Ground.data }], guard := none }) (v := ?v27) rfl (by kernel_rfl) (by kernel_rfl) (by kernel_rfl) (fun _ _ _ h => h) (Or.inl ⟨by kernel_rfl, ?h27⟩) (by assumption) ?r27
            case h27 => (intro w hSw; (try dsimp only at hSw); go_simp; try with_reducible rfl)
            try simp only [Act.put, List.setIfInBounds_toArray, List.set_cons_zero, List.set_cons_succ]
            refine wpAnyH_take (i := 3) (oi := { dst := some 18, op := Go.Op.move (Go.Operand.tmp 3), type := 36, pos := "ref.go:49", after := #[{ on := 2, ground := Go.Ground.guard }], guard := some (2, true) }) (v := ?v28) rfl (by kernel_rfl) (by kernel_rfl) (by kernel_rfl) (fun _ _ _ h => h) (Or.inl ⟨by kernel_rfl, ?h28⟩) (by assumption) ?r28
            case h28 => (intro w hSw; (try dsimp only at hSw); go_simp; try with_reducible rfl)
            try simp only [Act.put, List.setIfInBounds_toArray, List.set_cons_zero, List.set_cons_succ]
            refine wpAnyH_take (i := 4) (oi := { dst := some 19, op := Go.Op.move (Go.Operand.tmp 5), type := 3, pos := "ref.go:49", after := #[{ on := 2, ground := Go.Ground.guard }], guard := some (2, true) }) (v := ?v29) rfl (by kernel_rfl) (by kernel_rfl) (by kernel_rfl) (fun _ _ _ h => h) (Or.inl ⟨by kernel_rfl, ?h29⟩) (by assumption) ?r29
            case h29 => (intro w hSw; (try dsimp only at hSw); go_simp; try with_reducible rfl)
            try simp only [Act.put, List.setIfInBounds_toArray, List.set_cons_zero, List.set_cons_succ]
            refine wpAnyH_take (i := 5) (oi := { dst := some 20, op := Go.Op.binOp Go.BinOp.sub 3 (Go.Operand.tmp 19) (Go.Operand.const (Go.Value.int Go.IntKind.i64 1)) 3, type := 3, pos := "ref.go:49", after := #[{ on := 4, ground := Go.Ground.data }, { on := 2, ground := Go.Ground.guard }], guard := some (2, true) }) (v := ?v30) rfl (by kernel_rfl) (by kernel_rfl) (by kernel_rfl) (fun _ _ _ h => h) (Or.inl ⟨by kernel_rfl, ?h30⟩) (by assumption) ?r30
            case h30 => (intro w hSw; (try dsimp only at hSw); go_simp; try with_reducible rfl)
            try simp only [Act.put, List.setIfInBounds_toArray, List.set_cons_zero, List.set_cons_succ]
            refine wpAnyH_take (i := 6) (oi := { dst := some 21, op := Go.Op.indexAddr 36 (Go.Operand.tmp 18) (Go.Operand.tmp 20), type := 0, pos := "ref.go:49", after := #[{ on := 3, ground := Go.Ground.data }, { on := 5, ground := Go.Ground.data }, { on := 2, ground := Go.Ground.guard }], guard := some (2, true) }) (v := ?v31) rfl (by kernel_rfl) (by kernel_rfl) (by kernel_rfl) (fun _ _ _ h => h) (Or.inl ⟨by kernel_rfl, ?h31⟩) (by assumption) ?r31
            case h31 => (intro w hSw; (try dsimp only at hSw); go_simp; try with_reducible rfl)
            try simp only [Act.put, List.setIfInBounds_toArray, List.set_cons_zero, List.set_cons_succ]
            refine wpAnyH_take (i := 7) (oi := { dst := some 22, op := Go.Op.load 29 (Go.Operand.tmp 21), type := 29, pos := "ref.go:49", after := #[{ on := 6, ground := Go.Ground.data }, { on := 2, ground := Go.Ground.guard }], guard := some (2, true) }) (v := ?v32) rfl (by kernel_rfl) (by kernel_rfl) (by kernel_rfl) (fun _ _ _ h => h) (Or.inl ⟨by kernel_rfl, ?h32⟩) (by assumption) ?r32
            case h32 => (intro w hSw; (try dsimp only at hSw); go_simp; try with_reducible rfl)
            try simp only [Act.put, List.setIfInBounds_toArray, List.set_cons_zero, List.set_cons_succ]
            refine wpAnyH_take (i := 8) (oi := { dst := some 23, op := Go.Op.move (Go.Operand.tmp 0), type := 36, pos := "ref.go:49", after := #[{ on := 2, ground := Go.Ground.guard }], guard := some (2, true) }) (v := ?v33) rfl (by kernel_rfl) (by kernel_rfl) (by kernel_rfl) (fun _ _ _ h => h) (Or.inl ⟨by kernel_rfl, ?h33⟩) (by assumption) ?r33
            case h33 => (intro w hSw; (try dsimp only at hSw); go_simp; try with_reducible rfl)
            try simp only [Act.put, List.setIfInBounds_toArray, List.set_cons_zero, List.set_cons_succ]
            refine wpAnyH_take (i := 9) (oi := { dst := some 24, op := Go.Op.move (Go.Operand.tmp 4), type := 3, pos := "ref.go:49", after := #[{ on := 2, ground := Go.Ground.guard }], guard := some (2, true) }) (v := ?v34) rfl (by kernel_rfl) (by kernel_rfl) (by kernel_rfl) (fun _ _ _ h => h) (Or.inl ⟨by kernel_rfl, ?h34⟩) (by assumption) ?r34
            case h34 => (intro w hSw; (try dsimp only at hSw); go_simp; try with_reducible rfl)
            try simp only [Act.put, List.setIfInBounds_toArray, List.set_cons_zero, List.set_cons_succ]
            refine wpAnyH_take (i := 10) (oi := { dst := some 25, op := Go.Op.indexAddr 36 (Go.Operand.tmp 23) (Go.Operand.tmp 24), type := 0, pos := "ref.go:49", after := #[{ on := 8, ground := Go.Ground.data }, { on := 9, ground := Go.Ground.data }, { on := 2, ground := Go.Ground.guard }], guard := some (2, true) }) (v := ?v35) rfl (by kernel_rfl) (by kernel_rfl) (by kernel_rfl) (fun _ _ _ h => h) (Or.inl ⟨by kernel_rfl, ?h35⟩) (by assumption) ?r35
            case h35 => (intro w hSw; (try dsimp only at hSw); go_simp; try with_reducible rfl)
            try simp only [Act.put, List.setIfInBounds_toArray, List.set_cons_zero, List.set_cons_succ]
            refine wpAnyH_take (i := 11) (oi := { dst := some 26, op := Go.Op.load 29 (Go.Operand.tmp 25), type := 29, pos := "ref.go:49", after := #[{ on := 10, ground := Go.Ground.data }, { on := 2, ground := Go.Ground.guard }], guard := some (2, true) }) (v := ?v36) rfl (by kernel_rfl) (by kernel_rfl) (by kernel_rfl) (fun _ _ _ h => h) (Or.inl ⟨by kernel_rfl, ?h36⟩) (by assumption) ?r36
            case h36 => (intro w hSw; (try dsimp only at hSw); go_simp; try with_reducible rfl)
            try simp only [Act.put, List.setIfInBounds_toArray, List.set_cons_zero, List.set_cons_succ]
            refine wpAnyH_take (i := 12) (oi := { dst := some 27, op := Go.Op.binOp Go.BinOp.gtr 29 (Go.Operand.tmp 22) (Go.Operand.tmp 26) 29, type := 4, pos := "ref.go:49", after := #[{ on := 7, ground := Go.Ground.data }, { on := 11, ground := Go.Ground.data }, { on := 2, ground := Go.Ground.guard }], guard := some (2, true) }) (v := ?v37) rfl (by kernel_rfl) (by kernel_rfl) (by kernel_rfl) (fun _ _ _ h => h) (Or.inl ⟨by kernel_rfl, ?h37⟩) (by assumption) ?r37
            case h37 => (intro w hSw; (try dsimp only at hSw); go_simp; try with_reducible rfl)
            try simp only [Act.put, List.setIfInBounds_toArray, List.set_cons_zero, List.set_cons_succ]
            refine wpAnyH_take (i := 13) (oi := { dst := some 28, op := Go.Op.pick (Go.Operand.tmp 17) (Go.Operand.tmp 27) (Go.Operand.const (Go.Value.bool false)), type := 4, pos := "ref.go:49", after := #[{ on := 2, ground := Go.Ground.data }, { on := 12, ground := Go.Ground.data }], guard := none }) (v := ?v38) rfl (by kernel_rfl) (by kernel_rfl) (by kernel_rfl) (fun _ _ _ h => h) (Or.inl ⟨by kernel_rfl, ?h38⟩) (by assumption) ?r38
            case h38 => (intro w hSw; (try dsimp only at hSw); go_simp; try with_reducible rfl)
            try simp only [Act.put, List.setIfInBounds_toArray, List.set_cons_zero, List.set_cons_succ]
            refine wpAnyH_done (by kernel_rfl) ?_ _
            clear hx0 hs1
            go_wp2
            go_roundw
            case rel => exact ⟨j, m + 1, by have := hkj'.out; omega, by first | rfl | go_num, hS, rfl⟩
            case measure => (simp [intOf]; have := hkj'.out; omega)
          · have hysb : decide (s < y) = false := decide_eq_false hys
            have hO3 := Lib.hid (hn2.out hys)
            clear hn2 hal2 hst
            go_wp2
            refine wp_drawn_on (fun W => ∃ q, W = g0.drewN q) (by kernel_rfl) (⟨m + 1, rfl⟩) (fun hHeld => ?_)
            refine wpAnyH_take (i := 0) (oi := { dst := some 15, op := Go.Op.move (Go.Operand.tmp 5), type := 3, pos := "ref.go:49", after := #[], guard := none }) (v := ?v39) rfl (by kernel_rfl) (by kernel_rfl) (by kernel_rfl) (fun _ _ _ h => h) (Or.inl ⟨by kernel_rfl, ?h39⟩) (by assumption) ?r39
            case h39 => (intro w hSw; (try dsimp only at hSw); go_simp; try with_reducible rfl)
            try simp only [Act.put, List.setIfInBounds_toArray, List.set_cons_zero, List.set_cons_succ]
            refine wpAnyH_take (i := 1) (oi := { dst := some 16, op := Go.Op.binOp Go.BinOp.gtr 3 (Go.Operand.tmp 15) (Go.Operand.const (Go.Value.int Go.IntKind.i64 0)) 3, type := 4, pos := "ref.go:49", after := #[{ on := 0, ground := Go.Ground.data }], guard := none }) (v := ?v40) rfl (by kernel_rfl) (by kernel_rfl) (by kernel_rfl) (fun _ _ _ h => h) (Or.inl ⟨by kernel_rfl, ?h40⟩) (by assumption) ?r40
            case h40 => (intro w hSw; (try dsimp only at hSw); go_simp; try with_reducible rfl)
            try simp only [Act.put, List.setIfInBounds_toArray, List.set_cons_zero, List.set_cons_succ]
            refine wpAnyH_take (i := 2) (oi := { dst := some 17, op := Go.Op.move (Go.Operand.tmp 16), type := 4, pos := "ref.go:49", after := #[{ on := 1, ground := Go.Ground.data }], guard := none }) (v := ?v41) rfl (by kernel_rfl) (by kernel_rfl) (by kernel_rfl) (fun _ _ _ h => h) (Or.inl ⟨by kernel_rfl, ?h41⟩) (by assumption) ?r41
            case h41 => (intro w hSw; (try dsimp only at hSw); go_simp; try with_reducible rfl)
            try simp only [Act.put, List.setIfInBounds_toArray, List.set_cons_zero, List.set_cons_succ]
            refine wpAnyH_take (i := 3) (oi := { dst := some 18, op := Go.Op.move (Go.Operand.tmp 3), type := 36, pos := "ref.go:49", after := #[{ on := 2, ground := Go.Ground.guard }], guard := some (2, true) }) (v := ?v42) rfl (by kernel_rfl) (by kernel_rfl) (by kernel_rfl) (fun _ _ _ h => h) (Or.inl ⟨by kernel_rfl, ?h42⟩) (by assumption) ?r42
            case h42 => (intro w hSw; (try dsimp only at hSw); go_simp; try with_reducible rfl)
            try simp only [Act.put, List.setIfInBounds_toArray, List.set_cons_zero, List.set_cons_succ]
            refine wpAnyH_take (i := 4) (oi := { dst := some 19, op := Go.Op.move (Go.Operand.tmp 5), type := 3, pos := "ref.go:49", after := #[{ on := 2, ground := Go.Ground.guard }], guard := some (2, true) }) (v := ?v43) rfl (by kernel_rfl) (by kernel_rfl) (by kernel_rfl) (fun _ _ _ h => h) (Or.inl ⟨by kernel_rfl, ?h43⟩) (by assumption) ?r43
            case h43 => (intro w hSw; (try dsimp only at hSw); go_simp; try with_reducible rfl)
            try simp only [Act.put, List.setIfInBounds_toArray, List.set_cons_zero, List.set_cons_succ]
            refine wpAnyH_take (i := 5) (oi := { dst := some 20, op := Go.Op.binOp Go.BinOp.sub 3 (Go.Operand.tmp 19) (Go.Operand.const (Go.Value.int Go.IntKind.i64 1)) 3, type := 3, pos := "ref.go:49", after := #[{ on := 4, ground := Go.Ground.data }, { on := 2, ground := Go.Ground.guard }], guard := some (2, true) }) (v := ?v44) rfl (by kernel_rfl) (by kernel_rfl) (by kernel_rfl) (fun _ _ _ h => h) (Or.inl ⟨by kernel_rfl, ?h44⟩) (by assumption) ?r44
            case h44 => (intro w hSw; (try dsimp only at hSw); go_simp; try with_reducible rfl)
            try simp only [Act.put, List.setIfInBounds_toArray, List.set_cons_zero, List.set_cons_succ]
            refine wpAnyH_take (i := 6) (oi := { dst := some 21, op := Go.Op.indexAddr 36 (Go.Operand.tmp 18) (Go.Operand.tmp 20), type := 0, pos := "ref.go:49", after := #[{ on := 3, ground := Go.Ground.data }, { on := 5, ground := Go.Ground.data }, { on := 2, ground := Go.Ground.guard }], guard := some (2, true) }) (v := ?v45) rfl (by kernel_rfl) (by kernel_rfl) (by kernel_rfl) (fun _ _ _ h => h) (Or.inl ⟨by kernel_rfl, ?h45⟩) (by assumption) ?r45
            case h45 => (intro w hSw; (try dsimp only at hSw); go_simp; try with_reducible rfl)
            try simp only [Act.put, List.setIfInBounds_toArray, List.set_cons_zero, List.set_cons_succ]
            refine wpAnyH_take (i := 7) (oi := { dst := some 22, op := Go.Op.load 29 (Go.Operand.tmp 21), type := 29, pos := "ref.go:49", after := #[{ on := 6, ground := Go.Ground.data }, { on := 2, ground := Go.Ground.guard }], guard := some (2, true) }) (v := ?v46) rfl (by kernel_rfl) (by kernel_rfl) (by kernel_rfl) (fun _ _ _ h => h) (Or.inl ⟨by kernel_rfl, ?h46⟩) (by assumption) ?r46
            case h46 => (intro w hSw; (try dsimp only at hSw); go_simp; try with_reducible rfl)
            try simp only [Act.put, List.setIfInBounds_toArray, List.set_cons_zero, List.set_cons_succ]
            refine wpAnyH_take (i := 8) (oi := { dst := some 23, op := Go.Op.move (Go.Operand.tmp 0), type := 36, pos := "ref.go:49", after := #[{ on := 2, ground := Go.Ground.guard }], guard := some (2, true) }) (v := ?v47) rfl (by kernel_rfl) (by kernel_rfl) (by kernel_rfl) (fun _ _ _ h => h) (Or.inl ⟨by kernel_rfl, ?h47⟩) (by assumption) ?r47
            case h47 => (intro w hSw; (try dsimp only at hSw); go_simp; try with_reducible rfl)
            try simp only [Act.put, List.setIfInBounds_toArray, List.set_cons_zero, List.set_cons_succ]
            refine wpAnyH_take (i := 9) (oi := { dst := some 24, op := Go.Op.move (Go.Operand.tmp 4), type := 3, pos := "ref.go:49", after := #[{ on := 2, ground := Go.Ground.guard }], guard := some (2, true) }) (v := ?v48) rfl (by kernel_rfl) (by kernel_rfl) (by kernel_rfl) (fun _ _ _ h => h) (Or.inl ⟨by kernel_rfl, ?h48⟩) (by assumption) ?r48
            case h48 => (intro w hSw; (try dsimp only at hSw); go_simp; try with_reducible rfl)
            try simp only [Act.put, List.setIfInBounds_toArray, List.set_cons_zero, List.set_cons_succ]
            refine wpAnyH_take (i := 10) (oi := { dst := some 25, op := Go.Op.indexAddr 36 (Go.Operand.tmp 23) (Go.Operand.tmp 24), type := 0, pos := "ref.go:49", after := #[{ on := 8, ground := Go.Ground.data }, { on := 9, ground := Go.Ground.data }, { on := 2, ground := Go.Ground.guard }], guard := some (2, true) }) (v := ?v49) rfl (by kernel_rfl) (by kernel_rfl) (by kernel_rfl) (fun _ _ _ h => h) (Or.inl ⟨by kernel_rfl, ?h49⟩) (by assumption) ?r49
            case h49 => (intro w hSw; (try dsimp only at hSw); go_simp; try with_reducible rfl)
            try simp only [Act.put, List.setIfInBounds_toArray, List.set_cons_zero, List.set_cons_succ]
            refine wpAnyH_take (i := 11) (oi := { dst := some 26, op := Go.Op.load 29 (Go.Operand.tmp 25), type := 29, pos := "ref.go:49", after := #[{ on := 10, ground := Go.Ground.data }, { on := 2, ground := Go.Ground.guard }], guard := some (2, true) }) (v := ?v50) rfl (by kernel_rfl) (by kernel_rfl) (by kernel_rfl) (fun _ _ _ h => h) (Or.inl ⟨by kernel_rfl, ?h50⟩) (by assumption) ?r50
            case h50 => (intro w hSw; (try dsimp only at hSw); go_simp; try with_reducible rfl)
            try simp only [Act.put, List.setIfInBounds_toArray, List.set_cons_zero, List.set_cons_succ]
            refine wpAnyH_take (i := 12) (oi := { dst := some 27, op := Go.Op.binOp Go.BinOp.gtr 29 (Go.Operand.tmp 22) (Go.Operand.tmp 26) 29, type := 4, pos := "ref.go:49", after := #[{ on := 7, ground := Go.Ground.data }, { on := 11, ground := Go.Ground.data }, { on := 2, ground := Go.Ground.guard }], guard := some (2, true) }) (v := ?v51) rfl (by kernel_rfl) (by kernel_rfl) (by kernel_rfl) (fun _ _ _ h => h) (Or.inl ⟨by kernel_rfl, ?h51⟩) (by assumption) ?r51
            case h51 => (intro w hSw; (try dsimp only at hSw); go_simp; try with_reducible rfl)
            try simp only [Act.put, List.setIfInBounds_toArray, List.set_cons_zero, List.set_cons_succ]
            refine wpAnyH_take (i := 13) (oi := { dst := some 28, op := Go.Op.pick (Go.Operand.tmp 17) (Go.Operand.tmp 27) (Go.Operand.const (Go.Value.bool false)), type := 4, pos := "ref.go:49", after := #[{ on := 2, ground := Go.Ground.data }, { on := 12, ground := Go.Ground.data }], guard := none }) (v := ?v52) rfl (by kernel_rfl) (by kernel_rfl) (by kernel_rfl) (fun _ _ _ h => h) (Or.inl ⟨by kernel_rfl, ?h52⟩) (by assumption) ?r52
            case h52 => (intro w hSw; (try dsimp only at hSw); go_simp; try with_reducible rfl)
            try simp only [Act.put, List.setIfInBounds_toArray, List.set_cons_zero, List.set_cons_succ]
            refine wpAnyH_done (by kernel_rfl) ?_ _
            clear hx0 hs1 hysb hys hjp hjpn hjw hjw2 hj0 hji hkj'
            obtain ⟨V, hV⟩ : ∃ V, V = g0.drewN (m + 1) := ⟨_, rfl⟩
            have hVz : V.heap.size = g0.heap.size := by rw [hV]; rfl
            have hol := hol'.out
            obtain ⟨ad, hsl1, hsd, hnd⟩ := hse'.out.cut 1 k i co (by simp [nums, hol]) (by omega) hlc (by omega)
            obtain ⟨ae, hsl2, hsf, hnf⟩ := hse'.out.cut 1 0 k k (by simp [nums, hol] <;> omega) (by omega) (Nat.le_refl _) (by omega)
            have g1 := ccut_l under_u64 size_u64 _ i co k hsl1 (by omega)
            have g2 := ccut_hm under_u64 size_u64 _ i co k k hsl2 (Nat.le_refl _) (by omega)
            have nl : (nums .u64 O).length = i := by simp [nums, hol]
            have nd : ∀ q, (nums .u64 O).drop q = nums .u64 (O.drop q) := fun q => by simp [nums, List.map_drop]
            have nt : ∀ q, (nums .u64 O).take q = nums .u64 (O.take q) := fun q => by simp [nums, List.map_take]
            simp only [Nat.mul_one, List.take_of_length_le (Nat.le_of_eq nl), nd, nt, List.drop_zero, Nat.sub_zero, Nat.zero_mul] at hsd hsf g1 g2
            have hne : ae = none → k = 0 ∧ k = 0 := by
              intro h
              by_cases h0 : k = 0
              · exact ⟨h0, h0⟩
              · rcases hsf with h1 | ⟨g, off, h1, _⟩
                · have h3 : (nums .u64 (O.take k)).length = 0 := by rw [h1]; rfl
                  simp only [nums, List.length_map, List.length_take] at h3; omega
                · rw [h] at h1; cases h1
            have hne' := Lib.hid hne
            have hk5 : k ≤ 100000 := by omega
            have hko5 : i - k ≤ 100000 := by omega
            have hBV : Below w.heap.size w V := by rw [hV]; exact Below.drewN hB.out (m + 1)
            have hsfV : SeesC V.heap.size V ae (nums .u64 (O.take k)) := by rw [hV]; exact hsf
            obtain ⟨W2, hW2⟩ : ∃ W2, W2 = V.alloc (.cells #[] 29) := ⟨_, rfl⟩
            have hBx : Below V.heap.size V W2 := by rw [hW2]; exact (Below.refl _ _).alloc (Nat.le_refl _) _
            have hBx' := Lib.hid hBx
            have hsd2 : Hid (SeesC W2.heap.size W2 ad (nums .u64 (O.drop k))) := Lib.hid (by
              have : SeesC V.heap.size V ad (nums .u64 (O.drop k)) := by rw [hV]; exact hsd
              exact (this.below hBx).mono hBx.size)
            have hro : Hid (W2.ownsRow V.heap.size 29 1 (.slice (some ⟨g0.heap.size, 0, none⟩) 0 0) 0 []) := Lib.hid (by rw [hW2, ← hVz]; exact own_cells V 29 1 0 #[] (by simp) (by simp [maxLen]))
            have hdl : Hid ((nums .u64 (O.drop k)).length = i - k) := Lib.hid (by simp [nums, hol])
            have htl : Hid ((nums .u64 (O.take k)).length = k) := Lib.hid (by simp [nums, hol] <;> omega)
            have hW2' := Lib.hid hW2
            have hV' := Lib.hid hV
            have hBV' := Lib.hid hBV
            have hsfV' := Lib.hid hsfV
            have hone : Hid (∀ q : List Int, ∀ u ∈ nums .u64 q, u.oneCell' = true) := Lib.hid (fun q u hu => by obtain ⟨x, _, rfl⟩ := List.mem_map.1 hu; rfl)
            have hfin5 : Hid (nums .u64 (O.take k ++ s :: O.drop k) = nums .u64 (O.take k) ++ [.int .u64 s] ++ nums .u64 (O.drop k)) := Lib.hid (by simp [nums])
            clear hsl1 hsl2 hsd hsf hnd hnf hse' hcell hown hBx hW2 hV hBV hsfV hne hVz hol nl nd nt
            go_wp2_with (at_builtin; go_loud (rw [← hV'.out, ← hW2'.out]; refine wpList_append_cellsB _ rfl (.tmp 31) (.tmp 34) 36 rfl V 29 i0 (.int .u64 0) 1 8 Try.underlying36 hi hz0 hz1 hz2 rfl (by decide) _ 0 [] hro.out hBx'.out W2.heap.size ad (i - k) (co - k) (nums .u64 (O.drop k)) (by rw [hdl.out]; omega) hsd2.out (hone.out _) rfl rfl (by simp [maxLen]; omega) (by omega) ?_); intro v3 w3 own3 b3; simp only [List.nil_append, Nat.zero_add] at own3)
            obtain ⟨a3, c3, rfl, -, -, s3⟩ := seesC_own own3
            have hsz : SeesC w3.drew.heap.size w3.drew a3 (nums .u64 (O.drop k)) := s3
            have hall : Below V.heap.size V w3.drew := b3.drew
            have hs0' := Lib.hid hs0
            have hld : ∀ W, Below V.heap.size V W → W.cell? ⟨b, off + i, none⟩ = some (.int .u64 s) := fun W hW => hs0 W (hBV'.out.trans (hW.mono hBV'.out.size))
            clear own3 s3 hs0 hro hsd2
            refine wp_drawn_on (fun W => Below V.heap.size V W) (by kernel_rfl) (b3.drew) (fun hHeld => ?_)
            generalize w3.drew = W4 at hsz hall hHeld ⊢
            refine wpAnyH_take (i := 0) (oi := { dst := some 36, op := Go.Op.move (Go.Operand.tmp 3), type := 36, pos := "ref.go:53", after := #[], guard := none }) (v := ?v53) rfl (by kernel_rfl) (by kernel_rfl) (by kernel_rfl) (fun _ _ _ h => h) (Or.inl ⟨by kernel_rfl, ?h53⟩) (by assumption) ?r53
            case h53 => (intro w hSw; (try dsimp only at hSw); go_simp; try with_reducible rfl)
            try simp only [Act.put, List.setIfInBounds_toArray, List.set_cons_zero, List.set_cons_succ]
            refine wpAnyH_take (i := 1) (oi := { dst := some 37, op := Go.Op.move (Go.Operand.tmp 5), type := 3, pos := "ref.go:53", after := #[], guard := none }) (v := ?v54) rfl (by kernel_rfl) (by kernel_rfl) (by kernel_rfl) (fun _ _ _ h => h) (Or.inl ⟨by kernel_rfl, ?h54⟩) (by assumption) ?r54
            case h54 => (intro w hSw; (try dsimp only at hSw); go_simp; try with_reducible rfl)
            try simp only [Act.put, List.setIfInBounds_toArray, List.set_cons_zero, List.set_cons_succ]
            refine wpAnyH_take (i := 2) (oi := { dst := some 38, op := Go.Op.move (Go.Operand.tmp 5), type := 3, pos := "ref.go:53", after := #[], guard := none }) (v := ?v55) rfl (by kernel_rfl) (by kernel_rfl) (by kernel_rfl) (fun _ _ _ h => h) (Or.inl ⟨by kernel_rfl, ?h55⟩) (by assumption) ?r55
            case h55 => (intro w hSw; (try dsimp only at hSw); go_simp; try with_reducible rfl)
            try simp only [Act.put, List.setIfInBounds_toArray, List.set_cons_zero, List.set_cons_succ]
            refine wpAnyH_take (i := 3) (oi := { dst := some 39, op := Go.Op.slice 36 (Go.Operand.tmp 36) none (some (Go.Operand.tmp 37)) (some (Go.Operand.tmp 38)), type := 36, pos := "ref.go:53", after := #[{ on := 0, ground := Go.Ground.data }, { on := 1, ground := Go.Ground.data }, { on := 2, ground := Go.Ground.data }], guard := none }) (v := ?v56) rfl (by kernel_rfl) (by kernel_rfl) (by kernel_rfl) (fun _ _ _ h => h) (Or.inl ⟨by kernel_rfl, ?h56⟩) (by assumption) ?r56
            case h56 => (intro w hSw; (try dsimp only at hSw); go_simp; try with_reducible rfl)
            try simp only [Act.put, List.setIfInBounds_toArray, List.set_cons_zero, List.set_cons_succ]
            refine wpAnyH_take (i := 4) (oi := { dst := some 40, op := Go.Op.move (Go.Operand.tmp 0), type := 36, pos := "ref.go:53", after := #[], guard := none }) (v := ?v57) rfl (by kernel_rfl) (by kernel_rfl) (by kernel_rfl) (fun _ _ _ h => h) (Or.inl ⟨by kernel_rfl, ?h57⟩) (by assumption) ?r57
            case h57 => (intro w hSw; (try dsimp only at hSw); go_simp; try with_reducible rfl)
            try simp only [Act.put, List.setIfInBounds_toArray, List.set_cons_zero, List.set_cons_succ]
            refine wpAnyH_take (i := 5) (oi := { dst := some 41, op := Go.Op.move (Go.Operand.tmp 4), type := 3, pos := "ref.go:53", after := #[], guard := none }) (v := ?v58) rfl (by kernel_rfl) (by kernel_rfl) (by kernel_rfl) (fun _ _ _ h => h) (Or.inl ⟨by kernel_rfl, ?h58⟩) (by assumption) ?r58
            case h58 => (intro w hSw; (try dsimp only at hSw); go_simp; try with_reducible rfl)
            try simp only [Act.put, List.setIfInBounds_toArray, List.set_cons_zero, List.set_cons_succ]
            refine wpAnyH_take (i := 6) (oi := { dst := some 42, op := Go.Op.indexAddr 36 (Go.Operand.tmp 40) (Go.Operand.tmp 41), type := 0, pos := "ref.go:53", after := #[{ on := 4, ground := Go.Ground.data }, { on := 5, ground := Go.Ground.data }], guard := none }) (v := ?v59) rfl (by kernel_rfl) (by kernel_rfl) (by kernel_rfl) (fun _ _ _ h => h) (Or.inl ⟨by kernel_rfl, ?h59⟩) (by assumption) ?r59
            case h59 => (intro w hSw; (try dsimp only at hSw); go_simp; try with_reducible rfl)
            try simp only [Act.put, List.setIfInBounds_toArray, List.set_cons_zero, List.set_cons_succ]
            refine wpAnyH_take (i := 7) (oi := { dst := some 43, op := Go.Op.load 29 (Go.Operand.tmp 42), type := 29, pos := "ref.go:53", after := #[{ on := 6, ground := Go.Ground.data }], guard := none }) (v := ?v60) rfl (by kernel_rfl) (by kernel_rfl) (by kernel_rfl) (fun _ _ _ h => h) (Or.inl ⟨by kernel_rfl, ?h60⟩) (by assumption) ?r60
            case h60 => (intro w hSw; (try dsimp only at hSw); go_simp; try with_reducible rfl)
            try simp only [Act.put, List.setIfInBounds_toArray, List.set_cons_zero, List.set_cons_succ]
            refine wpAnyH_take (i := 10) (oi := { dst := some 46, op := Go.Op.move (Go.Operand.tmp 6), type := 36, pos := "ref.go:53", after := #[], guard := none }) (v := ?v61) rfl (by kernel_rfl) (by kernel_rfl) (by kernel_rfl) (fun _ _ _ h => h) (Or.inl ⟨by kernel_rfl, ?h61⟩) (by assumption) ?r61
            case h61 => (intro w hSw; (try dsimp only at hSw); go_simp; try with_reducible rfl)
            try simp only [Act.put, List.setIfInBounds_toArray, List.set_cons_zero, List.set_cons_succ]
            refine wpAnyH_ready (rs := [8]) (by kernel_rfl) (by simp) ?_
            refine AllReadyH.cons (o := { dst := some 44, op := Go.Op.buildSlice 36 1 #[(0, Go.Operand.tmp 43)], type := 36, pos := "ref.go:53", after := #[{ on := 7, ground := Go.Ground.data }], guard := none }) rfl (fun K hK => ?_) AllReadyH.nil
            go_simp
            have hx8 := hHeld.alloc hHeld.size (.cells #[.int .u64 s] 29)
            have s8 := seesC_lit (W4) 29 #[.int .u64 s]
            have s38 := (hsz.below (box_below (W4) #[.int .u64 s] 29)).mono (box_below (W4) #[.int .u64 s] 29).size
            go_simp
            generalize hw8 : (W4).alloc (.cells #[.int .u64 s] 29) = w8 at *
            generalize (W4).heap.size = g8 at *
            refine hK.out _ _ (hx8) (fun hHeld => ?_)
            clear hK K
            try simp only [Act.put, List.setIfInBounds_toArray, List.set_cons_zero, List.set_cons_succ]
            refine wpAnyH_ready (rs := [9]) (by kernel_rfl) (by simp) ?_
            refine AllReadyH.cons (o := { dst := some 45, op := Go.Op.call { callee := Go.Callee.builtin Go.Builtin.append, args := #[Go.Operand.tmp 39, Go.Operand.tmp 44], argTypes := #[36, 36] }, type := 36, pos := "ref.go:53", after := #[{ on := 3, ground := Go.Ground.data }, { on := 8, ground := Go.Ground.data }], guard := none }) rfl (fun K hK => ?_) AllReadyH.nil
            refine wp_append_full _ (.tmp 39) (.tmp 44) 36 rfl 29 i0 (.int .u64 0) 1 8 Try.underlying36 hi hz0 hz1 hz2 rfl (by decide) ae k k (nums .u64 (O.take k)) rfl hne'.out (by rw [htl.out]; omega) w8.heap.size ((hsfV'.out.below hHeld).mono hHeld.size) ⟨g8, 0, none⟩ 1 1 [.int .u64 s] rfl (by simp) s8 (by intro u hu; simp at hu; subst hu; rfl) (by omega) (by simp [maxLen]; omega) (by omega) ?_
            intro v9 w9 own9 grow9
            have bg9 : Below w8.heap.size w8 w9 := (Below.refl _ _).grown grow9 (Nat.le_refl _) (by intro k hk; cases hk)
            have hx9 := hHeld.trans (bg9.mono hHeld.size)
            have s39 := (s38.below bg9).mono bg9.size
            have own9' := own_from own9 (B := w.heap.size) (fun k hk => by have q1 := (own9.lt k hk).1; have q2 := hHeld.size; have q3 := hBV'.out.size; omega)
            refine hK.out _ _ (hx9) (fun hHeld => ?_)
            clear hK K
            try simp only [Act.put, List.setIfInBounds_toArray, List.set_cons_zero, List.set_cons_succ]
            refine wpAnyH_ready (rs := [11]) (by kernel_rfl) (by simp) ?_
            refine AllReadyH.cons (o := { dst := some 47, op := Go.Op.call { callee := Go.Callee.builtin Go.Builtin.append, args := #[Go.Operand.tmp 45, Go.Operand.tmp 46], argTypes := #[36, 36] }, type := 36, pos := "ref.go:53", after := #[{ on := 9, ground := Go.Ground.data }, { on := 10, ground := Go.Ground.data }, { on := 9, ground := Go.Ground.chain }], guard := none }) rfl (fun K hK => ?_) AllReadyH.nil
            refine wp_append_cellsB _ (.tmp 45) (.tmp 46) 36 rfl w.heap.size 29 i0 (.int .u64 0) 1 8 Try.underlying36 hi hz0 hz1 hz2 rfl (by decide) v9 (k + 1) _ own9' (by have q2 := hHeld.size; have q3 := hBV'.out.size; omega) _ a3 (i - k) c3 (nums .u64 (O.drop k)) (by rw [hdl.out]; omega) s39 (hone.out _) rfl rfl (by simp [maxLen]; omega) (by omega) ?_
            intro v11 w11 own11 grow11
            have hx11 : Below V.heap.size V w11 := hHeld.grown grow11 hHeld.size (fun k hk => by have q1 := (own9.lt k hk).1; have q2 := hx8.size; omega)
            refine hK.out _ _ (hx11) (fun hHeld => ?_)
            clear hK K
            try simp only [Act.put, List.setIfInBounds_toArray, List.set_cons_zero, List.set_cons_succ]
            refine wpAnyH_take (i := 12) (oi := { dst := some 3, op := Go.Op.assign (Go.Operand.tmp 47), type := 36, pos := "ref.go:53", after := #[{ on := 11, ground := Go.Ground.data }, { on := 11, ground := Go.Ground.chain }, { on := 0, ground := Go.Ground.phase }, { on := 1, ground := Go.Ground.phase }, { on := 2, ground := Go.Ground.phase }, { on := 3, ground := Go.Ground.phase }, { on := 4, ground := Go.Ground.phase }, { on := 5, ground := Go.Ground.phase }, { on := 6, ground := Go.Ground.phase }, { on := 7, ground := Go.Ground.phase }, { on := 8, ground := Go.Ground.phase }, { on := 9, ground := Go.Ground.phase }, { on := 10, ground := Go.Ground.phase }, { on := 11, ground := Go.Ground.phase }], guard := none }) (v := ?v62) rfl (by kernel_rfl) (by kernel_rfl) (by kernel_rfl) (fun _ _ _ h => h) (Or.inl ⟨by kernel_rfl, ?h62⟩) (by assumption) ?r62
            case h62 => (intro w hSw; (try dsimp only at hSw); go_simp; try with_reducible rfl)
            try simp only [Act.put, List.setIfInBounds_toArray, List.set_cons_zero, List.set_cons_succ]
            refine wpAnyH_done (by kernel_rfl) ?_ _
            have hfin : Hid (w11.ownsRow w.heap.size 29 1 v11 (i + 1) (nums .u64 O2) ∧ Below w.heap.size w w11) := Lib.hid ⟨by rw [hO3.out, hfin5.out, show i + 1 = k + 1 + (i - k) by omega]; exact own11, hBV'.out.trans (hx11.mono hBV'.out.size)⟩
            clear own11 grow11 hx11 own9' own9 grow9 bg9 s39 s38 s8 hx8 hx9 hHeld hld
            go_wp2
            go_roundw
            case rel => exact ⟨i + 1, by omega, by go_num, Lib.hid (by rw [hOe.out]; exact hfin.out.1), Lib.hid hfin.out.2⟩
            case measure => simp [intOf]; omega
    · have hii : ¬ (i : Int) < (n : Int) := by omega
      have hfin : Hid (Made 29 .u64 w (sortC cmpZ l) (.returned u3) g0) := Lib.hid (by
        have := hown.out
        rw [List.take_of_length_le (by have := hnl.out; omega)] at this
        have e : i = (sortC cmpZ l).length := by rw [sortC_len]; have := hnl.out; omega
        rw [e] at this
        exact ⟨_, rfl, this, hB.out⟩)
      clear hown
      go_wp2
      go_ret
      exact hfin.out
end Go.Proofs.Ytbpaoiajfjkmfaa
