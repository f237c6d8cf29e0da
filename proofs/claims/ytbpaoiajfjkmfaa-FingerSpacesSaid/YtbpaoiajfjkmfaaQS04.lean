/-
  Words and walks under the law's proof.
-/
import Derived.Test.YtbpaoiajfjkmfaaQS03
namespace Go.Proofs.Ytbpaoiajfjkmfaa
open Go.RowKit
set_option linter.unusedVariables false
set_option linter.unusedSimpArgs false
structure SU (k : IntKind) (w : World) (a : Option Addr) (m c : Nat) (l : List Int) : Prop where
  len : m = l.length
  max : m ≤ 9223372036854775807
  sees : Sees k w.heap.size w a l
theorem SU.below {k : IntKind} {w w' : World} {a : Option Addr} {m c : Nat} {l : List Int} (h : SU k w a m c l) (hb : Below w.heap.size w w') : SU k w' a m c l := ⟨h.len, h.max, (h.sees.below hb).mono hb.size⟩
def DrawnT (v : Value) (w : World) (e : Ending) (w' : World) : Prop := e = .returned v ∧ ∃ m, w' = w.drewN m
set_option maxRecDepth 100000 in
set_option maxHeartbeats 2000000 in
theorem rfsame_any (a1 a2 : Option Addr) (l1 l2 : List Int) (n1 n2 c1 c2 : Nat) (w : World) (h1 : SU .u64 w a1 n1 c1 l1) (h2 : SU .u64 w a2 n2 c2 l2) :
    Calls Try.prog 14 #[.slice a1 n1 c1, .slice a2 n2 c2] w (DrawnT (.bool (decide (l1 = l2))) w) := by
  have e1 := Lib.hid h1.len
  have e2 := Lib.hid h2.len
  have g1 := Lib.hid h1
  have g2 := Lib.hid h2
  have b1 : (n1 : Int) ≤ 9223372036854775807 := by have := h1.max; omega
  clear h1 h2
  by_cases hn : n1 = n2
  case neg =>
    have hr : decide (l1 = l2) = false := decide_eq_false (fun e => hn (by rw [e1.out, e2.out, e]))
    rw [hr]
    have hi2 : ((n1 : Int) != (n2 : Int)) = true := by simp; omega
    clear hr hn
    go_enter Try.func14, Try.ntmps14
    go_wp2
    go_ret
    exact ⟨rfl, 0, rfl⟩
  subst hn
  go_enter Try.func14, Try.ntmps14
  go_wp2
  go_loopw [5] (fun x wr => ∃ k m : Nat, k ≤ n1 ∧ x = .int .i64 k ∧ Hid (∀ j, j < k → l1.getD j 0 = l2.getD j 0) ∧ wr = w.drewN m) (fun x _ => n1 - (intOf x).toNat)
  case atStart => exact ⟨0, 0, Nat.zero_le _, rfl, Lib.hid (by intro j hj; omega), rfl⟩
  case round =>
    obtain ⟨k, m, hk, rfl, he, rfl⟩ := hrel
    by_cases hlt : k < n1
    · obtain ⟨b1, o1, rfl, -, x1⟩ := sees_num g1.out.sees (i := k) (by rw [← e1.out]; exact hlt)
      obtain ⟨b2, o2, rfl, -, x2⟩ := sees_num g2.out.sees (i := k) (by rw [← e2.out]; exact hlt)
      have hki : (k : Int) < (n1 : Int) := by omega
      have hyes : Hid (l1.getD k 0 = l2.getD k 0 → ∀ j, j < k + 1 → l1.getD j 0 = l2.getD j 0) := Lib.hid (fun hx j hj => by
        by_cases e : j = k
        · subst e; exact hx
        · exact he.out j (by omega))
      have hno : Hid (¬ l1.getD k 0 = l2.getD k 0 → decide (l1 = l2) = false) := Lib.hid (fun hx => decide_eq_false (fun e => hx (by rw [e])))
      generalize l1.getD k 0 = v1 at *
      generalize l2.getD k 0 = v2 at *
      by_cases hv : v1 = v2
      · have hy := Lib.hid (hyes.out hv)
        subst hv
        have hvv : (v1 != v1) = false := by simp
        clear hyes hno he
        go_wp2
        go_quiet (fail)
        go_wp2
        go_roundw
        case rel => exact ⟨k + 1, m + nq, by omega, by go_num, hy, by simp [World.drewN, Nat.add_assoc]⟩
        case measure => simp [intOf]; omega
      · have hvv : (v1 != v2) = true := by simp [hv]
        rw [hno.out hv]
        clear hyes hno he hv
        go_wp2
        go_quiet (fail)
        go_wp2
        go_ret
        exact ⟨rfl, m + nq, by simp [World.drewN, Nat.add_assoc]⟩
    · obtain rfl : k = n1 := by omega
      have hki : ¬ (k : Int) < (k : Int) := by omega
      have hy : decide (l1 = l2) = true := decide_eq_true (by
        apply List.ext_getElem
        · rw [← e1.out, e2.out]
        · intro i a b
          have := he.out i (by rw [e1.out]; exact a)
          simpa [List.getD, a, b] using this)
      have hy' := Lib.hid hy
      clear hy he
      go_wp2
      go_ret
      exact ⟨by rw [hy'.out]; rfl, m, rfl⟩
end Go.Proofs.Ytbpaoiajfjkmfaa
namespace Go.Proofs.Ytbpaoiajfjkmfaa
open Go.RowKit
set_option linter.unusedVariables false
set_option linter.unusedSimpArgs false
def lvA : AlD := ⟨1, 1, ⟨#[102]⟩, ⟨#[97, 46, 103, 111]⟩, 9, ⟨#[120, 32, 45, 32, 121, 32, 60, 61, 32, 48]⟩⟩
def lvB : AlD := ⟨1, 1, ⟨#[102]⟩, ⟨#[97, 46, 103, 111]⟩, 3, ⟨#[120, 45, 121, 32, 60, 61, 48]⟩⟩
theorem lv_key : keyA lvA = keyA lvB := by
  unfold keyA lvA lvB
  have e : normS (codes ⟨#[120, 32, 45, 32, 121, 32, 60, 61, 32, 48]⟩) = normS (codes ⟨#[120, 45, 121, 32, 60, 61, 48]⟩) := by
    rw [show codes ⟨#[120, 32, 45, 32, 121, 32, 60, 61, 32, 48]⟩ = [120, 32, 45, 32, 121, 32, 60, 61, 32, 48] by rfl, show codes ⟨#[120, 45, 121, 32, 60, 61, 48]⟩ = [120, 45, 121, 32, 60, 61, 48] by rfl]
    simp [normS, normL, hw, partsL, wdB, letB]
  rw [e]
theorem lv_cmp1 : cmpA lvA lvB = 1 := by decide +kernel
theorem lv_cmp2 : cmpA lvB lvA = -1 := by decide +kernel
theorem lv_rank0 : rankA [lvA, lvB] 0 = 1 := by
  unfold rankA rankL
  have e : List.range [lvA, lvB].length = [0, 1] := rfl
  rw [e]
  have s0 : aheadB cmpA [lvA, lvB] al0 0 0 = false := ahead_self cmA _ _ _
  have s1 : aheadB cmpA [lvA, lvB] al0 1 0 = true := by unfold aheadB; rw [show [lvA, lvB].getD 1 al0 = lvB from rfl, show [lvA, lvB].getD 0 al0 = lvA from rfl, lv_cmp2]; rfl
  have k1 : keyA ([lvA, lvB].getD 1 al0) = keyA ([lvA, lvB].getD 0 al0) := lv_key.symm
  simp only [List.countP_cons, List.countP_nil, s0, s1, Bool.false_and, Bool.true_and]
  rw [decide_eq_true k1]
  rfl
theorem lv_rank1 : rankA [lvA, lvB] 1 = 0 := by
  unfold rankA rankL
  have e : List.range [lvA, lvB].length = [0, 1] := rfl
  rw [e]
  have s0 : aheadB cmpA [lvA, lvB] al0 1 1 = false := ahead_self cmA _ _ _
  have s1 : aheadB cmpA [lvA, lvB] al0 0 1 = false := by unfold aheadB; rw [show [lvA, lvB].getD 1 al0 = lvB from rfl, show [lvA, lvB].getD 0 al0 = lvA from rfl, lv_cmp1]; rfl
  simp only [List.countP_cons, List.countP_nil, s0, s1, Bool.false_and]
  rfl
theorem lv_ranks : (List.range 2).map (fun i => (rankA [lvA, lvB] i : Int)) = [1, 0] := by
  rw [show List.range 2 = [0, 1] from rfl]
  simp only [List.map_cons, List.map_nil, lv_rank0, lv_rank1]
  rfl
theorem lv_fing : (List.range 2).map (fun i => oneK (keyA ([lvA, lvB].getD i al0)) (rankA [lvA, lvB] i)) = [oneK (keyA lvA) 1, oneK (keyA lvA) 0] := by
  rw [show List.range 2 = [0, 1] from rfl]
  simp only [List.map_cons, List.map_nil, lv_rank0, lv_rank1]
  rw [show [lvA, lvB].getD 1 al0 = lvB from rfl, show [lvA, lvB].getD 0 al0 = lvA from rfl, lv_key]
theorem lv_ne (k : List Int) : (oneK k 1 != oneK k 0) = true := by
  rw [bne_iff_ne]
  intro h
  unfold oneK at h
  rw [leb_small (by omega), leb_small (by omega)] at h
  have := fstep_inj (t := fsum fstart k) (x := 1) (y := 0) (fsum_in fstart_in k) (by unfold InU; omega) (by unfold InU; omega) h
  omega
theorem lv_w : ∀ s ∈ [lvA, lvB], alW s := by
  intro s hs
  simp at hs
  rcases hs with rfl | rfl <;> (unfold alW; decide)
theorem lv_s : ∀ s ∈ [lvA, lvB], smallA s := by
  intro s hs
  simp at hs
  rcases hs with rfl | rfl <;> (unfold smallA; decide)
theorem lv_lit (w : World) (cs : Array Value) (h : cs.toList = [lvA, lvB].flatMap alC) : RO alC (w.alloc (.cells cs 24)) (some ⟨w.heap.size, 0, none⟩) 2 2 [lvA, lvB] := by
  refine ⟨rfl, Nat.le_refl _, by decide, ?_⟩
  rw [← h]
  exact seesC_lit w _ cs
set_option maxRecDepth 100000 in
set_option maxHeartbeats 4000000 in
theorem flives_any (w : World) : Calls Try.prog 8 #[] w (Gives (.bool true) w) := by
  have q1 := Lib.hid (fun (a : Option Addr) (W : World) (h : RO alC W a 2 2 [lvA, lvB]) => frankss_any [lvA, lvB] a 2 2 W h lv_w lv_s (by omega))
  have q2 := Lib.hid (fun (a : Option Addr) (W : World) (h : RO alC W a 2 2 [lvA, lvB]) => fofs_any [lvA, lvB] a 2 2 W h lv_w lv_s (by omega))
  have q3 : Hid (∀ W, Calls Try.prog 10 #[.agg #[.int .i64 1, .int .i64 1, .string ⟨#[102]⟩, .string ⟨#[97, 46, 103, 111]⟩, .int .i64 3, .string ⟨#[120, 45, 121, 32, 60, 61, 48]⟩], .int .i64 1] W (Gives (.int .u64 (oneA lvB 1)) W)) := Lib.hid (fun (W : World) => fone_any lvB (by decide) (by unfold smallA; decide) 1 (by decide) W)
  have q4 : Hid (∀ W, Calls Try.prog 10 #[.agg #[.int .i64 1, .int .i64 1, .string ⟨#[102]⟩, .string ⟨#[97, 46, 103, 111]⟩, .int .i64 9, .string ⟨#[120, 32, 45, 32, 121, 32, 60, 61, 32, 48]⟩], .int .i64 0] W (Gives (.int .u64 (oneA lvA 0)) W)) := Lib.hid (fun (W : World) => fone_any lvA (by decide) (by unfold smallA; decide) 0 (by decide) W)
  rw [lv_ranks] at q1
  rw [lv_fing] at q2
  have e3 : oneA lvB 1 = oneK (keyA lvA) 1 := by unfold oneA; rw [lv_key]; rfl
  have e4 : oneA lvA 0 = oneK (keyA lvA) 0 := rfl
  rw [e3] at q3
  rw [e4] at q4
  have hne := lv_ne (keyA lvA)
  clear e3 e4
  generalize oneK (keyA lvA) 1 = R1 at *
  generalize oneK (keyA lvA) 0 = R0 at *
  obtain ⟨W1, hW1⟩ : ∃ W1, W1 = ((w.alloc (.cells #[.int .i64 1, .int .i64 1, .string ⟨#[102]⟩, .string ⟨#[97, 46, 103, 111]⟩, .int .i64 9, .string ⟨#[120, 32, 45, 32, 121, 32, 60, 61, 32, 48]⟩] 24)).alloc (.cells #[.int .i64 1, .int .i64 1, .string ⟨#[102]⟩, .string ⟨#[97, 46, 103, 111]⟩, .int .i64 3, .string ⟨#[120, 45, 121, 32, 60, 61, 48]⟩] 24)).alloc (.cells #[.int .i64 1, .int .i64 1, .string ⟨#[102]⟩, .string ⟨#[97, 46, 103, 111]⟩, .int .i64 9, .string ⟨#[120, 32, 45, 32, 121, 32, 60, 61, 32, 48]⟩, .int .i64 1, .int .i64 1, .string ⟨#[102]⟩, .string ⟨#[97, 46, 103, 111]⟩, .int .i64 3, .string ⟨#[120, 45, 121, 32, 60, 61, 48]⟩] 24) := ⟨_, rfl⟩
  have B1 : Hid (Below w.heap.size w W1) := Lib.hid (by rw [hW1]; exact (box2_below _ _ _ _ _).alloc (by simp; omega) _)
  have ZA : Hid (Holds W1 w.heap.size 24 #[.int .i64 1, .int .i64 1, .string ⟨#[102]⟩, .string ⟨#[97, 46, 103, 111]⟩, .int .i64 9, .string ⟨#[120, 32, 45, 32, 121, 32, 60, 61, 32, 48]⟩]) := Lib.hid (by rw [hW1]; exact ((Holds.new w _ _).alloc _).alloc _)
  have ZB : Hid (Holds W1 (w.heap.size + 1) 24 #[.int .i64 1, .int .i64 1, .string ⟨#[102]⟩, .string ⟨#[97, 46, 103, 111]⟩, .int .i64 3, .string ⟨#[120, 45, 121, 32, 60, 61, 48]⟩]) := Lib.hid (by rw [hW1]; have q := (Holds.new (w.alloc (.cells #[.int .i64 1, .int .i64 1, .string ⟨#[102]⟩, .string ⟨#[97, 46, 103, 111]⟩, .int .i64 9, .string ⟨#[120, 32, 45, 32, 121, 32, 60, 61, 32, 48]⟩] 24)) 24 #[.int .i64 1, .int .i64 1, .string ⟨#[102]⟩, .string ⟨#[97, 46, 103, 111]⟩, .int .i64 3, .string ⟨#[120, 45, 121, 32, 60, 61, 48]⟩]).alloc (.cells #[.int .i64 1, .int .i64 1, .string ⟨#[102]⟩, .string ⟨#[97, 46, 103, 111]⟩, .int .i64 9, .string ⟨#[120, 32, 45, 32, 121, 32, 60, 61, 32, 48]⟩, .int .i64 1, .int .i64 1, .string ⟨#[102]⟩, .string ⟨#[97, 46, 103, 111]⟩, .int .i64 3, .string ⟨#[120, 45, 121, 32, 60, 61, 48]⟩] 24); simpa using q)
  have R1' : Hid (RO alC W1 (some ⟨w.heap.size + 1 + 1, 0, none⟩) 2 2 [lvA, lvB]) := Lib.hid (by rw [hW1]; have q := lv_lit ((w.alloc (.cells #[.int .i64 1, .int .i64 1, .string ⟨#[102]⟩, .string ⟨#[97, 46, 103, 111]⟩, .int .i64 9, .string ⟨#[120, 32, 45, 32, 121, 32, 60, 61, 32, 48]⟩] 24)).alloc (.cells #[.int .i64 1, .int .i64 1, .string ⟨#[102]⟩, .string ⟨#[97, 46, 103, 111]⟩, .int .i64 3, .string ⟨#[120, 45, 121, 32, 60, 61, 48]⟩] 24)) #[.int .i64 1, .int .i64 1, .string ⟨#[102]⟩, .string ⟨#[97, 46, 103, 111]⟩, .int .i64 9, .string ⟨#[120, 32, 45, 32, 121, 32, 60, 61, 32, 48]⟩, .int .i64 1, .int .i64 1, .string ⟨#[102]⟩, .string ⟨#[97, 46, 103, 111]⟩, .int .i64 3, .string ⟨#[120, 45, 121, 32, 60, 61, 48]⟩] rfl; simpa using q)
  have hW1' := Lib.hid hW1
  clear hW1
  go_enter Try.func8, Try.ntmps8
  go_wp2_with fail
  rw [← hW1'.out]
  with_reducible refine (q1.out _ _ R1'.out).mono ?_
  rintro e w2 h2
  obtain ⟨a2, c2, rfl, s2, b2⟩ := h2.open 2 rfl
  clear h2 q1 R1' hW1'
  replace ZA := Lib.hid (ZA.out.below b2 ZA.out.lt)
  replace ZB := Lib.hid (ZB.out.below b2 ZB.out.lt)
  replace B1 := Lib.hid (B1.out.trans (b2.mono B1.out.size))
  have xa0 := ZA.out.cell 0
  have xa1 := ZA.out.cell 1
  have xa2 := ZA.out.cell 2
  have xa3 := ZA.out.cell 3
  have xa4 := ZA.out.cell 4
  have xa5 := ZA.out.cell 5
  have xb0 := ZB.out.cell 0
  have xb1 := ZB.out.cell 1
  have xb2 := ZB.out.cell 2
  have xb3 := ZB.out.cell 3
  have xb4 := ZB.out.cell 4
  have xb5 := ZB.out.cell 5
  simp at xa0 xa1 xa2 xa3 xa4 xa5 xb0 xb1 xb2 xb3 xb4 xb5
  have s2' := Lib.hid s2
  have R2' := Lib.hid (lv_lit w2 #[.int .i64 1, .int .i64 1, .string ⟨#[102]⟩, .string ⟨#[97, 46, 103, 111]⟩, .int .i64 9, .string ⟨#[120, 32, 45, 32, 121, 32, 60, 61, 32, 48]⟩, .int .i64 1, .int .i64 1, .string ⟨#[102]⟩, .string ⟨#[97, 46, 103, 111]⟩, .int .i64 3, .string ⟨#[120, 45, 121, 32, 60, 61, 48]⟩] rfl)
  have B2 := Lib.hid (box_below w2 #[.int .i64 1, .int .i64 1, .string ⟨#[102]⟩, .string ⟨#[97, 46, 103, 111]⟩, .int .i64 9, .string ⟨#[120, 32, 45, 32, 121, 32, 60, 61, 32, 48]⟩, .int .i64 1, .int .i64 1, .string ⟨#[102]⟩, .string ⟨#[97, 46, 103, 111]⟩, .int .i64 3, .string ⟨#[120, 45, 121, 32, 60, 61, 48]⟩] 24)
  clear s2 b2
  go_wp2_with fail
  with_reducible refine (q2.out _ _ R2'.out).mono ?_
  rintro e w3 h3
  obtain ⟨a3, c3, rfl, s3, b3⟩ := h3.open 2 rfl
  have b3' := Lib.hid (B2.out.trans (b3.mono B2.out.size))
  clear h3 q2 R2' xa0 xa1 xa2 xa3 xa4 xa5 xb0 xb1 xb2 xb3 xb4 xb5 B2 b3
  replace ZA := Lib.hid (ZA.out.below b3'.out ZA.out.lt)
  replace ZB := Lib.hid (ZB.out.below b3'.out ZB.out.lt)
  replace B1 := Lib.hid (B1.out.trans (b3'.out.mono B1.out.size))
  have s4 := s2'.out.below b3'.out
  rcases s4 with h | ⟨g4, o4, rfl, l4, c4⟩
  · cases h
  rcases s3 with h | ⟨g5, o5, rfl, l5, c5⟩
  · cases h
  have l4' : g4 < w3.heap.size := Nat.lt_of_lt_of_le l4 b3'.out.size
  have p0 : ∀ V, Below w3.heap.size w3 V → V.cell? ⟨g4, o4, none⟩ = some (.int .i64 1) := fun V hV => (hV.cell (p := ⟨g4, o4, none⟩) l4').trans (c4 0 (by decide))
  have p1 : ∀ V, Below w3.heap.size w3 V → V.cell? ⟨g4, o4 + 1, none⟩ = some (.int .i64 0) := fun V hV => (hV.cell (p := ⟨g4, o4 + 1, none⟩) l4').trans (c4 1 (by decide))
  have r0 : ∀ V, Below w3.heap.size w3 V → V.cell? ⟨g5, o5, none⟩ = some (.int .u64 R1) := fun V hV => (hV.cell (p := ⟨g5, o5, none⟩) l5).trans (c5 0 (by simp))
  have r1 : ∀ V, Below w3.heap.size w3 V → V.cell? ⟨g5, o5 + 1, none⟩ = some (.int .u64 R0) := fun V hV => (hV.cell (p := ⟨g5, o5 + 1, none⟩) l5).trans (c5 1 (by simp))
  have yA0 : ∀ V, Below w3.heap.size w3 V → V.cell? ⟨w.heap.size, 0, none⟩ = some (.int .i64 1) := fun V hV => (ZA.out.below hV ZA.out.lt).cell 0
  have yA1 : ∀ V, Below w3.heap.size w3 V → V.cell? ⟨w.heap.size, 1, none⟩ = some (.int .i64 1) := fun V hV => (ZA.out.below hV ZA.out.lt).cell 1
  have yA2 : ∀ V, Below w3.heap.size w3 V → V.cell? ⟨w.heap.size, 2, none⟩ = some (.string ⟨#[102]⟩) := fun V hV => (ZA.out.below hV ZA.out.lt).cell 2
  have yA3 : ∀ V, Below w3.heap.size w3 V → V.cell? ⟨w.heap.size, 3, none⟩ = some (.string ⟨#[97, 46, 103, 111]⟩) := fun V hV => (ZA.out.below hV ZA.out.lt).cell 3
  have yA4 : ∀ V, Below w3.heap.size w3 V → V.cell? ⟨w.heap.size, 4, none⟩ = some (.int .i64 9) := fun V hV => (ZA.out.below hV ZA.out.lt).cell 4
  have yA5 : ∀ V, Below w3.heap.size w3 V → V.cell? ⟨w.heap.size, 5, none⟩ = some (.string ⟨#[120, 32, 45, 32, 121, 32, 60, 61, 32, 48]⟩) := fun V hV => (ZA.out.below hV ZA.out.lt).cell 5
  have yB0 : ∀ V, Below w3.heap.size w3 V → V.cell? ⟨w.heap.size + 1, 0, none⟩ = some (.int .i64 1) := fun V hV => (ZB.out.below hV ZB.out.lt).cell 0
  have yB1 : ∀ V, Below w3.heap.size w3 V → V.cell? ⟨w.heap.size + 1, 1, none⟩ = some (.int .i64 1) := fun V hV => (ZB.out.below hV ZB.out.lt).cell 1
  have yB2 : ∀ V, Below w3.heap.size w3 V → V.cell? ⟨w.heap.size + 1, 2, none⟩ = some (.string ⟨#[102]⟩) := fun V hV => (ZB.out.below hV ZB.out.lt).cell 2
  have yB3 : ∀ V, Below w3.heap.size w3 V → V.cell? ⟨w.heap.size + 1, 3, none⟩ = some (.string ⟨#[97, 46, 103, 111]⟩) := fun V hV => (ZB.out.below hV ZB.out.lt).cell 3
  have yB4 : ∀ V, Below w3.heap.size w3 V → V.cell? ⟨w.heap.size + 1, 4, none⟩ = some (.int .i64 3) := fun V hV => (ZB.out.below hV ZB.out.lt).cell 4
  have yB5 : ∀ V, Below w3.heap.size w3 V → V.cell? ⟨w.heap.size + 1, 5, none⟩ = some (.string ⟨#[120, 45, 121, 32, 60, 61, 48]⟩) := fun V hV => (ZB.out.below hV ZB.out.lt).cell 5
  clear c4 c5 s2' b3' ZA ZB l4 l5 l4'
  go_wp2
  refine wp_drawn_on (fun V => Below w3.heap.size w3 V) (by kernel_rfl) ((Below.refl _ _).drew) (fun hHeld => ?_)
  refine wpAnyH_take (i := 0) (oi := { dst := some 17, op := Go.Op.move (Go.Operand.tmp 3), type := 27, pos := "law.go:21", after := #[], guard := none }) (v := ?v1) rfl (by kernel_rfl) (by kernel_rfl) (by kernel_rfl) (fun _ _ _ h => h) (Or.inl ⟨by kernel_rfl, ?h1⟩) (by assumption) ?r1
  case h1 => (intro w hSw; (try dsimp only at hSw); go_simp; try with_reducible rfl)
  try simp only [Act.put, List.setIfInBounds_toArray, List.set_cons_zero, List.set_cons_succ]
  refine wpAnyH_take (i := 1) (oi := { dst := some 18, op := Go.Op.call { callee := Go.Callee.builtin Go.Builtin.len, args := #[Go.Operand.tmp 17], argTypes := #[27] }, type := 3, pos := "law.go:21", after := #[{ on := 0, ground := Go.Ground.data }], guard := none }) (v := ?v2) rfl (by kernel_rfl) (by kernel_rfl) (by kernel_rfl) (fun _ _ _ h => h) (Or.inl ⟨by kernel_rfl, ?h2⟩) (by assumption) ?r2
  case h2 => (intro w hSw; (try dsimp only at hSw); go_simp; try with_reducible rfl)
  try simp only [Act.put, List.setIfInBounds_toArray, List.set_cons_zero, List.set_cons_succ]
  refine wpAnyH_take (i := 2) (oi := { dst := some 19, op := Go.Op.binOp Go.BinOp.eql 3 (Go.Operand.tmp 18) (Go.Operand.const (Go.Value.int Go.IntKind.i64 2)) 3, type := 4, pos := "law.go:21", after := #[{ on := 1, ground := Go.Ground.data }], guard := none }) (v := ?v3) rfl (by kernel_rfl) (by kernel_rfl) (by kernel_rfl) (fun _ _ _ h => h) (Or.inl ⟨by kernel_rfl, ?h3⟩) (by assumption) ?r3
  case h3 => (intro w hSw; (try dsimp only at hSw); go_simp; try with_reducible rfl)
  try simp only [Act.put, List.setIfInBounds_toArray, List.set_cons_zero, List.set_cons_succ]
  refine wpAnyH_take (i := 3) (oi := { dst := some 20, op := Go.Op.move (Go.Operand.tmp 19), type := 4, pos := "law.go:21", after := #[{ on := 2, ground := Go.Ground.data }], guard := none }) (v := ?v4) rfl (by kernel_rfl) (by kernel_rfl) (by kernel_rfl) (fun _ _ _ h => h) (Or.inl ⟨by kernel_rfl, ?h4⟩) (by assumption) ?r4
  case h4 => (intro w hSw; (try dsimp only at hSw); go_simp; try with_reducible rfl)
  try simp only [Act.put, List.setIfInBounds_toArray, List.set_cons_zero, List.set_cons_succ]
  refine wpAnyH_take (i := 4) (oi := { dst := some 21, op := Go.Op.move (Go.Operand.tmp 3), type := 27, pos := "law.go:21", after := #[{ on := 3, ground := Go.Ground.guard }], guard := some (3, true) }) (v := ?v5) rfl (by kernel_rfl) (by kernel_rfl) (by kernel_rfl) (fun _ _ _ h => h) (Or.inl ⟨by kernel_rfl, ?h5⟩) (by assumption) ?r5
  case h5 => (intro w hSw; (try dsimp only at hSw); go_simp; try with_reducible rfl)
  try simp only [Act.put, List.setIfInBounds_toArray, List.set_cons_zero, List.set_cons_succ]
  refine wpAnyH_take (i := 5) (oi := { dst := some 22, op := Go.Op.indexAddr 27 (Go.Operand.tmp 21) (Go.Operand.const (Go.Value.int Go.IntKind.i64 0)), type := 0, pos := "law.go:21", after := #[{ on := 4, ground := Go.Ground.data }, { on := 3, ground := Go.Ground.guard }], guard := some (3, true) }) (v := ?v6) rfl (by kernel_rfl) (by kernel_rfl) (by kernel_rfl) (fun _ _ _ h => h) (Or.inl ⟨by kernel_rfl, ?h6⟩) (by assumption) ?r6
  case h6 => (intro w hSw; (try dsimp only at hSw); go_simp; try with_reducible rfl)
  try simp only [Act.put, List.setIfInBounds_toArray, List.set_cons_zero, List.set_cons_succ]
  refine wpAnyH_take (i := 6) (oi := { dst := some 23, op := Go.Op.load 3 (Go.Operand.tmp 22), type := 3, pos := "law.go:21", after := #[{ on := 5, ground := Go.Ground.data }, { on := 3, ground := Go.Ground.guard }], guard := some (3, true) }) (v := ?v7) rfl (by kernel_rfl) (by kernel_rfl) (by kernel_rfl) (fun _ _ _ h => h) (Or.inl ⟨by kernel_rfl, ?h7⟩) (by assumption) ?r7
  case h7 => (intro w hSw; (try dsimp only at hSw); go_simp; try with_reducible rfl)
  try simp only [Act.put, List.setIfInBounds_toArray, List.set_cons_zero, List.set_cons_succ]
  refine wpAnyH_take (i := 7) (oi := { dst := some 24, op := Go.Op.binOp Go.BinOp.eql 3 (Go.Operand.tmp 23) (Go.Operand.const (Go.Value.int Go.IntKind.i64 1)) 3, type := 4, pos := "law.go:21", after := #[{ on := 6, ground := Go.Ground.data }, { on := 3, ground := Go.Ground.guard }], guard := some (3, true) }) (v := ?v8) rfl (by kernel_rfl) (by kernel_rfl) (by kernel_rfl) (fun _ _ _ h => h) (Or.inl ⟨by kernel_rfl, ?h8⟩) (by assumption) ?r8
  case h8 => (intro w hSw; (try dsimp only at hSw); go_simp; try with_reducible rfl)
  try simp only [Act.put, List.setIfInBounds_toArray, List.set_cons_zero, List.set_cons_succ]
  refine wpAnyH_take (i := 8) (oi := { dst := some 25, op := Go.Op.pick (Go.Operand.tmp 20) (Go.Operand.tmp 24) (Go.Operand.const (Go.Value.bool false)), type := 4, pos := "law.go:21", after := #[{ on := 3, ground := Go.Ground.data }, { on := 7, ground := Go.Ground.data }], guard := none }) (v := ?v9) rfl (by kernel_rfl) (by kernel_rfl) (by kernel_rfl) (fun _ _ _ h => h) (Or.inl ⟨by kernel_rfl, ?h9⟩) (by assumption) ?r9
  case h9 => (intro w hSw; (try dsimp only at hSw); go_simp; try with_reducible rfl)
  try simp only [Act.put, List.setIfInBounds_toArray, List.set_cons_zero, List.set_cons_succ]
  refine wpAnyH_take (i := 9) (oi := { dst := some 26, op := Go.Op.move (Go.Operand.tmp 25), type := 4, pos := "law.go:21", after := #[{ on := 8, ground := Go.Ground.data }, { on := 3, ground := Go.Ground.chain }], guard := none }) (v := ?v10) rfl (by kernel_rfl) (by kernel_rfl) (by kernel_rfl) (fun _ _ _ h => h) (Or.inl ⟨by kernel_rfl, ?h10⟩) (by assumption) ?r10
  case h10 => (intro w hSw; (try dsimp only at hSw); go_simp; try with_reducible rfl)
  try simp only [Act.put, List.setIfInBounds_toArray, List.set_cons_zero, List.set_cons_succ]
  refine wpAnyH_take (i := 10) (oi := { dst := some 27, op := Go.Op.move (Go.Operand.tmp 3), type := 27, pos := "law.go:21", after := #[{ on := 9, ground := Go.Ground.guard }], guard := some (9, true) }) (v := ?v11) rfl (by kernel_rfl) (by kernel_rfl) (by kernel_rfl) (fun _ _ _ h => h) (Or.inl ⟨by kernel_rfl, ?h11⟩) (by assumption) ?r11
  case h11 => (intro w hSw; (try dsimp only at hSw); go_simp; try with_reducible rfl)
  try simp only [Act.put, List.setIfInBounds_toArray, List.set_cons_zero, List.set_cons_succ]
  refine wpAnyH_take (i := 11) (oi := { dst := some 28, op := Go.Op.indexAddr 27 (Go.Operand.tmp 27) (Go.Operand.const (Go.Value.int Go.IntKind.i64 1)), type := 0, pos := "law.go:21", after := #[{ on := 10, ground := Go.Ground.data }, { on := 9, ground := Go.Ground.guard }], guard := some (9, true) }) (v := ?v12) rfl (by kernel_rfl) (by kernel_rfl) (by kernel_rfl) (fun _ _ _ h => h) (Or.inl ⟨by kernel_rfl, ?h12⟩) (by assumption) ?r12
  case h12 => (intro w hSw; (try dsimp only at hSw); go_simp; try with_reducible rfl)
  try simp only [Act.put, List.setIfInBounds_toArray, List.set_cons_zero, List.set_cons_succ]
  refine wpAnyH_take (i := 12) (oi := { dst := some 29, op := Go.Op.load 3 (Go.Operand.tmp 28), type := 3, pos := "law.go:21", after := #[{ on := 11, ground := Go.Ground.data }, { on := 9, ground := Go.Ground.guard }], guard := some (9, true) }) (v := ?v13) rfl (by kernel_rfl) (by kernel_rfl) (by kernel_rfl) (fun _ _ _ h => h) (Or.inl ⟨by kernel_rfl, ?h13⟩) (by assumption) ?r13
  case h13 => (intro w hSw; (try dsimp only at hSw); go_simp; try with_reducible rfl)
  try simp only [Act.put, List.setIfInBounds_toArray, List.set_cons_zero, List.set_cons_succ]
  refine wpAnyH_take (i := 13) (oi := { dst := some 30, op := Go.Op.binOp Go.BinOp.eql 3 (Go.Operand.tmp 29) (Go.Operand.const (Go.Value.int Go.IntKind.i64 0)) 3, type := 4, pos := "law.go:21", after := #[{ on := 12, ground := Go.Ground.data }, { on := 9, ground := Go.Ground.guard }], guard := some (9, true) }) (v := ?v14) rfl (by kernel_rfl) (by kernel_rfl) (by kernel_rfl) (fun _ _ _ h => h) (Or.inl ⟨by kernel_rfl, ?h14⟩) (by assumption) ?r14
  case h14 => (intro w hSw; (try dsimp only at hSw); go_simp; try with_reducible rfl)
  try simp only [Act.put, List.setIfInBounds_toArray, List.set_cons_zero, List.set_cons_succ]
  refine wpAnyH_take (i := 14) (oi := { dst := some 31, op := Go.Op.pick (Go.Operand.tmp 26) (Go.Operand.tmp 30) (Go.Operand.const (Go.Value.bool false)), type := 4, pos := "law.go:21", after := #[{ on := 9, ground := Go.Ground.data }, { on := 13, ground := Go.Ground.data }], guard := none }) (v := ?v15) rfl (by kernel_rfl) (by kernel_rfl) (by kernel_rfl) (fun _ _ _ h => h) (Or.inl ⟨by kernel_rfl, ?h15⟩) (by assumption) ?r15
  case h15 => (intro w hSw; (try dsimp only at hSw); go_simp; try with_reducible rfl)
  try simp only [Act.put, List.setIfInBounds_toArray, List.set_cons_zero, List.set_cons_succ]
  refine wpAnyH_take (i := 15) (oi := { dst := some 32, op := Go.Op.move (Go.Operand.tmp 31), type := 4, pos := "law.go:21", after := #[{ on := 14, ground := Go.Ground.data }, { on := 9, ground := Go.Ground.chain }], guard := none }) (v := ?v16) rfl (by kernel_rfl) (by kernel_rfl) (by kernel_rfl) (fun _ _ _ h => h) (Or.inl ⟨by kernel_rfl, ?h16⟩) (by assumption) ?r16
  case h16 => (intro w hSw; (try dsimp only at hSw); go_simp; try with_reducible rfl)
  try simp only [Act.put, List.setIfInBounds_toArray, List.set_cons_zero, List.set_cons_succ]
  refine wpAnyH_take (i := 16) (oi := { dst := some 33, op := Go.Op.move (Go.Operand.tmp 4), type := 36, pos := "law.go:21", after := #[{ on := 15, ground := Go.Ground.guard }], guard := some (15, true) }) (v := ?v17) rfl (by kernel_rfl) (by kernel_rfl) (by kernel_rfl) (fun _ _ _ h => h) (Or.inl ⟨by kernel_rfl, ?h17⟩) (by assumption) ?r17
  case h17 => (intro w hSw; (try dsimp only at hSw); go_simp; try with_reducible rfl)
  try simp only [Act.put, List.setIfInBounds_toArray, List.set_cons_zero, List.set_cons_succ]
  refine wpAnyH_take (i := 17) (oi := { dst := some 34, op := Go.Op.call { callee := Go.Callee.builtin Go.Builtin.len, args := #[Go.Operand.tmp 33], argTypes := #[36] }, type := 3, pos := "law.go:21", after := #[{ on := 16, ground := Go.Ground.data }, { on := 15, ground := Go.Ground.guard }], guard := some (15, true) }) (v := ?v18) rfl (by kernel_rfl) (by kernel_rfl) (by kernel_rfl) (fun _ _ _ h => h) (Or.inl ⟨by kernel_rfl, ?h18⟩) (by assumption) ?r18
  case h18 => (intro w hSw; (try dsimp only at hSw); go_simp; try with_reducible rfl)
  try simp only [Act.put, List.setIfInBounds_toArray, List.set_cons_zero, List.set_cons_succ]
  refine wpAnyH_take (i := 18) (oi := { dst := some 35, op := Go.Op.binOp Go.BinOp.eql 3 (Go.Operand.tmp 34) (Go.Operand.const (Go.Value.int Go.IntKind.i64 2)) 3, type := 4, pos := "law.go:21", after := #[{ on := 17, ground := Go.Ground.data }, { on := 15, ground := Go.Ground.guard }], guard := some (15, true) }) (v := ?v19) rfl (by kernel_rfl) (by kernel_rfl) (by kernel_rfl) (fun _ _ _ h => h) (Or.inl ⟨by kernel_rfl, ?h19⟩) (by assumption) ?r19
  case h19 => (intro w hSw; (try dsimp only at hSw); go_simp; try with_reducible rfl)
  try simp only [Act.put, List.setIfInBounds_toArray, List.set_cons_zero, List.set_cons_succ]
  refine wpAnyH_take (i := 19) (oi := { dst := some 36, op := Go.Op.pick (Go.Operand.tmp 32) (Go.Operand.tmp 35) (Go.Operand.const (Go.Value.bool false)), type := 4, pos := "law.go:21", after := #[{ on := 15, ground := Go.Ground.data }, { on := 18, ground := Go.Ground.data }], guard := none }) (v := ?v20) rfl (by kernel_rfl) (by kernel_rfl) (by kernel_rfl) (fun _ _ _ h => h) (Or.inl ⟨by kernel_rfl, ?h20⟩) (by assumption) ?r20
  case h20 => (intro w hSw; (try dsimp only at hSw); go_simp; try with_reducible rfl)
  try simp only [Act.put, List.setIfInBounds_toArray, List.set_cons_zero, List.set_cons_succ]
  refine wpAnyH_take (i := 20) (oi := { dst := some 37, op := Go.Op.move (Go.Operand.tmp 36), type := 4, pos := "law.go:21", after := #[{ on := 19, ground := Go.Ground.data }, { on := 15, ground := Go.Ground.chain }], guard := none }) (v := ?v21) rfl (by kernel_rfl) (by kernel_rfl) (by kernel_rfl) (fun _ _ _ h => h) (Or.inl ⟨by kernel_rfl, ?h21⟩) (by assumption) ?r21
  case h21 => (intro w hSw; (try dsimp only at hSw); go_simp; try with_reducible rfl)
  try simp only [Act.put, List.setIfInBounds_toArray, List.set_cons_zero, List.set_cons_succ]
  refine wpAnyH_take (i := 21) (oi := { dst := some 38, op := Go.Op.move (Go.Operand.tmp 4), type := 36, pos := "law.go:21", after := #[{ on := 20, ground := Go.Ground.guard }], guard := some (20, true) }) (v := ?v22) rfl (by kernel_rfl) (by kernel_rfl) (by kernel_rfl) (fun _ _ _ h => h) (Or.inl ⟨by kernel_rfl, ?h22⟩) (by assumption) ?r22
  case h22 => (intro w hSw; (try dsimp only at hSw); go_simp; try with_reducible rfl)
  try simp only [Act.put, List.setIfInBounds_toArray, List.set_cons_zero, List.set_cons_succ]
  refine wpAnyH_take (i := 22) (oi := { dst := some 39, op := Go.Op.indexAddr 36 (Go.Operand.tmp 38) (Go.Operand.const (Go.Value.int Go.IntKind.i64 0)), type := 0, pos := "law.go:21", after := #[{ on := 21, ground := Go.Ground.data }, { on := 20, ground := Go.Ground.guard }], guard := some (20, true) }) (v := ?v23) rfl (by kernel_rfl) (by kernel_rfl) (by kernel_rfl) (fun _ _ _ h => h) (Or.inl ⟨by kernel_rfl, ?h23⟩) (by assumption) ?r23
  case h23 => (intro w hSw; (try dsimp only at hSw); go_simp; try with_reducible rfl)
  try simp only [Act.put, List.setIfInBounds_toArray, List.set_cons_zero, List.set_cons_succ]
  refine wpAnyH_take (i := 23) (oi := { dst := some 40, op := Go.Op.load 29 (Go.Operand.tmp 39), type := 29, pos := "law.go:21", after := #[{ on := 22, ground := Go.Ground.data }, { on := 20, ground := Go.Ground.guard }], guard := some (20, true) }) (v := ?v24) rfl (by kernel_rfl) (by kernel_rfl) (by kernel_rfl) (fun _ _ _ h => h) (Or.inl ⟨by kernel_rfl, ?h24⟩) (by assumption) ?r24
  case h24 => (intro w hSw; (try dsimp only at hSw); go_simp; try with_reducible rfl)
  try simp only [Act.put, List.setIfInBounds_toArray, List.set_cons_zero, List.set_cons_succ]
  refine wpAnyH_take (i := 24) (oi := { dst := some 41, op := Go.Op.load 24 (Go.Operand.tmp 2), type := 24, pos := "law.go:21", after := #[{ on := 20, ground := Go.Ground.guard }], guard := some (20, true) }) (v := ?v25) rfl (by kernel_rfl) (by kernel_rfl) (by kernel_rfl) (fun _ _ _ h => h) (Or.inl ⟨by kernel_rfl, ?h25⟩) (by assumption) ?r25
  case h25 => (intro w hSw; (try dsimp only at hSw); go_simp; try with_reducible rfl)
  try simp only [Act.put, List.setIfInBounds_toArray, List.set_cons_zero, List.set_cons_succ]
  refine wpAnyH_ready (rs := [25]) (by kernel_rfl) (by simp) ?_
  refine AllReadyH.cons (o := { dst := some 42, op := Go.Op.call { callee := Go.Callee.value (Go.Operand.func 10), args := #[Go.Operand.tmp 41, Go.Operand.const (Go.Value.int Go.IntKind.i64 1)], argTypes := #[24, 3] }, type := 29, pos := "law.go:21", after := #[{ on := 24, ground := Go.Ground.data }, { on := 20, ground := Go.Ground.chain }, { on := 20, ground := Go.Ground.guard }], guard := some (20, true) }) rfl (fun K hK => ?_) AllReadyH.nil
  go_simp
  with_reducible refine (q3.out _).mono ?_
  rintro e w6 ⟨rfl, b6⟩
  go_simp
  refine hK.out _ _ (hHeld.trans (b6.mono hHeld.size)) (fun hHeld => ?_)
  clear hK K
  try simp only [Act.put, List.setIfInBounds_toArray, List.set_cons_zero, List.set_cons_succ]
  refine wpAnyH_take (i := 26) (oi := { dst := some 43, op := Go.Op.binOp Go.BinOp.eql 29 (Go.Operand.tmp 40) (Go.Operand.tmp 42) 29, type := 4, pos := "law.go:21", after := #[{ on := 23, ground := Go.Ground.data }, { on := 25, ground := Go.Ground.data }, { on := 20, ground := Go.Ground.guard }], guard := some (20, true) }) (v := ?v26) rfl (by kernel_rfl) (by kernel_rfl) (by kernel_rfl) (fun _ _ _ h => h) (Or.inl ⟨by kernel_rfl, ?h26⟩) (by assumption) ?r26
  case h26 => (intro w hSw; (try dsimp only at hSw); go_simp; try with_reducible rfl)
  try simp only [Act.put, List.setIfInBounds_toArray, List.set_cons_zero, List.set_cons_succ]
  refine wpAnyH_take (i := 27) (oi := { dst := some 44, op := Go.Op.pick (Go.Operand.tmp 37) (Go.Operand.tmp 43) (Go.Operand.const (Go.Value.bool false)), type := 4, pos := "law.go:21", after := #[{ on := 20, ground := Go.Ground.data }, { on := 26, ground := Go.Ground.data }], guard := none }) (v := ?v27) rfl (by kernel_rfl) (by kernel_rfl) (by kernel_rfl) (fun _ _ _ h => h) (Or.inl ⟨by kernel_rfl, ?h27⟩) (by assumption) ?r27
  case h27 => (intro w hSw; (try dsimp only at hSw); go_simp; try with_reducible rfl)
  try simp only [Act.put, List.setIfInBounds_toArray, List.set_cons_zero, List.set_cons_succ]
  refine wpAnyH_take (i := 28) (oi := { dst := some 45, op := Go.Op.move (Go.Operand.tmp 44), type := 4, pos := "law.go:21", after := #[{ on := 27, ground := Go.Ground.data }, { on := 25, ground := Go.Ground.chain }], guard := none }) (v := ?v28) rfl (by kernel_rfl) (by kernel_rfl) (by kernel_rfl) (fun _ _ _ h => h) (Or.inl ⟨by kernel_rfl, ?h28⟩) (by assumption) ?r28
  case h28 => (intro w hSw; (try dsimp only at hSw); go_simp; try with_reducible rfl)
  try simp only [Act.put, List.setIfInBounds_toArray, List.set_cons_zero, List.set_cons_succ]
  refine wpAnyH_take (i := 29) (oi := { dst := some 46, op := Go.Op.move (Go.Operand.tmp 4), type := 36, pos := "law.go:21", after := #[{ on := 28, ground := Go.Ground.guard }], guard := some (28, true) }) (v := ?v29) rfl (by kernel_rfl) (by kernel_rfl) (by kernel_rfl) (fun _ _ _ h => h) (Or.inl ⟨by kernel_rfl, ?h29⟩) (by assumption) ?r29
  case h29 => (intro w hSw; (try dsimp only at hSw); go_simp; try with_reducible rfl)
  try simp only [Act.put, List.setIfInBounds_toArray, List.set_cons_zero, List.set_cons_succ]
  refine wpAnyH_take (i := 30) (oi := { dst := some 47, op := Go.Op.indexAddr 36 (Go.Operand.tmp 46) (Go.Operand.const (Go.Value.int Go.IntKind.i64 1)), type := 0, pos := "law.go:21", after := #[{ on := 29, ground := Go.Ground.data }, { on := 28, ground := Go.Ground.guard }], guard := some (28, true) }) (v := ?v30) rfl (by kernel_rfl) (by kernel_rfl) (by kernel_rfl) (fun _ _ _ h => h) (Or.inl ⟨by kernel_rfl, ?h30⟩) (by assumption) ?r30
  case h30 => (intro w hSw; (try dsimp only at hSw); go_simp; try with_reducible rfl)
  try simp only [Act.put, List.setIfInBounds_toArray, List.set_cons_zero, List.set_cons_succ]
  refine wpAnyH_take (i := 31) (oi := { dst := some 48, op := Go.Op.load 29 (Go.Operand.tmp 47), type := 29, pos := "law.go:21", after := #[{ on := 30, ground := Go.Ground.data }, { on := 28, ground := Go.Ground.guard }], guard := some (28, true) }) (v := ?v31) rfl (by kernel_rfl) (by kernel_rfl) (by kernel_rfl) (fun _ _ _ h => h) (Or.inl ⟨by kernel_rfl, ?h31⟩) (by assumption) ?r31
  case h31 => (intro w hSw; (try dsimp only at hSw); go_simp; try with_reducible rfl)
  try simp only [Act.put, List.setIfInBounds_toArray, List.set_cons_zero, List.set_cons_succ]
  refine wpAnyH_take (i := 32) (oi := { dst := some 49, op := Go.Op.load 24 (Go.Operand.tmp 1), type := 24, pos := "law.go:21", after := #[{ on := 28, ground := Go.Ground.guard }], guard := some (28, true) }) (v := ?v32) rfl (by kernel_rfl) (by kernel_rfl) (by kernel_rfl) (fun _ _ _ h => h) (Or.inl ⟨by kernel_rfl, ?h32⟩) (by assumption) ?r32
  case h32 => (intro w hSw; (try dsimp only at hSw); go_simp; try with_reducible rfl)
  try simp only [Act.put, List.setIfInBounds_toArray, List.set_cons_zero, List.set_cons_succ]
  refine wpAnyH_ready (rs := [33]) (by kernel_rfl) (by simp) ?_
  refine AllReadyH.cons (o := { dst := some 50, op := Go.Op.call { callee := Go.Callee.value (Go.Operand.func 10), args := #[Go.Operand.tmp 49, Go.Operand.const (Go.Value.int Go.IntKind.i64 0)], argTypes := #[24, 3] }, type := 29, pos := "law.go:21", after := #[{ on := 32, ground := Go.Ground.data }, { on := 28, ground := Go.Ground.chain }, { on := 28, ground := Go.Ground.guard }], guard := some (28, true) }) rfl (fun K hK => ?_) AllReadyH.nil
  go_simp
  with_reducible refine (q4.out _).mono ?_
  rintro e w7 ⟨rfl, b7⟩
  go_simp
  refine hK.out _ _ (hHeld.trans (b7.mono hHeld.size)) (fun hHeld => ?_)
  clear hK K
  try simp only [Act.put, List.setIfInBounds_toArray, List.set_cons_zero, List.set_cons_succ]
  refine wpAnyH_take (i := 34) (oi := { dst := some 51, op := Go.Op.binOp Go.BinOp.eql 29 (Go.Operand.tmp 48) (Go.Operand.tmp 50) 29, type := 4, pos := "law.go:21", after := #[{ on := 31, ground := Go.Ground.data }, { on := 33, ground := Go.Ground.data }, { on := 28, ground := Go.Ground.guard }], guard := some (28, true) }) (v := ?v33) rfl (by kernel_rfl) (by kernel_rfl) (by kernel_rfl) (fun _ _ _ h => h) (Or.inl ⟨by kernel_rfl, ?h33⟩) (by assumption) ?r33
  case h33 => (intro w hSw; (try dsimp only at hSw); go_simp; try with_reducible rfl)
  try simp only [Act.put, List.setIfInBounds_toArray, List.set_cons_zero, List.set_cons_succ]
  refine wpAnyH_take (i := 35) (oi := { dst := some 52, op := Go.Op.pick (Go.Operand.tmp 45) (Go.Operand.tmp 51) (Go.Operand.const (Go.Value.bool false)), type := 4, pos := "law.go:21", after := #[{ on := 28, ground := Go.Ground.data }, { on := 34, ground := Go.Ground.data }], guard := none }) (v := ?v34) rfl (by kernel_rfl) (by kernel_rfl) (by kernel_rfl) (fun _ _ _ h => h) (Or.inl ⟨by kernel_rfl, ?h34⟩) (by assumption) ?r34
  case h34 => (intro w hSw; (try dsimp only at hSw); go_simp; try with_reducible rfl)
  try simp only [Act.put, List.setIfInBounds_toArray, List.set_cons_zero, List.set_cons_succ]
  refine wpAnyH_take (i := 36) (oi := { dst := some 53, op := Go.Op.move (Go.Operand.tmp 52), type := 4, pos := "law.go:21", after := #[{ on := 35, ground := Go.Ground.data }, { on := 33, ground := Go.Ground.chain }], guard := none }) (v := ?v35) rfl (by kernel_rfl) (by kernel_rfl) (by kernel_rfl) (fun _ _ _ h => h) (Or.inl ⟨by kernel_rfl, ?h35⟩) (by assumption) ?r35
  case h35 => (intro w hSw; (try dsimp only at hSw); go_simp; try with_reducible rfl)
  try simp only [Act.put, List.setIfInBounds_toArray, List.set_cons_zero, List.set_cons_succ]
  refine wpAnyH_take (i := 37) (oi := { dst := some 54, op := Go.Op.move (Go.Operand.tmp 4), type := 36, pos := "law.go:21", after := #[{ on := 36, ground := Go.Ground.guard }], guard := some (36, true) }) (v := ?v36) rfl (by kernel_rfl) (by kernel_rfl) (by kernel_rfl) (fun _ _ _ h => h) (Or.inl ⟨by kernel_rfl, ?h36⟩) (by assumption) ?r36
  case h36 => (intro w hSw; (try dsimp only at hSw); go_simp; try with_reducible rfl)
  try simp only [Act.put, List.setIfInBounds_toArray, List.set_cons_zero, List.set_cons_succ]
  refine wpAnyH_take (i := 38) (oi := { dst := some 55, op := Go.Op.indexAddr 36 (Go.Operand.tmp 54) (Go.Operand.const (Go.Value.int Go.IntKind.i64 0)), type := 0, pos := "law.go:21", after := #[{ on := 37, ground := Go.Ground.data }, { on := 36, ground := Go.Ground.guard }], guard := some (36, true) }) (v := ?v37) rfl (by kernel_rfl) (by kernel_rfl) (by kernel_rfl) (fun _ _ _ h => h) (Or.inl ⟨by kernel_rfl, ?h37⟩) (by assumption) ?r37
  case h37 => (intro w hSw; (try dsimp only at hSw); go_simp; try with_reducible rfl)
  try simp only [Act.put, List.setIfInBounds_toArray, List.set_cons_zero, List.set_cons_succ]
  refine wpAnyH_take (i := 39) (oi := { dst := some 56, op := Go.Op.load 29 (Go.Operand.tmp 55), type := 29, pos := "law.go:21", after := #[{ on := 38, ground := Go.Ground.data }, { on := 36, ground := Go.Ground.guard }], guard := some (36, true) }) (v := ?v38) rfl (by kernel_rfl) (by kernel_rfl) (by kernel_rfl) (fun _ _ _ h => h) (Or.inl ⟨by kernel_rfl, ?h38⟩) (by assumption) ?r38
  case h38 => (intro w hSw; (try dsimp only at hSw); go_simp; try with_reducible rfl)
  try simp only [Act.put, List.setIfInBounds_toArray, List.set_cons_zero, List.set_cons_succ]
  refine wpAnyH_take (i := 40) (oi := { dst := some 57, op := Go.Op.move (Go.Operand.tmp 4), type := 36, pos := "law.go:21", after := #[{ on := 36, ground := Go.Ground.guard }], guard := some (36, true) }) (v := ?v39) rfl (by kernel_rfl) (by kernel_rfl) (by kernel_rfl) (fun _ _ _ h => h) (Or.inl ⟨by kernel_rfl, ?h39⟩) (by assumption) ?r39
  case h39 => (intro w hSw; (try dsimp only at hSw); go_simp; try with_reducible rfl)
  try simp only [Act.put, List.setIfInBounds_toArray, List.set_cons_zero, List.set_cons_succ]
  refine wpAnyH_take (i := 41) (oi := { dst := some 58, op := Go.Op.indexAddr 36 (Go.Operand.tmp 57) (Go.Operand.const (Go.Value.int Go.IntKind.i64 1)), type := 0, pos := "law.go:21", after := #[{ on := 40, ground := Go.Ground.data }, { on := 36, ground := Go.Ground.guard }], guard := some (36, true) }) (v := ?v40) rfl (by kernel_rfl) (by kernel_rfl) (by kernel_rfl) (fun _ _ _ h => h) (Or.inl ⟨by kernel_rfl, ?h40⟩) (by assumption) ?r40
  case h40 => (intro w hSw; (try dsimp only at hSw); go_simp; try with_reducible rfl)
  try simp only [Act.put, List.setIfInBounds_toArray, List.set_cons_zero, List.set_cons_succ]
  refine wpAnyH_take (i := 42) (oi := { dst := some 59, op := Go.Op.load 29 (Go.Operand.tmp 58), type := 29, pos := "law.go:21", after := #[{ on := 41, ground := Go.Ground.data }, { on := 36, ground := Go.Ground.guard }], guard := some (36, true) }) (v := ?v41) rfl (by kernel_rfl) (by kernel_rfl) (by kernel_rfl) (fun _ _ _ h => h) (Or.inl ⟨by kernel_rfl, ?h41⟩) (by assumption) ?r41
  case h41 => (intro w hSw; (try dsimp only at hSw); go_simp; try with_reducible rfl)
  try simp only [Act.put, List.setIfInBounds_toArray, List.set_cons_zero, List.set_cons_succ]
  refine wpAnyH_take (i := 43) (oi := { dst := some 60, op := Go.Op.binOp Go.BinOp.neq 29 (Go.Operand.tmp 56) (Go.Operand.tmp 59) 29, type := 4, pos := "law.go:21", after := #[{ on := 39, ground := Go.Ground.data }, { on := 42, ground := Go.Ground.data }, { on := 36, ground := Go.Ground.guard }], guard := some (36, true) }) (v := ?v42) rfl (by kernel_rfl) (by kernel_rfl) (by kernel_rfl) (fun _ _ _ h => h) (Or.inl ⟨by kernel_rfl, ?h42⟩) (by assumption) ?r42
  case h42 => (intro w hSw; (try dsimp only at hSw); go_simp; try with_reducible rfl)
  try simp only [Act.put, List.setIfInBounds_toArray, List.set_cons_zero, List.set_cons_succ]
  refine wpAnyH_take (i := 44) (oi := { dst := some 61, op := Go.Op.pick (Go.Operand.tmp 53) (Go.Operand.tmp 60) (Go.Operand.const (Go.Value.bool false)), type := 4, pos := "law.go:21", after := #[{ on := 36, ground := Go.Ground.data }, { on := 43, ground := Go.Ground.data }], guard := none }) (v := ?v43) rfl (by kernel_rfl) (by kernel_rfl) (by kernel_rfl) (fun _ _ _ h => h) (Or.inl ⟨by kernel_rfl, ?h43⟩) (by assumption) ?r43
  case h43 => (intro w hSw; (try dsimp only at hSw); go_simp; try with_reducible rfl)
  try simp only [Act.put, List.setIfInBounds_toArray, List.set_cons_zero, List.set_cons_succ]
  refine wpAnyH_take (i := 45) (oi := { dst := some 0, op := Go.Op.assign (Go.Operand.tmp 61), type := 4, pos := "law.go:21", after := #[{ on := 44, ground := Go.Ground.data }, { on := 36, ground := Go.Ground.chain }, { on := 0, ground := Go.Ground.phase }, { on := 1, ground := Go.Ground.phase }, { on := 2, ground := Go.Ground.phase }, { on := 3, ground := Go.Ground.phase }, { on := 4, ground := Go.Ground.phase }, { on := 5, ground := Go.Ground.phase }, { on := 6, ground := Go.Ground.phase }, { on := 7, ground := Go.Ground.phase }, { on := 8, ground := Go.Ground.phase }, { on := 9, ground := Go.Ground.phase }, { on := 10, ground := Go.Ground.phase }, { on := 11, ground := Go.Ground.phase }, { on := 12, ground := Go.Ground.phase }, { on := 13, ground := Go.Ground.phase }, { on := 14, ground := Go.Ground.phase }, { on := 15, ground := Go.Ground.phase }, { on := 16, ground := Go.Ground.phase }, { on := 17, ground := Go.Ground.phase }, { on := 18, ground := Go.Ground.phase }, { on := 19, ground := Go.Ground.phase }, { on := 20, ground := Go.Ground.phase }, { on := 21, ground := Go.Ground.phase }, { on := 22, ground := Go.Ground.phase }, { on := 23, ground := Go.Ground.phase }, { on := 24, ground := Go.Ground.phase }, { on := 25, ground := Go.Ground.phase }, { on := 26, ground := Go.Ground.phase }, { on := 27, ground := Go.Ground.phase }, { on := 28, ground := Go.Ground.phase }, { on := 29, ground := Go.Ground.phase }, { on := 30, ground := Go.Ground.phase }, { on := 31, ground := Go.Ground.phase }, { on := 32, ground := Go.Ground.phase }, { on := 33, ground := Go.Ground.phase }, { on := 34, ground := Go.Ground.phase }, { on := 35, ground := Go.Ground.phase }, { on := 36, ground := Go.Ground.phase }, { on := 37, ground := Go.Ground.phase }, { on := 38, ground := Go.Ground.phase }, { on := 39, ground := Go.Ground.phase }, { on := 40, ground := Go.Ground.phase }, { on := 41, ground := Go.Ground.phase }, { on := 42, ground := Go.Ground.phase }, { on := 43, ground := Go.Ground.phase }, { on := 44, ground := Go.Ground.phase }], guard := none }) (v := ?v44) rfl (by kernel_rfl) (by kernel_rfl) (by kernel_rfl) (fun _ _ _ h => h) (Or.inl ⟨by kernel_rfl, ?h44⟩) (by assumption) ?r44
  case h44 => (intro w hSw; (try dsimp only at hSw); go_simp; try with_reducible rfl)
  try simp only [Act.put, List.setIfInBounds_toArray, List.set_cons_zero, List.set_cons_succ]
  refine wpAnyH_done (by kernel_rfl) ?_ _
  have hX := Lib.hid hHeld
  clear hHeld
  go_wp2
  go_ret
  exact ⟨rfl, B1.out.trans (hX.out.mono B1.out.size)⟩
end Go.Proofs.Ytbpaoiajfjkmfaa
namespace Go.Proofs.Ytbpaoiajfjkmfaa
open Go.RowKit
set_option linter.unusedVariables false
set_option linter.unusedSimpArgs false
theorem infoAl : (Try.prog.info? 24).map (fun i => (i.zero.map fun z => z.cells.size, i.size, i.bytes)) = some (some 6, 6, 72) := by kernel_rfl
theorem infoAlZ : ∃ i z, Try.prog.info? 24 = some i ∧ i.zero = some z ∧ i.size = 6 ∧ i.bytes = 72 ∧ z.cells.size = 6 := by
  have h := infoAl
  cases hi : Try.prog.info? 24 with
  | none => rw [hi] at h; simp at h
  | some i =>
    rw [hi] at h
    simp at h
    obtain ⟨⟨z, hz, h1⟩, h2, h3⟩ := h
    exact ⟨i, z, rfl, hz, h2, h3, h1⟩
def alcells (l : List AlD) : List Value := l.flatMap alC
theorem alcells_snoc (l : List AlD) (x : AlD) : alcells (l ++ [x]) = alcells l ++ alC x := by simp [alcells]
theorem alcells_one {l : List AlD} {u : Value} (h : u ∈ alcells l) : u.oneCell' = true := by
  obtain ⟨a, _, ha⟩ := List.mem_flatMap.1 h
  simp [alC] at ha
  rcases ha with rfl | rfl | rfl | rfl | rfl | rfl <;> rfl
theorem ro_own {w : World} {base : Nat} {e : TypeId} {v : Value} {n : Nat} {l : List AlD} (h : w.ownsRow base e 6 v n (alcells l)) : ∃ a c, v = .slice a n c ∧ RO alC w a n c l := by
  have hl := h.1
  have h2 := flat_len alC_len l
  unfold alcells at hl
  obtain ⟨a, c, rfl, h3, h4, h5⟩ := seesC_own h
  exact ⟨a, c, rfl, ⟨by omega, h3, h4, h5⟩⟩
theorem wpList_append_al {ops : Array Oper} {rest : List Oper} {o : Oper} {a : Act} {Q : Exit → Act → World → Prop} (w : World) (hg : o.guard = none) (s x : Operand) (hop : o.op = Op.call { callee := Callee.builtin Builtin.append, args := #[s, x], argTypes := #[22, 22] })
    (w0 : World) (v : Value) (n : Nat) (l : List AlD) (hown : w.ownsRow w0.heap.size 24 6 v n (alcells l)) (hb : Below w0.heap.size w0 w) (y : AlD)
    (hsv : a.eval s = v) (hg2 : Nat) (hx : a.eval x = .slice (some ⟨hg2, 0, none⟩) 1 1) (hh : hg2 = w.heap.size) (hn : n ≤ 1000000)
    (hK : ∀ v' w', w'.ownsRow w0.heap.size 24 6 v' (n + 1) (alcells (l ++ [y])) → Below w0.heap.size w0 w' → wpList Try.prog ops Q rest (a.put o.dst v') w') :
    wpList Try.prog ops Q (o :: rest) a (w.alloc (.cells #[.int .i64 y.kind, .int .i64 y.sev, .string y.fn, .string y.file, .int .i64 y.line, .string y.expr] 24)) := by
  subst hh
  obtain ⟨i0, z0, hi, hz, h6, h72, hz6⟩ := infoAlZ
  have hb1 := box_below w #[.int .i64 y.kind, .int .i64 y.sev, .string y.fn, .string y.file, .int .i64 y.line, .string y.expr] 24
  refine wpList_append_cellsB _ hg s x 22 hop w0 24 i0 z0 6 72 Try.underlying22 hi hz h6 h72 hz6 (by omega) v n (alcells l) (own_below hown hb1) (hb.trans (hb1.mono hb.size)) _ _ 1 1 (alC y) rfl (seesC_lit w 24 _) (fun u hu => alcells_one (l := [y]) (by simpa [alcells] using hu)) hsv hx (by unfold maxLen; omega) (by omega) ?_
  intro v' w' h1 h2
  exact hK v' w' (by rw [alcells_snoc]; exact h1) h2
theorem own_al_nil (w : World) (base : Nat) : w.ownsRow base 24 6 (.slice none 0 0) 0 (alcells []) := ⟨by simp [alcells], .inl ⟨rfl, rfl⟩⟩
end Go.Proofs.Ytbpaoiajfjkmfaa
namespace Go.Proofs.Ytbpaoiajfjkmfaa
open Go.RowKit
set_option linter.unusedVariables false
set_option linter.unusedSimpArgs false
theorem nrm_size (a : AlD) (h : a.expr.size ≤ 300) : (nrmA a).expr.size ≤ 300 := by
  show (strOfNums (normS (codes a.expr))).size ≤ 300
  rw [strOfNums_size]
  have := normS_len (codes a.expr)
  rw [codes_length] at this
  omega
theorem nrm_small {l : List AlD} (h : ∀ a ∈ l, smallA a) : ∀ a ∈ l.map nrmA, smallA a := by
  intro a ha
  obtain ⟨b, hb, rfl⟩ := List.mem_map.1 ha
  obtain ⟨h1, h2, h3⟩ := h b hb
  exact ⟨h1, h2, nrm_size b h3⟩
theorem nrm_w {l : List AlD} (h : ∀ a ∈ l, alW a) (hs : ∀ a ∈ l, smallA a) : ∀ a ∈ l.map nrmA, alW a := by
  intro a ha
  obtain ⟨b, hb, rfl⟩ := List.mem_map.1 ha
  obtain ⟨h1, h2, h3, h4, h5, h6⟩ := h b hb
  refine ⟨h1, h2, h3, h4, h5, ?_⟩
  have := nrm_size b (hs b hb).2.2
  omega
def likeA (l : List AlD) (j i : Nat) : Prop := (l.getD j al0).file = (l.getD i al0).file ∧ (l.getD j al0).line = (l.getD i al0).line
set_option maxRecDepth 100000 in
set_option maxHeartbeats 8000000 in
theorem fingerSpaces_walk (w : World) (sl : Option Addr) (n c : Nat) (row : AlSl w sl n c) :
    Calls Try.prog 6 #[.slice sl n c] w (Gives (.bool true) w) := by
  obtain ⟨l, hRO, hW, hnb⟩ := row
  have qL := Lib.hid (alarge_any l sl n c w hRO hW)
  have qlv := Lib.hid (fun W => flives_any W)
  have hn2 : (n : Int) ≤ 9223372036854775807 := by omega
  cases hbig : bigA l with
  | true =>
    rw [hbig] at qL
    clear hbig hRO hW
    go_enter Try.func6, Try.ntmps6
    go_wp2_with fail
    with_reducible refine qL.out.mono ?_
    rintro e w1 ⟨rfl, rfl⟩
    go_wp2_with fail
    with_reducible refine (qlv.out _).mono ?_
    rintro e w2 ⟨rfl, b2⟩
    have b2' := Lib.hid b2
    clear b2
    go_wp2
    go_ret
    exact ⟨rfl, b2'.out⟩
  | false =>
  have hsm := small_of hbig
  rw [hbig] at qL
  clear hbig
  have hlen := hRO.len
  have hn100 : n ≤ 100 := by have := hsm.1; omega
  have hS : ∀ a ∈ l, smallA a := fun a ha => by have := hsm.2 a ha; exact ⟨this.1, by have := this.2.1; omega, this.2.2⟩
  have hR' := Lib.hid hRO
  have hml : Hid (∀ k, k < n → alcells ((l.take (k + 1)).map nrmA) = alcells ((l.take k).map nrmA ++ [nrmA (l.getD k al0)])) := Lib.hid (fun k hk => by
    rw [hlen] at hk
    congr 1
    rw [List.take_add_one, List.map_append]
    simp [List.getD, hk])
  have hsz : Hid (∀ k, k < n → (l.getD k al0).expr.size ≤ 300) := Lib.hid (fun k hk => by
    rw [hlen] at hk
    exact (hsm.2 (l.getD k al0) (by simp [List.getD, hk])).2.2)
  have hend : Hid ((∀ i, i < n → ∀ j, j < i → ¬ likeA l j i) → ∀ (W : World) (a : Option Addr) (c2 : Nat), RO alC W a n c2 ((l.take n).map nrmA) → Calls Try.prog 15 #[.slice a n c2] W (Made 29 .u64 W (fingA l))) := Lib.hid (fun hg W a c2 h => by
    rw [List.take_of_length_le (by omega)] at h
    have q := fofs_any _ a n c2 W h (nrm_w hW hS) (nrm_small hS) hn100
    rw [fing_is _ h.len, fing_spaces l (fun i j hi hj hij => by
      rcases Nat.lt_or_ge j i with h1 | h1
      · exact hg i (by omega) j h1
      · intro h2
        exact hg j (by omega) i (by omega) ⟨h2.1.symm, h2.2.symm⟩)] at q
    exact q)
  have qO := Lib.hid (fun (W : World) (h : RO alC W sl n c l) => (show Calls Try.prog 15 #[.slice sl n c] W (Made 29 .u64 W (fingA l)) from by
    have q := fofs_any l sl n c W h hW hS hn100
    rwa [fing_is l h.len] at q))
  have hfl : Hid ((fingA l).length = n) := Lib.hid (by rw [fing_len, hlen])
  have qS := Lib.hid (fun (a1 a2 : Option Addr) (n1 n2 c1 c2 : Nat) (W : World) (h1 : SU .u64 W a1 n1 c1 (fingA l)) (h2 : SU .u64 W a2 n2 c2 (fingA l)) => (show Calls Try.prog 14 #[.slice a1 n1 c1, .slice a2 n2 c2] W (DrawnT (.bool true) W) from by
    have q := rfsame_any a1 a2 (fingA l) (fingA l) n1 n2 c1 c2 W h1 h2
    rwa [decide_eq_true rfl] at q))
  clear hRO hW hsm hS hlen hnb
  generalize fingA l = FL at *
  go_enter Try.func6, Try.ntmps6
  go_wp2_with fail
  with_reducible refine qL.out.mono ?_
  rintro e w1 ⟨rfl, rfl⟩
  clear qL
  go_wp2
  go_loopw [3, 4] (fun v x wr => ∃ k : Nat, k ≤ n ∧ x = .int .i64 k ∧ Hid (wr.ownsRow w.heap.size 24 6 v k (alcells ((l.take k).map nrmA))) ∧ Hid (Below w.heap.size w wr) ∧ Hid (∀ i, i < k → ∀ j, j < i → ¬ likeA l j i)) (fun _ x _ => n - (intOf x).toNat)
  case atStart => exact ⟨0, Nat.zero_le _, rfl, Lib.hid (own_al_nil _ _), Lib.hid (Below.refl _ _), Lib.hid (fun j hj => by omega)⟩
  case round =>
    obtain ⟨k, hk, rfl, hO, hB, hA⟩ := hrel
    generalize wr = g0 at *
    by_cases hlt : k < n
    · have hki : (k : Int) < (n : Int) := by omega
      have hstep := Lib.hid (hml.out k hlt)
      have hz := hsz.out k hlt
      have hA2 : Hid ((∀ j, j < k → ¬ likeA l j k) → ∀ i, i < k + 1 → ∀ j, j < i → ¬ likeA l j i) := Lib.hid (fun h i hi => by
        by_cases e : i = k
        · rw [e]; exact h
        · exact hA.out i (by omega))
      clear hA
      have qn := Lib.hid (fun W => rnorm_any (l.getD k al0).expr (by omega) W)
      go_wp2
      go_loopw [5] (fun x wr => ∃ j q : Nat, j ≤ k ∧ x = .int .i64 j ∧ wr = g0.drewN q ∧ Hid (∀ t, t < j → ¬ likeA l t k)) (fun x _ => k - (intOf x).toNat)
      case atStart => exact ⟨0, 0, Nat.zero_le _, rfl, rfl, Lib.hid (fun t ht => by omega)⟩
      case round =>
        obtain ⟨j, q, hj, rfl, rfl, hJ⟩ := hrel
        by_cases hjk : j < k
        · have hji : (j : Int) < (k : Int) := by omega
          have hjn : (j : Int) < (n : Int) := by omega
          obtain ⟨b, off, rfl, hlb, x0, x1, x2, x3, x4, x5⟩ := al_at (hR'.out.below hB.out) hlt
          obtain ⟨b', off', hbb, -, z0, z1, z2, z3, z4, z5⟩ := al_at (hR'.out.below hB.out) (show j < n by omega)
          injection hbb with hbb
          injection hbb with hb1 hb2
          subst hb1 hb2
          have hJ2 : Hid (¬ likeA l j k → ∀ t, t < j + 1 → ¬ likeA l t k) := Lib.hid (fun h t ht => by
            by_cases e : t = j
            · rw [e]; exact h
            · exact hJ.out t (by omega))
          have hlk : Hid (likeA l j k ↔ (l.getD j al0).file = (l.getD k al0).file ∧ (l.getD j al0).line = (l.getD k al0).line) := Lib.hid Iff.rfl
          generalize likeA l j k = LK at *
          clear x0 x1 x2 x5 z0 z1 z2 z5 hJ
          generalize (l.getD j al0).file = fj at *
          generalize (l.getD j al0).line = lj at *
          generalize (l.getD k al0).file = fk at *
          generalize (l.getD k al0).line = lk at *
          by_cases hff : fj = fk
          · subst hff
            have hfb : (fj.toList == fj.toList) = true := by simp
            by_cases hll : lj = lk
            · subst hll
              have hlb2 : (lj == lj) = true := by simp
              clear hlk hJ2 hA2 hstep qn
              go_wp2
              go_quiet (fail)
              go_wp2_with fail
              with_reducible refine (qlv.out _).mono ?_
              rintro e g1 ⟨rfl, b1⟩
              have B1 := Lib.hid (hB.out.trans ((Below.trans (B := g0.heap.size) (Below.drewN (Below.refl g0.heap.size g0) (q + nq)) (b1.mono (Nat.le_refl _))).mono hB.out.size))
              clear b1
              go_wp2
              go_ret
              exact ⟨rfl, B1.out⟩
            · have hlb2 : (lj == lk) = false := by rw [beq_eq_false_iff_ne]; exact hll
              have hJ3 := Lib.hid (hJ2.out (fun h => hll (hlk.out.1 h).2))
              clear hlk hJ2 hll
              go_wp2
              go_quiet (fail)
              go_wp2
              go_roundw
              case rel => exact ⟨j + 1, q + nq, by omega, by go_num, by simp [World.drewN, Nat.add_assoc], hJ3⟩
              case measure => simp [intOf]; omega
          · have hfb : (fj.toList == fk.toList) = false := by
              rw [beq_eq_false_iff_ne]
              intro h
              rw [ByteArray.toList_eq, ByteArray.toList_eq] at h
              exact hff (ByteArray.ext (Array.ext' h))
            have hJ3 := Lib.hid (hJ2.out (fun h => hff (hlk.out.1 h).1))
            clear hlk hJ2 hff
            go_wp2
            go_quiet (fail)
            go_wp2
            go_roundw
            case rel => exact ⟨j + 1, q + nq, by omega, by go_num, by simp [World.drewN, Nat.add_assoc], hJ3⟩
            case measure => simp [intOf]; omega
        · obtain rfl : j = k := by omega
          have hji : ¬ (j : Int) < (j : Int) := by omega
          have hA3 := Lib.hid (hA2.out hJ.out)
          have hOq : Hid ((g0.drewN q).ownsRow w.heap.size 24 6 u3 j (alcells ((l.take j).map nrmA))) := hO
          have hBq := Lib.hid (Below.drewN hB.out q)
          clear hO hB hA2 hJ
          generalize g0.drewN q = G at *
          obtain ⟨b, off, rfl, hlb, x0, x1, x2, x3, x4, x5⟩ := al_at (hR'.out.below hBq.out) hlt
          have hmv : nrmA (l.getD j al0) = { l.getD j al0 with expr := strOfNums (normS (codes (l.getD j al0).expr)) } := rfl
          rw [hmv] at hstep
          have hexp : (strOfNums (normS (codes (l.getD j al0).expr))).size ≤ 300 := nrm_size _ hz
          clear hmv
          generalize strOfNums (normS (codes (l.getD j al0).expr)) = NX at *
          generalize l.getD j al0 = A at *
          obtain ⟨ak, av, af, ai, al, ax⟩ := A
          dsimp only at *
          have hB1 := box_below G #[.int .i64 ak, .int .i64 av, .string af, .string ai, .int .i64 al, .string ax] 24
          have z := Lib.hid (Holds.new G 24 #[.int .i64 ak, .int .i64 av, .string af, .string ai, .int .i64 al, .string ax])
          have hG1 : Hid (Below G.heap.size G (G.alloc (.cells #[.int .i64 ak, .int .i64 av, .string af, .string ai, .int .i64 al, .string ax] 24))) := Lib.hid hB1
          have hsz1 : Hid ((G.alloc (.cells #[.int .i64 ak, .int .i64 av, .string af, .string ai, .int .i64 al, .string ax] 24)).heap.size = G.heap.size + 1) := Lib.hid (by simp)
          clear hB1
          go_wp2_with fail
          with_reducible refine (qn.out _).mono ?_
          rintro e g1 ⟨rfl, b1⟩
          have z1 := Lib.hid (z.out.below b1 z.out.lt)
          have hN1 := Lib.hid (hG1.out.trans (b1.mono hG1.out.size))
          clear b1 z qn hG1 x0 x1 x2 x3 x4 x5
          have y0 := z1.out.cell 0
          have y1 := z1.out.cell 1
          have y2 := z1.out.cell 2
          have y3 := z1.out.cell 3
          have y4 := z1.out.cell 4
          have y5 := z1.out.cell 5
          have y6 := z1.out.free 5
          have zz := z1.out.set 5 (.string NX)
          simp at y0 y1 y2 y3 y4 y5 zz
          have v0 := zz.cell 0
          have v1 := zz.cell 1
          have v2 := zz.cell 2
          have v3 := zz.cell 3
          have v4 := zz.cell 4
          have v5 := zz.cell 5
          simp at v0 v1 v2 v3 v4 v5
          have hO1 : Hid ((g1.setCell ⟨G.heap.size, 5, none⟩ (.string NX)).ownsRow w.heap.size 24 6 u3 j (alcells ((l.take j).map nrmA))) := Lib.hid (own_belowE (X := [G.heap.size]) (own_below hOq.out hN1.out) ((BelowE.refl _ _ _).setIn (p := ⟨G.heap.size, 5, none⟩) (by simp) _) (fun q hq => by have := (hOq.out.lt q hq).2; simp; omega))
          have hBB : Hid (Below w.heap.size w (g1.setCell ⟨G.heap.size, 5, none⟩ (.string NX))) := Lib.hid (hBq.out.trans ((hN1.out.mono hBq.out.size).setCell (p := ⟨G.heap.size, 5, none⟩) hBq.out.size _))
          clear hOq hBq hN1 z1 zz hsz1
          go_wp2_with (at_builtin; go_loud (refine wpList_append_al _ rfl (.tmp 54) (.tmp 56) rfl w _ j _ hO1.out hBB.out ⟨ak, av, af, ai, al, NX⟩ rfl _ rfl (by simp) (by omega) ?_); intro v' g2 o2 b2; have O2 := Lib.hid o2; have B2 := Lib.hid b2; clear o2 b2)
          rw [← hstep.out] at O2
          clear hstep hO1 hBB y0 y1 y2 y3 y4 y5 y6 v0 v1 v2 v3 v4 v5
          go_wp2
          go_roundw
          case rel => exact ⟨j + 1, by omega, by go_num, O2, B2, hA3⟩
          case measure => simp [intOf]; omega
    · obtain rfl : k = n := by omega
      have hki : ¬ (k : Int) < (k : Int) := by omega
      obtain ⟨am, cm, rfl, hRm⟩ := ro_own hO.out
      have hRm' := Lib.hid hRm
      have hend' := Lib.hid (hend.out hA.out)
      clear hRm hO hend hA hml hsz
      go_wp2_with fail
      with_reducible refine (qlv.out _).mono ?_
      rintro e g1 ⟨rfl, b1⟩
      have b1' := Lib.hid b1
      clear b1
      go_wp2_with fail
      with_reducible refine (hend'.out g1 am cm (hRm'.out.below b1'.out)).mono ?_
      rintro e g2 h2
      obtain ⟨a2, c2, rfl, s2, b2⟩ := h2.open _ hfl.out
      have s2' := Lib.hid s2
      have B2 := Lib.hid ((hB.out.trans (b1'.out.mono hB.out.size)).trans (b2.mono (Nat.le_trans hB.out.size b1'.out.size)))
      clear h2 s2 b2 hend' hRm' b1' hB
      go_wp2_with fail
      with_reducible refine (qO.out g2 (hR'.out.below B2.out)).mono ?_
      rintro e g3 h3
      obtain ⟨a3, c3, rfl, s3, b3⟩ := h3.open _ hfl.out
      have s3' := Lib.hid s3
      have b3' := Lib.hid b3
      clear h3 s3 b3
      go_wp2_with fail
      with_reducible refine (qS.out a2 a3 k k c2 c3 g3 ⟨hfl.out.symm, by omega, (s2'.out.below b3'.out).mono b3'.out.size⟩ ⟨hfl.out.symm, by omega, s3'.out⟩).mono ?_
      rintro e g4 ⟨rfl, q, rfl⟩
      have B4 := Lib.hid (Below.drewN (B2.out.trans (b3'.out.mono B2.out.size)) q)
      clear B2 b3' s2' s3'
      go_wp2
      go_ret
      exact ⟨rfl, B4.out⟩
end Go.Proofs.Ytbpaoiajfjkmfaa
