/- wto: entry, more. -/
import Derived.Test.YtpbminoefmpmpaaDoorWtoPoint
namespace Go.Proofs.YtpbminoefmpmpaaDoor
open Go.RowKit
set_option linter.unusedVariables false
set_option linter.unusedSimpArgs false

def segS (S : List Int) (a b : Nat) : List Int := (S.take b).drop a
theorem segS_nil (S : List Int) (a : Nat) : segS S a a = [] := by unfold segS; exact List.drop_of_length_le (by simp; omega)
theorem segS_cons {S : List Int} {a b : Nat} (h : a < b) (hb : b ≤ S.length) : segS S a b = S.getD a 0 :: segS S (a + 1) b := by
  unfold segS
  rw [List.drop_eq_getElem_cons (by simp; omega)]
  congr 1
  simp [List.getD, show a < S.length by omega]
theorem segS_app {S : List Int} {a c b : Nat} (h1 : a ≤ c) (h2 : c ≤ b) (hb : b ≤ S.length) : segS S a c ++ segS S c b = segS S a b := by
  unfold segS
  obtain ⟨e, rfl⟩ : ∃ e, b = c + e := ⟨b - c, by omega⟩
  have hlen : (S.take c).length = c := by rw [List.length_take]; omega
  have e1 : (S.take c ++ (S.drop c).take e).drop c = (S.drop c).take e := by rw [List.drop_append_of_le_length (by omega), List.drop_of_length_le (by omega), List.nil_append]
  have e2 : (S.take c ++ (S.drop c).take e).drop a = (S.take c).drop a ++ (S.drop c).take e := List.drop_append_of_le_length (by omega)
  rw [List.take_add, e1, e2]
theorem dig_head {x : Nat} (hx : x < 128) {l : List UInt8} {c : UInt8} (hc : ¬ isDig c) : (digP x ++ l).head? ≠ some c := by
  intro h
  cases q : digP (x : Int) with
  | nil => exact digP_ne _ q
  | cons d D =>
    rw [q] at h
    simp at h
    subst h
    exact hc (digP_dig (x : Int) d (by rw [q]; simp))
theorem noDig_of {l : List UInt8} (h : l.head? = none ∨ l.head? = some 32 ∨ l.head? = some 41) : noDig l := by
  intro c hc hd
  rcases h with h | h | h <;> rw [h] at hc
  · cases hc
  · injection hc with hc; subst hc; revert hd; decide
  · injection hc with hc; subst hc; revert hd; decide
theorem seg_noDig {P S : List Int} {d a b : Nat} {t l : List UInt8} (h : Seg P S d a b t) (hl : l.head? = none ∨ l.head? = some 41) : noDig (t ++ l) := by
  apply noDig_of
  rcases h.head with ⟨rfl, _⟩ | ⟨u, rfl, _⟩
  · rcases hl with e | e
    · left; simpa using e
    · right; right; simpa using e
  · right; left; rfl
set_option maxHeartbeats 2000000 in
theorem entry_leaf (w0 : World) (B r : Nat) (s : ByteArray) (p a : Nat) (P Zs : List Int) (aP aS : Option Addr) (cP cS : Nat) (w : World) (h : RdI w0 B r s p a P Zs aP aS cP cS w) (d : Int) (x : Nat) (hx : x < 128) (l : List UInt8) (hc : s.data.toList.drop p = digP x ++ l) (hl : noDig l) (hs : s.size ≤ 100000) (hps : p ≤ s.size) (ha : a < P.length) (hxa : P.getD a 0 = (x : Int)) (honce : (P.take a).contains (x : Int) = false) (ha128 : a ≤ 128) :
    Calls Tryd.prog 35 #[.pointer (some ⟨r, 0, none⟩), .int .i64 d] w (RdN w0 B r s (p + (digP x).length) (a + 1) P (Zs ++ [0])) := by
  have k1 := (h.blk.cell 1).trans (rc1 _ _ _ _ _ _)
  have q1 := Lib.hid (next_no w0 B r s p a P Zs aP aS cP cS w h 40 (digP x ++ l) hc (dig_head hx (by decide)) hs hps)
  rw [show ((((40 : UInt8).toNat : Nat)) : Int) = 40 from rfl] at q1
  have q2 := Lib.hid (fun W h => point_ok w0 B r s p a P Zs aP aS cP cS W h x hx l hc hl hs hps ha hxa honce ha128)
  clear h hc hl hxa honce
  go_enter Tryd.func35, Tryd.ntmps35
  go_wp2_with fail
  with_reducible refine q1.out.mono ?_
  rintro e w2 ⟨rfl, h2⟩
  have q3 := Lib.hid (q2.out w2 h2)
  clear q1 q2 h2 k1
  go_wp2_with fail
  with_reducible refine q3.out.mono ?_
  rintro e w3 ⟨rfl, h3⟩
  have hfin : Hid (RdN w0 B r s (p + (digP x).length) (a + 1) P (Zs ++ [0]) (.returned (.tuple #[])) w3) := Lib.hid ⟨rfl, h3⟩
  clear q3 h3
  go_wp2
  go_end0
  exact hfin.out
set_option maxHeartbeats 2000000 in
theorem entry_leaf_bad (w0 : World) (B r : Nat) (s : ByteArray) (p a : Nat) (P Zs : List Int) (aP aS : Option Addr) (cP cS : Nat) (w : World) (h : RdI w0 B r s p a P Zs aP aS cP cS w) (d : Int) (x : Nat) (hx : x < 128) (l : List UInt8) (hc : s.data.toList.drop p = digP x ++ l) (hl : noDig l) (hs : s.size ≤ 100000) (hps : p ≤ s.size) (hin : (P.take a).contains (x : Int) = true) :
    Calls Tryd.prog 35 #[.pointer (some ⟨r, 0, none⟩), .int .i64 d] w (PanE p w0 B r) := by
  have k1 := (h.blk.cell 1).trans (rc1 _ _ _ _ _ _)
  have q1 := Lib.hid (next_no w0 B r s p a P Zs aP aS cP cS w h 40 (digP x ++ l) hc (dig_head hx (by decide)) hs hps)
  rw [show ((((40 : UInt8).toNat : Nat)) : Int) = 40 from rfl] at q1
  have q2 := Lib.hid (fun W h => point_bad w0 B r s p a P Zs aP aS cP cS W h x hx l hc hl hs hps hin)
  clear h hc hl hin
  go_enter Tryd.func35, Tryd.ntmps35
  go_wp2_with fail
  with_reducible refine q1.out.mono ?_
  rintro e w2 ⟨rfl, h2⟩
  have q3 := Lib.hid (q2.out w2 h2)
  clear q1 q2 h2 k1
  go_wp2_with fail
  with_reducible refine q3.out.mono ?_
  rintro e w3 ⟨rfl, h3⟩
  clear q3
  go_wp2
  exact ⟨rfl, rfl, h3⟩
/-- Its span is put into a component's place. -/
theorem span_put {S Z : List Int} {a b m : Nat} (hZ : Z.length = a) (hm : S.getD a 0 = (m : Int)) (hab : a < b) (hb : b ≤ S.length) : nums .i64 (Z ++ segS S a b) = (nums .i64 (Z ++ [0] ++ segS S (a + 1) b)).set a (.int .i64 (m : Int)) := by
  rw [segS_cons hab hb, hm]
  unfold nums
  simp only [List.map_append, List.map_cons, List.map_nil, List.append_assoc, List.cons_append, List.nil_append]
  rw [List.set_append_right _ _ (by simp; omega)]
  simp [hZ]
set_option maxRecDepth 100000 in
set_option maxHeartbeats 4000000 in
theorem entry_comp (w0 : World) (B r : Nat) (s : ByteArray) (p a m : Nat) (P S Zs : List Int) (aP aS : Option Addr) (cP cS : Nat) (w : World) (h : RdI w0 B r s p a P Zs aP aS cP cS w) (d x : Nat) (hd : d < 64) (hx : x < 128) (t1 l : List UInt8) (hc : s.data.toList.drop p = 40 :: (digP x ++ (t1 ++ 41 :: l))) (hl : noDig (t1 ++ 41 :: l)) (hs : s.size ≤ 100000) (hps : p ≤ s.size) (ha : a < P.length) (hxa : P.getD a 0 = (x : Int)) (honce : (P.take a).contains (x : Int) = false) (ha128 : P.length ≤ 128) (hPS : P.length = S.length) (hm : S.getD a 0 = (m : Int)) (hm0 : 0 < m) (ham : a + m ≤ S.length)
    (hM : ∀ W aP aS cP cS, RdI w0 B r s (p + 1 + (digP x).length) (a + 1) P (Zs ++ [0]) aP aS cP cS W → Calls Tryd.prog 36 #[.pointer (some ⟨r, 0, none⟩), .int .i64 ((d : Int) + 1)] W (RdN w0 B r s (p + 1 + (digP x).length + t1.length) (a + m) P (Zs ++ [0] ++ segS S (a + 1) (a + m)))) :
    Calls Tryd.prog 35 #[.pointer (some ⟨r, 0, none⟩), .int .i64 (d : Nat)] w (RdN w0 B r s (p + 1 + (digP x).length + t1.length + 1) (a + m) P (Zs ++ segS S a (a + m))) := by
  have k1 := (h.blk.cell 1).trans (rc1 _ _ _ _ _ _)
  have hZl : Zs.length = a := by have := h.rz.1; simp [nums] at this; omega
  have q1 := Lib.hid (next_yes w0 B r s p a P Zs aP aS cP cS w h 40 _ hc hs)
  rw [show ((((40 : UInt8).toNat : Nat)) : Int) = 40 from rfl] at q1
  have hc1 : s.data.toList.drop (p + 1) = digP x ++ (t1 ++ 41 :: l) := by obtain ⟨_, _, q⟩ := byte_in hc; exact q
  have hp1 : p + 1 ≤ s.size := by obtain ⟨q, _, _⟩ := byte_in hc; omega
  have q2 := Lib.hid (fun W h => point_ok w0 B r s (p + 1) a P Zs aP aS cP cS W h x hx (t1 ++ 41 :: l) hc1 hl hs hp1 ha hxa honce (by omega))
  have hc2 : s.data.toList.drop (p + 1 + (digP (x : Int)).length + t1.length) = 41 :: l := drop_all (drop_all hc1)
  have hcl := Lib.hid (fun W aP aS cP cS h => next_yes w0 B r s (p + 1 + (digP (x : Int)).length + t1.length) (a + m) P (Zs ++ segS S a (a + m)) aP aS cP cS W h 41 _ hc2 hs)
  rw [show ((((41 : UInt8).toNat : Nat)) : Int) = 41 from rfl] at hcl
  have hM' := Lib.hid hM
  have hput := Lib.hid (span_put (S := S) (Z := Zs) (a := a) (b := a + m) (m := m) hZl hm (by omega) ham)
  have hdi : (d : Int) < 64 := by omega
  have hde : ((d : Int) == 64) = false := by simp; omega
  have hai : (a : Int) ≤ 128 := by omega
  have hmi : (m : Int) ≤ 128 := by omega
  have ham' : a + m ≤ 128 := by omega
  clear h hc hl hxa honce hc1 hc2 hM hZl hm hPS
  generalize (digP (x : Int)).length = D at *
  generalize p + 1 + D + t1.length = pe at *
  generalize p + 1 + D = pd at *
  go_enter Tryd.func35, Tryd.ntmps35
  go_wp2_with fail
  with_reducible refine q1.out.mono ?_
  rintro e w2 ⟨rfl, h2⟩
  have q3 := Lib.hid (q2.out w2 h2)
  have k2 := (h2.blk.cell 2).trans (rc2 _ _ _ _ _ _)
  clear q1 q2 h2 k1
  go_wp2_with fail
  with_reducible refine q3.out.mono ?_
  rintro e w3 ⟨rfl, aP3, aS3, cP3, cS3, h3⟩
  have q4 := Lib.hid (hM'.out _ _ _ _ _ h3)
  clear q3 h3 k2 hM'
  go_wp2_with fail
  with_reducible refine q4.out.mono ?_
  rintro e w4 ⟨rfl, aP4, aS4, cP4, cS4, h4⟩
  clear q4
  obtain ⟨g, hg⟩ : ∃ g, aS4 = some ⟨g, 0, none⟩ := by
    rcases h4.rz.2 with ⟨e, e2⟩ | ⟨g, cap, cur, e, _⟩
    · omega
    · injection e with e; exact ⟨g, e⟩
  subst hg
  have hgB := (h4.rz.lt g rfl)
  have hlow := h4.low
  have hrB := h4.blk.lt
  have kr2 : ∀ W, BelowE [g] w4.heap.size w4 W → W.cell? ⟨r, 2, none⟩ = some (.slice aP4 (a + m) cP4) := fun W hW => (hW.cell (p := ⟨r, 2, none⟩) hrB (by simp; omega)).trans ((h4.blk.cell 2).trans (rc2 _ _ _ _ _ _))
  have kr3 : ∀ W, BelowE [g] w4.heap.size w4 W → W.cell? ⟨r, 3, none⟩ = some (.slice (some ⟨g, 0, none⟩) (a + m) cS4) := fun W hW => (hW.cell (p := ⟨r, 3, none⟩) hrB (by simp; omega)).trans ((h4.blk.cell 3).trans (rc3 _ _ _ _ _ _))
  obtain ⟨c0, kc⟩ : ∃ c0, w4.cell? ⟨g, a, none⟩ = some c0 := by
    have hl := h4.rz.1
    rw [Nat.mul_one] at hl
    have q := h4.rz.cells (g := g) rfl a _ (List.getElem?_eq_getElem (by omega))
    have e : (⟨g, 0, none⟩ : Addr).add a = ⟨g, a, none⟩ := by rw [show (⟨g, 0, none⟩ : Addr).add a = ⟨g, 0 + a, none⟩ from by unfold Addr.add; split <;> simp_all, Nat.zero_add]
    rw [e] at q
    exact ⟨_, q⟩
  have kf := own_free h4.rz a
  have hB4 : Hid (∀ n, RdI w0 B r s pe (a + m) P (Zs ++ segS S a (a + m)) aP4 (some ⟨g, 0, none⟩) cP4 cS4 ((w4.setCell ⟨g, a, none⟩ (.int .i64 (m : Int))).drewN n)) := Lib.hid (fun n => by
    refine RdI.drewN ?_ n
    have hb : BelowE [g] w4.heap.size w4 (w4.setCell ⟨g, a, none⟩ (.int .i64 (m : Int))) := (BelowE.refl _ _ _).setIn (p := ⟨g, a, none⟩) (by simp) _
    refine ⟨h4.blk.belowE hb h4.blk.lt (by simp; omega), own_belowE h4.rp hb (fun k hk hx => h4.ap k hk (by simp at hx; rw [hx]; rfl)), ?_, h4.ap, h4.low, h4.top, h4.bel.trans ((hb.mono h4.size).less (fun k hk hl => by simp at hk; omega))⟩
    rw [hput.out]
    exact own_set h4.rz a (by omega) _)
  have hsub : IntKind.i64.wrap (((a + m : Nat) : Int) - (a : Int)) = (m : Int) := by rw [show ((a + m : Nat) : Int) - (a : Int) = (m : Int) by omega]; exact IntWalk.i64_in _ (by omega)
  have hsub2 : IntKind.i64.wrap ((a : Int) + (m : Int) - (a : Int)) = (m : Int) := by rw [show (a : Int) + (m : Int) - (a : Int) = (m : Int) by omega]; exact IntWalk.i64_in _ (by omega)
  have hwm : IntKind.i64.wrap (m : Int) = (m : Int) := IntWalk.i64_in _ (by omega)
  have ha0 : (0 : Int) ≤ (a : Int) := by omega
  have hal : (a : Int) < ((a + m : Nat) : Int) := by omega
  have hal2 : (a : Int) < (a : Int) + (m : Int) := by omega
  have kr2' := Lib.hid kr2
  have kr3' := Lib.hid kr3
  have hh := Lib.hid h4.bel
  clear kr2 kr3 h4 hgB hlow hrB hput
  go_wp2
  have kr2 := kr2'.out
  have kr3 := kr3'.out
  refine wp_drawn_on (fun W => BelowE [g] w4.heap.size w4 W) (by kernel_rfl) ((BelowE.refl _ _ _).drew) (fun hHeld => ?_)
  refine wpAnyH_take (i := 0) (oi := { dst := some 32, op := Go.Op.move (Go.Operand.tmp 0), type := 55, pos := "wto.go:199", after := #[], guard := none }) (v := ?v1) rfl (by kernel_rfl) (by kernel_rfl) (by kernel_rfl) (fun _ _ _ h => h) (Or.inl ⟨by kernel_rfl, ?h1⟩) (by assumption) ?r1
  case h1 => (intro w hSw; (try dsimp only at hSw); go_simp; try with_reducible rfl)
  try simp only [Act.put, List.setIfInBounds_toArray, List.set_cons_zero, List.set_cons_succ]
  refine wpAnyH_take (i := 1) (oi := { dst := some 33, op := Go.Op.nilCheck (Go.Operand.tmp 32), type := 0, pos := "wto.go:199", after := #[{ on := 0, ground := Go.Ground.data }], guard := none }) (v := ?v2) rfl (by kernel_rfl) (by kernel_rfl) (by kernel_rfl) (fun _ _ _ h => h) (Or.inl ⟨by kernel_rfl, ?h2⟩) (by assumption) ?r2
  case h2 => (intro w hSw; (try dsimp only at hSw); go_simp; try with_reducible rfl)
  try simp only [Act.put, List.setIfInBounds_toArray, List.set_cons_zero, List.set_cons_succ]
  refine wpAnyH_take (i := 2) (oi := { dst := some 34, op := Go.Op.fieldAddr 58 (Go.Operand.tmp 33) 2, type := 0, pos := "wto.go:199", after := #[{ on := 1, ground := Go.Ground.data }], guard := none }) (v := ?v3) rfl (by kernel_rfl) (by kernel_rfl) (by kernel_rfl) (fun _ _ _ h => h) (Or.inl ⟨by kernel_rfl, ?h3⟩) (by assumption) ?r3
  case h3 => (intro w hSw; (try dsimp only at hSw); go_simp; try with_reducible rfl)
  try simp only [Act.put, List.setIfInBounds_toArray, List.set_cons_zero, List.set_cons_succ]
  refine wpAnyH_take (i := 3) (oi := { dst := some 35, op := Go.Op.fieldAddr 24 (Go.Operand.tmp 34) 1, type := 0, pos := "wto.go:199", after := #[{ on := 2, ground := Go.Ground.data }], guard := none }) (v := ?v4) rfl (by kernel_rfl) (by kernel_rfl) (by kernel_rfl) (fun _ _ _ h => h) (Or.inl ⟨by kernel_rfl, ?h4⟩) (by assumption) ?r4
  case h4 => (intro w hSw; (try dsimp only at hSw); go_simp; try with_reducible rfl)
  try simp only [Act.put, List.setIfInBounds_toArray, List.set_cons_zero, List.set_cons_succ]
  refine wpAnyH_take (i := 4) (oi := { dst := some 36, op := Go.Op.load 22 (Go.Operand.tmp 35), type := 22, pos := "wto.go:199", after := #[{ on := 3, ground := Go.Ground.data }], guard := none }) (v := ?v5) rfl (by kernel_rfl) (by kernel_rfl) (by kernel_rfl) (fun _ _ _ h => h) (Or.inl ⟨by kernel_rfl, ?h5⟩) (by assumption) ?r5
  case h5 => (intro w hSw; (try dsimp only at hSw); go_simp; try with_reducible rfl)
  try simp only [Act.put, List.setIfInBounds_toArray, List.set_cons_zero, List.set_cons_succ]
  refine wpAnyH_take (i := 5) (oi := { dst := some 37, op := Go.Op.move (Go.Operand.tmp 5), type := 3, pos := "wto.go:199", after := #[], guard := none }) (v := ?v6) rfl (by kernel_rfl) (by kernel_rfl) (by kernel_rfl) (fun _ _ _ h => h) (Or.inl ⟨by kernel_rfl, ?h6⟩) (by assumption) ?r6
  case h6 => (intro w hSw; (try dsimp only at hSw); go_simp; try with_reducible rfl)
  try simp only [Act.put, List.setIfInBounds_toArray, List.set_cons_zero, List.set_cons_succ]
  refine wpAnyH_take (i := 6) (oi := { dst := some 38, op := Go.Op.move (Go.Operand.tmp 0), type := 55, pos := "wto.go:199", after := #[], guard := none }) (v := ?v7) rfl (by kernel_rfl) (by kernel_rfl) (by kernel_rfl) (fun _ _ _ h => h) (Or.inl ⟨by kernel_rfl, ?h7⟩) (by assumption) ?r7
  case h7 => (intro w hSw; (try dsimp only at hSw); go_simp; try with_reducible rfl)
  try simp only [Act.put, List.setIfInBounds_toArray, List.set_cons_zero, List.set_cons_succ]
  refine wpAnyH_take (i := 7) (oi := { dst := some 39, op := Go.Op.nilCheck (Go.Operand.tmp 38), type := 0, pos := "wto.go:199", after := #[{ on := 6, ground := Go.Ground.data }], guard := none }) (v := ?v8) rfl (by kernel_rfl) (by kernel_rfl) (by kernel_rfl) (fun _ _ _ h => h) (Or.inl ⟨by kernel_rfl, ?h8⟩) (by assumption) ?r8
  case h8 => (intro w hSw; (try dsimp only at hSw); go_simp; try with_reducible rfl)
  try simp only [Act.put, List.setIfInBounds_toArray, List.set_cons_zero, List.set_cons_succ]
  refine wpAnyH_take (i := 8) (oi := { dst := some 40, op := Go.Op.fieldAddr 58 (Go.Operand.tmp 39) 2, type := 0, pos := "wto.go:199", after := #[{ on := 7, ground := Go.Ground.data }], guard := none }) (v := ?v9) rfl (by kernel_rfl) (by kernel_rfl) (by kernel_rfl) (fun _ _ _ h => h) (Or.inl ⟨by kernel_rfl, ?h9⟩) (by assumption) ?r9
  case h9 => (intro w hSw; (try dsimp only at hSw); go_simp; try with_reducible rfl)
  try simp only [Act.put, List.setIfInBounds_toArray, List.set_cons_zero, List.set_cons_succ]
  refine wpAnyH_take (i := 9) (oi := { dst := some 41, op := Go.Op.fieldAddr 24 (Go.Operand.tmp 40) 0, type := 0, pos := "wto.go:199", after := #[{ on := 8, ground := Go.Ground.data }], guard := none }) (v := ?v10) rfl (by kernel_rfl) (by kernel_rfl) (by kernel_rfl) (fun _ _ _ h => h) (Or.inl ⟨by kernel_rfl, ?h10⟩) (by assumption) ?r10
  case h10 => (intro w hSw; (try dsimp only at hSw); go_simp; try with_reducible rfl)
  try simp only [Act.put, List.setIfInBounds_toArray, List.set_cons_zero, List.set_cons_succ]
  refine wpAnyH_take (i := 10) (oi := { dst := some 42, op := Go.Op.load 22 (Go.Operand.tmp 41), type := 22, pos := "wto.go:199", after := #[{ on := 9, ground := Go.Ground.data }], guard := none }) (v := ?v11) rfl (by kernel_rfl) (by kernel_rfl) (by kernel_rfl) (fun _ _ _ h => h) (Or.inl ⟨by kernel_rfl, ?h11⟩) (by assumption) ?r11
  case h11 => (intro w hSw; (try dsimp only at hSw); go_simp; try with_reducible rfl)
  try simp only [Act.put, List.setIfInBounds_toArray, List.set_cons_zero, List.set_cons_succ]
  refine wpAnyH_take (i := 11) (oi := { dst := some 43, op := Go.Op.call { callee := Go.Callee.builtin Go.Builtin.len, args := #[Go.Operand.tmp 42], argTypes := #[22] }, type := 3, pos := "wto.go:199", after := #[{ on := 10, ground := Go.Ground.data }], guard := none }) (v := ?v12) rfl (by kernel_rfl) (by kernel_rfl) (by kernel_rfl) (fun _ _ _ h => h) (Or.inl ⟨by kernel_rfl, ?h12⟩) (by assumption) ?r12
  case h12 => (intro w hSw; (try dsimp only at hSw); go_simp; try with_reducible rfl)
  try simp only [Act.put, List.setIfInBounds_toArray, List.set_cons_zero, List.set_cons_succ]
  refine wpAnyH_take (i := 12) (oi := { dst := some 44, op := Go.Op.move (Go.Operand.tmp 5), type := 3, pos := "wto.go:199", after := #[], guard := none }) (v := ?v13) rfl (by kernel_rfl) (by kernel_rfl) (by kernel_rfl) (fun _ _ _ h => h) (Or.inl ⟨by kernel_rfl, ?h13⟩) (by assumption) ?r13
  case h13 => (intro w hSw; (try dsimp only at hSw); go_simp; try with_reducible rfl)
  try simp only [Act.put, List.setIfInBounds_toArray, List.set_cons_zero, List.set_cons_succ]
  refine wpAnyH_take (i := 13) (oi := { dst := some 45, op := Go.Op.binOp Go.BinOp.sub 3 (Go.Operand.tmp 43) (Go.Operand.tmp 44) 3, type := 3, pos := "wto.go:199", after := #[{ on := 11, ground := Go.Ground.data }, { on := 12, ground := Go.Ground.data }], guard := none }) (v := ?v14) rfl (by kernel_rfl) (by kernel_rfl) (by kernel_rfl) (fun _ _ _ h => h) (Or.inl ⟨by kernel_rfl, ?h14⟩) (by assumption) ?r14
  case h14 => (intro w hSw; (try dsimp only at hSw); go_simp; try with_reducible rfl)
  try simp only [Act.put, List.setIfInBounds_toArray, List.set_cons_zero, List.set_cons_succ]
  refine wpAnyH_take (i := 14) (oi := { dst := some 46, op := Go.Op.indexAddr 22 (Go.Operand.tmp 36) (Go.Operand.tmp 37), type := 0, pos := "wto.go:199", after := #[{ on := 4, ground := Go.Ground.data }, { on := 5, ground := Go.Ground.data }, { on := 0, ground := Go.Ground.phase }, { on := 1, ground := Go.Ground.phase }, { on := 2, ground := Go.Ground.phase }, { on := 3, ground := Go.Ground.phase }, { on := 4, ground := Go.Ground.phase }, { on := 5, ground := Go.Ground.phase }, { on := 6, ground := Go.Ground.phase }, { on := 7, ground := Go.Ground.phase }, { on := 8, ground := Go.Ground.phase }, { on := 9, ground := Go.Ground.phase }, { on := 10, ground := Go.Ground.phase }, { on := 11, ground := Go.Ground.phase }, { on := 12, ground := Go.Ground.phase }, { on := 13, ground := Go.Ground.phase }], guard := none }) (v := ?v15) rfl (by kernel_rfl) (by kernel_rfl) (by kernel_rfl) (fun _ _ _ h => h) (Or.inl ⟨by kernel_rfl, ?h15⟩) (by assumption) ?r15
  case h15 => (intro w hSw; (try dsimp only at hSw); go_simp; try with_reducible rfl)
  try simp only [Act.put, List.setIfInBounds_toArray, List.set_cons_zero, List.set_cons_succ]
  refine wpAnyH_ready (rs := [15]) (by kernel_rfl) (by simp) ?_
  refine AllReadyH.cons (o := { dst := none, op := Go.Op.store 3 (Go.Operand.tmp 46) (Go.Operand.tmp 45), type := 0, pos := "wto.go:199", after := #[{ on := 14, ground := Go.Ground.data }, { on := 13, ground := Go.Ground.data }, { on := 0, ground := Go.Ground.phase }, { on := 1, ground := Go.Ground.phase }, { on := 2, ground := Go.Ground.phase }, { on := 3, ground := Go.Ground.phase }, { on := 4, ground := Go.Ground.phase }, { on := 5, ground := Go.Ground.phase }, { on := 6, ground := Go.Ground.phase }, { on := 7, ground := Go.Ground.phase }, { on := 8, ground := Go.Ground.phase }, { on := 9, ground := Go.Ground.phase }, { on := 10, ground := Go.Ground.phase }, { on := 11, ground := Go.Ground.phase }, { on := 12, ground := Go.Ground.phase }, { on := 13, ground := Go.Ground.phase }], guard := none }) rfl (fun K hK => ?_) AllReadyH.nil
  go_simp
  refine hK.out _ _ ((hHeld.setIn (p := ⟨g, a, none⟩) (by simp) _)) (fun hHeld => ?_)
  clear hK K
  try simp only [Act.put, List.setIfInBounds_toArray, List.set_cons_zero, List.set_cons_succ]
  refine wpAnyH_done (by kernel_rfl) ?_ _
  clear kr2 kr3 hHeld
  go_wp2_with fail
  refine (hcl.out _ _ _ _ _ (hB4.out 1)).mono ?_
  rintro e w6 ⟨rfl, h6⟩
  have hfin : Hid (RdN w0 B r s (pe + 1) (a + m) P (Zs ++ segS S a (a + m)) (.returned (.tuple #[])) w6) := Lib.hid ⟨rfl, _, _, _, _, h6⟩
  clear hcl hB4 h6
  go_wp2
  go_end0
  exact hfin.out
theorem ord_at {P S : List Int} (O : OrdW P S) {i : Nat} (hi : i < P.length) : ∃ x : Nat, x < 128 ∧ P.getD i 0 = (x : Int) ∧ (P.take i).contains (x : Int) = false := by
  obtain ⟨h1, h2, h3⟩ := O.once i hi
  obtain ⟨x, hx⟩ := Int.eq_ofNat_of_zero_le h1
  refine ⟨x, by omega, hx, ?_⟩
  rw [← hx]
  exact (seen_iff P i hi).2 h3
theorem head_no {l : List UInt8} (h : l.head? = none ∨ l.head? = some 41) : l.head? ≠ some 32 := by
  intro e
  rcases h with h | h <;> rw [h] at e
  · cases e
  · injection e with e; revert e; decide
set_option maxRecDepth 100000 in
set_option maxHeartbeats 4000000 in
theorem more_ok (w0 : World) (B r : Nat) (s : ByteArray) (P S : List Int) (O : OrdW P S) (hs : s.size ≤ 100000) (N : Nat) : ∀ (t l : List UInt8), t.length ≤ N → (l.head? = none ∨ l.head? = some 41) → ∀ (d a b p : Nat) (Zs : List Int) (aP aS : Option Addr) (cP cS : Nat) (w : World), Seg P S d a b t → b ≤ S.length → s.data.toList.drop p = t ++ l → p ≤ s.size → RdI w0 B r s p a P Zs aP aS cP cS w →
    Calls Tryd.prog 36 #[.pointer (some ⟨r, 0, none⟩), .int .i64 (d : Nat)] w (RdN w0 B r s (p + t.length) b P (Zs ++ segS S a b)) := by
  induction N using Nat.strongRecOn with
  | _ N ih =>
  intro t l htN hl d a b p Zs aP aS cP cS w hseg hb hc hps h
  have hI := Lib.hid ih
  have hO := Lib.hid O
  have hab := hseg.le
  have start : Hid (∃ (i q : Nat) (t' : List UInt8) (aP aS : Option Addr) (cP cS : Nat), a ≤ i ∧ q ≤ s.size ∧ Seg P S d i b t' ∧ q + t'.length = p + t.length ∧ t'.length ≤ t.length ∧ s.data.toList.drop q = t' ++ l ∧ RdI w0 B r s q i P (Zs ++ segS S a i) aP aS cP cS w) :=
    Lib.hid ⟨a, p, t, aP, aS, cP, cS, Nat.le_refl _, hps, hseg, rfl, Nat.le_refl _, hc, by rw [segS_nil, List.append_nil]; exact h⟩
  have hL := Lib.hid hl
  have hBS := Lib.hid hb
  have hPS := Lib.hid O.len
  have hfew := O.few
  have hTN := Lib.hid htN
  clear h hc hseg ih O htN hl hb hps
  go_enter Tryd.func36, Tryd.ntmps36
  go_wp2_with fail
  go_loopw [] (fun wr => Hid (∃ (i q : Nat) (t' : List UInt8) (aP aS : Option Addr) (cP cS : Nat), a ≤ i ∧ q ≤ s.size ∧ Seg P S d i b t' ∧ q + t'.length = p + t.length ∧ t'.length ≤ t.length ∧ s.data.toList.drop q = t' ++ l ∧ RdI w0 B r s q i P (Zs ++ segS S a i) aP aS cP cS wr)) (fun wr => s.size - placeOf r wr)
  case atStart => exact start
  case round =>
    clear start
    obtain ⟨i, q, t', aP', aS', cP', cS', hai, hqs, hseg, hqt, htt, hc, h⟩ := hrel.out
    clear hrel
    have hpl := Lib.hid h.place
    have hib := hseg.le
    cases hseg with
    | nil =>
      have q1 := Lib.hid (next_no w0 B r s q b P _ aP' aS' cP' cS' wr h 32 l (by simpa using hc) (head_no hL.out) hs hqs)
      rw [show ((((32 : UInt8).toNat : Nat)) : Int) = 32 from rfl] at q1
      have hq := Lib.hid (show p + t.length = q by simpa using hqt.symm)
      clear h hc hqt hpl
      go_wp2_with fail
      with_reducible refine q1.out.mono ?_
      rintro e w2 ⟨rfl, h2⟩
      have hfin : Hid (RdN w0 B r s (p + t.length) b P (Zs ++ segS S a b) (.returned (.tuple #[])) w2) := Lib.hid ⟨rfl, _, _, _, _, by rw [hq.out]; exact h2⟩
      clear q1 h2
      go_wp2
      go_end0
      exact hfin.out
    | leaf _ _ _ t2 g1 g2 g3 =>
      obtain ⟨x, hx, hxa, hon⟩ := ord_at hO.out g1
      rw [hxa] at hc hqt htt
      have hc' : s.data.toList.drop q = 32 :: (digP x ++ (t2 ++ l)) := by rw [hc]; simp
      have q1 := Lib.hid (next_yes w0 B r s q i P _ aP' aS' cP' cS' wr h 32 _ hc' hs)
      rw [show ((((32 : UInt8).toNat : Nat)) : Int) = 32 from rfl] at q1
      have hc1 : s.data.toList.drop (q + 1) = digP x ++ (t2 ++ l) := by obtain ⟨_, _, z⟩ := byte_in hc'; exact z
      have hq1 : q + 1 ≤ s.size := by obtain ⟨z, _, _⟩ := byte_in hc'; omega
      have q2 := Lib.hid (fun W h => entry_leaf w0 B r s (q + 1) i P (Zs ++ segS S a i) aP' aS' cP' cS' W h (d : Int) x hx (t2 ++ l) hc1 (seg_noDig g3 hL.out) hs hq1 g1 hxa hon (by have := hPS.out; omega))
      have hc2 := drop_all hc1
      have hsz2 := size_of hc1 hq1
      have hi1 := g3.le
      have hqt2 : q + 1 + (digP (x : Int)).length + t2.length = p + t.length := by rw [← hqt]; simp; omega
      have htt2 : t2.length ≤ t.length := by simp at htt; omega
      have e2 : segS S a (i + 1) = segS S a i ++ [0] := by
        rw [← segS_app (S := S) hai (Nat.le_succ i) (by have := hBS.out; omega), segS_cons (S := S) (Nat.lt_succ_self i) (by have := hBS.out; omega), segS_nil, g2]
      have hnext : Hid (∀ aP aS cP cS W, RdI w0 B r s (q + 1 + (digP (x : Int)).length) (i + 1) P (Zs ++ segS S a i ++ [0]) aP aS cP cS W → ∃ (i q : Nat) (t' : List UInt8) (aP aS : Option Addr) (cP cS : Nat), a ≤ i ∧ q ≤ s.size ∧ Seg P S d i b t' ∧ q + t'.length = p + t.length ∧ t'.length ≤ t.length ∧ s.data.toList.drop q = t' ++ l ∧ RdI w0 B r s q i P (Zs ++ segS S a i) aP aS cP cS W) := Lib.hid (fun aP aS cP cS W h => ⟨i + 1, _, t2, aP, aS, cP, cS, by omega, by omega, g3, hqt2, htt2, hc2, by
        rw [e2, ← List.append_assoc]
        exact h⟩)
      have hlt := Lib.hid (show q < q + 1 + (digP (x : Int)).length ∧ q + 1 + (digP (x : Int)).length ≤ s.size by omega)
      clear h hc hqt hc' hc1 hc2 hsz2 hxa hon g3 g2 hqt2 e2 htt
      go_wp2_with fail
      with_reducible refine q1.out.mono ?_
      rintro e w2 ⟨rfl, h2⟩
      have q3 := Lib.hid (q2.out w2 h2)
      clear q1 q2 h2
      go_wp2_with fail
      with_reducible refine q3.out.mono ?_
      rintro e w3 ⟨rfl, aP3, aS3, cP3, cS3, h3⟩
      have h3' := Lib.hid h3.place
      have hn3 := Lib.hid (hnext.out _ _ _ _ _ h3)
      clear q3 h3 hnext
      go_wp2
      go_roundw
      case rel => exact hn3
      case measure => rw [h3'.out, hpl.out]; have := hlt.out; omega
    | comp _ _ _ m t1 t2 g1 g2 g3 g4 g5 g6 =>
      obtain ⟨x, hx, hxa, hon⟩ := ord_at hO.out g1
      rw [hxa] at hc hqt htt
      have hc' : s.data.toList.drop q = 32 :: 40 :: (digP x ++ (t1 ++ 41 :: (t2 ++ l))) := by rw [hc]; simp
      have q1 := Lib.hid (next_yes w0 B r s q i P _ aP' aS' cP' cS' wr h 32 _ hc' hs)
      rw [show ((((32 : UInt8).toNat : Nat)) : Int) = 32 from rfl] at q1
      have hc1 : s.data.toList.drop (q + 1) = 40 :: (digP x ++ (t1 ++ 41 :: (t2 ++ l))) := by obtain ⟨_, _, z⟩ := byte_in hc'; exact z
      have hq1 : q + 1 ≤ s.size := by obtain ⟨z, _, _⟩ := byte_in hc'; omega
      have hc3 : s.data.toList.drop (q + 1 + 1) = digP x ++ (t1 ++ 41 :: (t2 ++ l)) := by obtain ⟨_, _, z⟩ := byte_in hc1; exact z
      have hq2 : q + 1 + 1 ≤ s.size := by obtain ⟨z, _, _⟩ := byte_in hc1; omega
      have hc4 := drop_all hc3
      have hsz3 := size_of hc3 hq2
      have hc5 : s.data.toList.drop (q + 1 + 1 + (digP (x : Int)).length + t1.length + 1) = t2 ++ l := by obtain ⟨_, _, z⟩ := byte_in (drop_all hc4); exact z
      have hlen : t1.length < t.length := by simp at htt; omega
      have hmb := g6.le
      have hqt2 : q + 1 + 1 + (digP (x : Int)).length + t1.length + 1 + t2.length = p + t.length := by rw [← hqt]; simp; omega
      have htt2 : t2.length ≤ t.length := by simp at htt; omega
      have e2 : segS S a (i + m) = segS S a i ++ segS S i (i + m) := (segS_app (S := S) hai (by omega) (by have := hBS.out; omega)).symm
      have hM := fun W aP aS cP cS h => hI.out t1.length (by have := hTN.out; omega) t1 (41 :: (t2 ++ l)) (Nat.le_refl _) (.inr rfl) (d + 1) (i + 1) (i + m) (q + 1 + 1 + (digP (x : Int)).length) (Zs ++ segS S a i ++ [0]) aP aS cP cS W g5 (by have := hBS.out; omega) hc4 (by simp at hsz3; omega) h
      have q2 := Lib.hid (fun W h => entry_comp w0 B r s (q + 1) i m P S (Zs ++ segS S a i) aP' aS' cP' cS' W h d x g4 hx t1 (t2 ++ l) hc1 (seg_noDig g5 (.inr rfl)) hs hq1 g1 hxa hon (by have := hPS.out; omega) hPS.out g2 g3 (by have := hBS.out; omega) hM)
      have hnext : Hid (∀ aP aS cP cS W, RdI w0 B r s (q + 1 + 1 + (digP (x : Int)).length + t1.length + 1) (i + m) P (Zs ++ segS S a i ++ segS S i (i + m)) aP aS cP cS W → ∃ (i q : Nat) (t' : List UInt8) (aP aS : Option Addr) (cP cS : Nat), a ≤ i ∧ q ≤ s.size ∧ Seg P S d i b t' ∧ q + t'.length = p + t.length ∧ t'.length ≤ t.length ∧ s.data.toList.drop q = t' ++ l ∧ RdI w0 B r s q i P (Zs ++ segS S a i) aP aS cP cS W) := Lib.hid (fun aP aS cP cS W h => ⟨i + m, _, t2, aP, aS, cP, cS, by omega, by simp at hsz3; omega, g6, hqt2, htt2, hc5, by
        rw [e2, ← List.append_assoc]
        exact h⟩)
      have hlt := Lib.hid (show q < q + 1 + 1 + (digP (x : Int)).length + t1.length + 1 ∧ q + 1 + 1 + (digP (x : Int)).length + t1.length + 1 ≤ s.size by simp at hsz3; omega)
      clear h hc hqt hc' hc1 hc3 hc4 hc5 hsz3 hxa hon g2 g5 g6 hM hlen hqt2 e2 htt
      go_wp2_with fail
      with_reducible refine q1.out.mono ?_
      rintro e w2 ⟨rfl, h2⟩
      have q3 := Lib.hid (q2.out w2 h2)
      clear q1 q2 h2
      go_wp2_with fail
      with_reducible refine q3.out.mono ?_
      rintro e w3 ⟨rfl, aP3, aS3, cP3, cS3, h3⟩
      have h3' := Lib.hid h3.place
      have hn3 := Lib.hid (hnext.out _ _ _ _ _ h3)
      clear q3 h3 hnext
      go_wp2
      go_roundw
      case rel => exact hn3
      case measure => rw [h3'.out, hpl.out]; have := hlt.out; omega
/-- Where an entry behind a space stops it, it stops; so does a component where what is in it stops it. -/
theorem more_bad (w0 : World) (B r : Nat) (s : ByteArray) (p a : Nat) (P Zs : List Int) (aP aS : Option Addr) (cP cS : Nat) (w : World) (h : RdI w0 B r s p a P Zs aP aS cP cS w) (d x : Int) (l : List UInt8) (hc : s.data.toList.drop p = 32 :: l) (hs : s.size ≤ 100000)
    (hE : ∀ W, RdI w0 B r s (p + 1) a P Zs aP aS cP cS W → Calls Tryd.prog 35 #[.pointer (some ⟨r, 0, none⟩), .int .i64 d] W (PanE x w0 B r)) :
    Calls Tryd.prog 36 #[.pointer (some ⟨r, 0, none⟩), .int .i64 d] w (PanE x w0 B r) := by
  have q1 := Lib.hid (fun W h => next_yes w0 B r s p a P Zs aP aS cP cS W h 32 l hc hs)
  rw [show ((((32 : UInt8).toNat : Nat)) : Int) = 32 from rfl] at q1
  have hE' := Lib.hid hE
  have H := Lib.hid h
  clear h hE hc
  go_enter Tryd.func36, Tryd.ntmps36
  go_wp2_with fail
  go_loopw [] (fun wr => Hid (RdI w0 B r s p a P Zs aP aS cP cS wr)) (fun wr => 0)
  case atStart => exact H
  case round =>
    clear H
    have q2 := Lib.hid (q1.out _ hrel.out)
    clear q1 hrel
    go_wp2_with fail
    with_reducible refine q2.out.mono ?_
    rintro e w2 ⟨rfl, h2⟩
    have q3 := Lib.hid (hE'.out _ h2)
    clear q2 h2 hE'
    go_wp2_with fail
    with_reducible refine q3.out.mono ?_
    rintro e w3 ⟨rfl, h3⟩
    clear q3
    go_wp2
    exact ⟨rfl, rfl, h3⟩
theorem entry_comp_bad (w0 : World) (B r : Nat) (s : ByteArray) (p a : Nat) (P Zs : List Int) (aP aS : Option Addr) (cP cS : Nat) (w : World) (h : RdI w0 B r s p a P Zs aP aS cP cS w) (d x : Nat) (y : Int) (hd : d < 64) (hx : x < 128) (l : List UInt8) (hc : s.data.toList.drop p = 40 :: (digP x ++ l)) (hl : noDig l) (hs : s.size ≤ 100000) (ha : a < P.length) (hxa : P.getD a 0 = (x : Int)) (honce : (P.take a).contains (x : Int) = false) (ha128 : a ≤ 128)
    (hM : ∀ W aP aS cP cS, RdI w0 B r s (p + 1 + (digP x).length) (a + 1) P (Zs ++ [0]) aP aS cP cS W → Calls Tryd.prog 36 #[.pointer (some ⟨r, 0, none⟩), .int .i64 ((d : Int) + 1)] W (PanE y w0 B r)) :
    Calls Tryd.prog 35 #[.pointer (some ⟨r, 0, none⟩), .int .i64 (d : Nat)] w (PanE y w0 B r) := by
  have k1 := (h.blk.cell 1).trans (rc1 _ _ _ _ _ _)
  have q1 := Lib.hid (next_yes w0 B r s p a P Zs aP aS cP cS w h 40 _ hc hs)
  rw [show ((((40 : UInt8).toNat : Nat)) : Int) = 40 from rfl] at q1
  have hc1 : s.data.toList.drop (p + 1) = digP x ++ l := by obtain ⟨_, _, q⟩ := byte_in hc; exact q
  have hp1 : p + 1 ≤ s.size := by obtain ⟨q, _, _⟩ := byte_in hc; omega
  have q2 := Lib.hid (fun W h => point_ok w0 B r s (p + 1) a P Zs aP aS cP cS W h x hx l hc1 hl hs hp1 ha hxa honce ha128)
  have hM' := Lib.hid hM
  have hdi : (d : Int) < 64 := by omega
  have hde : ((d : Int) == 64) = false := by simp; omega
  clear h hc hl hxa honce hc1 hM
  generalize (digP (x : Int)).length = D at *
  go_enter Tryd.func35, Tryd.ntmps35
  go_wp2_with fail
  with_reducible refine q1.out.mono ?_
  rintro e w2 ⟨rfl, h2⟩
  have q3 := Lib.hid (q2.out w2 h2)
  have k2 := (h2.blk.cell 2).trans (rc2 _ _ _ _ _ _)
  clear q1 q2 h2 k1
  go_wp2_with fail
  with_reducible refine q3.out.mono ?_
  rintro e w3 ⟨rfl, aP3, aS3, cP3, cS3, h3⟩
  have q4 := Lib.hid (hM'.out _ _ _ _ _ h3)
  clear q3 h3 k2 hM'
  go_wp2_with fail
  with_reducible refine q4.out.mono ?_
  rintro e w4 ⟨rfl, h4⟩
  clear q4
  go_wp2
  exact ⟨rfl, rfl, h4⟩
end Go.Proofs.YtpbminoefmpmpaaDoor
