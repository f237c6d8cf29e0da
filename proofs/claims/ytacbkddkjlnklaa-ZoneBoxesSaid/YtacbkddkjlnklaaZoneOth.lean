/- Zones changed: others, forget, move, tie. (Written by gen-zone-oth.py.) -/
import Derived.Test.YtacbkddkjlnklaaZoneMat
namespace Go.Proofs.Ytacbkddkjlnklaa
open Go.RowKit
set_option linter.unusedVariables false
set_option linter.unusedSimpArgs false

def pairL (F G : Int → Int) (l : List Int) (p q : Nat) : List Int := (l.set p (F (l.getD p 0))).set q (G (l.getD q 0))
theorem far_pair (l : List Int) (p q : Nat) : farPair l p q = pairL (fun _ => 4398046511104) (fun _ => 4398046511104) l p q := rfl
theorem mov_pair (l : List Int) (p q : Nat) (c : Int) : movPair l p q c = pairL (fun x => x + c) (fun x => x - c) l p q := rfl
theorem pairL_len (F G : Int → Int) (l : List Int) (p q : Nat) : (pairL F G l p q).length = l.length := by simp [pairL]
/-- The numbers of i and each other one, up to k. -/
def othK (F G : Int → Int) (n i : Nat) (l : List Int) : Nat → List Int
  | 0 => l
  | k + 1 => if k = i then othK F G n i l k else pairL F G (othK F G n i l k) (i * (n + 1) + k) (k * (n + 1) + i)
theorem othK_len (F G : Int → Int) (n i : Nat) (l : List Int) (k : Nat) : (othK F G n i l k).length = l.length := by
  induction k with
  | zero => rfl
  | succ k ih =>
    simp only [othK]
    split
    · exact ih
    · rw [pairL_len, ih]
theorem othK_at {F G : Int → Int} {n i : Nat} (hi : i ≤ n) {l : List Int} (hl : l.length = (n + 1) * (n + 1)) : ∀ k, k ≤ n + 1 → ∀ a b, a ≤ n → b ≤ n →
    mat n (othK F G n i l k) a b = if a = i ∧ b ≠ i ∧ b < k then F (mat n l a b) else if b = i ∧ a ≠ i ∧ a < k then G (mat n l a b) else mat n l a b := by
  intro k
  induction k with
  | zero =>
    intro _ a b _ _
    rw [if_neg (by omega), if_neg (by omega)]
    rfl
  | succ k ih =>
    intro hk a b ha hb
    have h1 := ih (by omega)
    have hkn : k ≤ n := by omega
    simp only [othK]
    by_cases hki : k = i
    · rw [if_pos hki, h1 a b ha hb]
      by_cases c1 : a = i ∧ b ≠ i ∧ b < k
      · rw [if_pos c1, if_pos (show a = i ∧ b ≠ i ∧ b < k + 1 by omega)]
      · by_cases c2 : b = i ∧ a ≠ i ∧ a < k
        · rw [if_neg c1, if_pos c2, if_neg (show ¬ (a = i ∧ b ≠ i ∧ b < k + 1) by omega), if_pos (show b = i ∧ a ≠ i ∧ a < k + 1 by omega)]
        · rw [if_neg c1, if_neg c2, if_neg (show ¬ (a = i ∧ b ≠ i ∧ b < k + 1) by omega), if_neg (show ¬ (b = i ∧ a ≠ i ∧ a < k + 1) by omega)]
    · rw [if_neg hki]
      unfold pairL
      have hlk : (othK F G n i l k).length = (n + 1) * (n + 1) := by rw [othK_len, hl]
      rw [mat_set (by rw [List.length_set]; exact hlk) (place_lt hkn hi) _ ha hb, mat_set hlk (place_lt hi hkn) _ ha hb, place_div hi, place_mod hi, place_div hkn, place_mod hkn]
      have e1 : (othK F G n i l k).getD (i * (n + 1) + k) 0 = mat n l i k := by
        have := h1 i k hi hkn
        rw [if_neg (by omega), if_neg (by omega)] at this
        exact this
      have e2 : (othK F G n i l k).getD (k * (n + 1) + i) 0 = mat n l k i := by
        have := h1 k i hkn hi
        rw [if_neg (by omega), if_neg (by omega)] at this
        exact this
      rw [e1, e2, h1 a b ha hb]
      by_cases c1 : a = k ∧ b = i
      · rw [if_pos c1, if_neg (show ¬ (a = i ∧ b ≠ i ∧ b < k + 1) by omega), if_pos (show b = i ∧ a ≠ i ∧ a < k + 1 by omega), c1.1, c1.2]
      · rw [if_neg c1]
        by_cases c2 : a = i ∧ b = k
        · rw [if_pos c2, if_pos (show a = i ∧ b ≠ i ∧ b < k + 1 by omega), c2.1, c2.2]
        · rw [if_neg c2]
          by_cases c3 : a = i ∧ b ≠ i ∧ b < k
          · rw [if_pos c3, if_pos (show a = i ∧ b ≠ i ∧ b < k + 1 by omega)]
          · by_cases c4 : b = i ∧ a ≠ i ∧ a < k
            · rw [if_neg c3, if_pos c4, if_neg (show ¬ (a = i ∧ b ≠ i ∧ b < k + 1) by omega), if_pos (show b = i ∧ a ≠ i ∧ a < k + 1 by omega)]
            · rw [if_neg c3, if_neg c4, if_neg (show ¬ (a = i ∧ b ≠ i ∧ b < k + 1) by omega), if_neg (show ¬ (b = i ∧ a ≠ i ∧ a < k + 1) by omega)]
theorem othK_places {F G : Int → Int} {n i k : Nat} (hi : i ≤ n) (hk : k ≤ n) (hki : k ≠ i) {l : List Int} (hl : l.length = (n + 1) * (n + 1)) : (othK F G n i l k).getD (i * (n + 1) + k) 0 = mat n l i k ∧ (othK F G n i l k).getD (k * (n + 1) + i) 0 = mat n l k i := by
  have h1 := othK_at (F := F) (G := G) hi hl k (by omega)
  constructor
  · have := h1 i k hi hk
    rw [if_neg (by omega), if_neg (by omega)] at this
    exact this
  · have := h1 k i hk hi
    rw [if_neg (by omega), if_neg (by omega)] at this
    exact this
def forL (n : Nat) (l : List Int) (i : Nat) : List Int := othK (fun _ => 4398046511104) (fun _ => 4398046511104) n i l (n + 1)
def movL (n : Nat) (l : List Int) (i : Nat) (c : Int) : List Int := othK (fun x => x + c) (fun x => x - c) n i l (n + 1)
set_option maxRecDepth 100000 in
set_option maxHeartbeats 2000000 in
theorem others_far (n : Nat) (hn : n ≤ 8) (i : Nat) (hi : i ≤ n) (g cap base : Nat) (l : List Int) (hl : l.length = sz n) (w : World) 
    (hown : w.ownsRow base 3 1 (.slice (some ⟨g, 0, none⟩) (sz n) cap) (sz n) (nums .i64 l)) :
    Calls Try.prog 84 #[.agg #[.int .i64 n, .slice (some ⟨g, 0, none⟩) (sz n) cap], .int .i64 i, .func (.func 85) #[] #[]] w (MatS (sz n) g cap base (forL n l i) w) := by
  have hs81 := sz_le hn
  have hni : (n : Int) ≤ 8 := by omega
  have v1 : IntKind.i64.wrap ((n : Int) + 1) = (n : Int) + 1 := wrap_small (by omega) (by omega)
  have hat := Lib.hid (fun a b W (h1 : a ≤ n) (h2 : b ≤ n) => mat_at n a b hn h1 h2 (some ⟨g, 0, none⟩) (sz n) cap W)
  have hlen : Hid (∀ k, (othK (fun _ => 4398046511104) (fun _ => 4398046511104) n i l k).length = sz n) := Lib.hid (fun k => by rw [othK_len, hl])
  have hfin : Hid (forL n l i = othK (fun _ => 4398046511104) (fun _ => 4398046511104) n i l (n + 1)) := Lib.hid rfl
  have hstep : Hid (∀ k, othK (fun _ => 4398046511104) (fun _ => 4398046511104) n i l (k + 1) = if k = i then othK (fun _ => 4398046511104) (fun _ => 4398046511104) n i l k else pairL (fun _ => 4398046511104) (fun _ => 4398046511104) (othK (fun _ => 4398046511104) (fun _ => 4398046511104) n i l k) (i * (n + 1) + k) (k * (n + 1) + i)) := Lib.hid (fun k => rfl)
  have hpl : Hid (∀ k, k ≤ n → i * (n + 1) + k < sz n ∧ k * (n + 1) + i < sz n) := Lib.hid (fun k hk => ⟨place_lt hi hk, place_lt hk hi⟩)
  have hst : Hid (othK (fun _ => 4398046511104) (fun _ => 4398046511104) n i l 0 = l) := Lib.hid rfl
  generalize forL n l i = R at *
  generalize hQ : othK (fun _ => 4398046511104) (fun _ => 4398046511104) n i l = Q at *
  clear hQ
  generalize sz n = s at *
  have hglt := (hown.lt g rfl).2
  obtain ⟨W1, hW1⟩ : ∃ W1, W1 = w.alloc (.cells #[.int .i64 n, .slice (some ⟨g, 0, none⟩) s cap] 76) := ⟨_, rfl⟩
  have hB : Below w.heap.size w W1 := by rw [hW1]; exact box_below _ _ _
  have Z1 : Holds W1 w.heap.size 76 #[.int .i64 n, .slice (some ⟨g, 0, none⟩) s cap] := by rw [hW1]; exact Holds.new w _ _
  have O1 : Hid (W1.ownsRow base 3 1 (.slice (some ⟨g, 0, none⟩) s cap) s (nums .i64 (Q 0))) := Lib.hid (by rw [hst.out]; exact own_below hown hB)
  have hx0 : w.heap.size ∉ [g] := by simp; omega
  have hW1' := Lib.hid hW1
  have hB' := Lib.hid hB
  have Z1' := Lib.hid Z1
  clear hW1 hB Z1 hown hl hst hglt hn
  go_enter Try.func84, Try.ntmps84
  go_wp2
  rw [← hW1'.out]
  go_loopw [10] (fun x wr => ∃ k : Nat, k ≤ n + 1 ∧ x = .int .i64 k ∧ Hid (wr.ownsRow base 3 1 (.slice (some ⟨g, 0, none⟩) s cap) s (nums .i64 (Q k))) ∧ Hid (BelowE [g] W1.heap.size W1 wr)) (fun x _ => n + 1 - (intOf x).toNat)
  case atStart => exact ⟨0, by omega, rfl, O1, Lib.hid (BelowE.refl _ _ _)⟩
  case round =>
    clear O1
    obtain ⟨k, hkn, rfl, hown, hb⟩ := hrel
    by_cases hlt : k < n + 1
    · have hki : (k : Int) < (n : Int) + 1 := by omega
      by_cases hk : k = i
      · subst hk
        have hnx : Hid (wr.ownsRow base 3 1 (.slice (some ⟨g, 0, none⟩) s cap) s (nums .i64 (Q (k + 1)))) := Lib.hid (by rw [hstep.out, if_pos rfl]; exact hown.out)
        clear hown
        go_wp2
        go_roundw
        case rel => exact ⟨k + 1, by omega, by go_num, hnx, hb⟩
        case measure => simp [intOf]; omega
      · have hne : ((k : Int) != (i : Int)) = true := by simp; omega
        have hne2 : ¬ (k : Int) = (i : Int) := by omega
        have Y := Lib.hid (Z1'.out.belowE hb.out Z1'.out.lt hx0)
        have c0 : ∀ W, BelowE [g] wr.heap.size wr W → W.cell? ⟨w.heap.size, 0, none⟩ = some (.int .i64 n) := fun W hW => (Y.out.belowE hW Y.out.lt hx0).cell 0
        have c1 : ∀ W, BelowE [g] wr.heap.size wr W → W.cell? ⟨w.heap.size, 1, none⟩ = some (.slice (some ⟨g, 0, none⟩) s cap) := fun W hW => (Y.out.belowE hW Y.out.lt hx0).cell 1
        have h6 := Lib.hid (fun W => hat.out i k W hi (by omega))
        have h13 := Lib.hid (fun W => hat.out k i W (by omega) hi)
        obtain ⟨q1, q2⟩ := hpl.out k (by omega)
        have hcall := Lib.hid (fun W (hW : W.ownsRow base 3 1 (.slice (some ⟨g, 0, none⟩) s cap) s (nums .i64 (Q k)))  => fforget_any g cap base s (i * (n + 1) + k) (k * (n + 1) + i) (Q k) (hlen.out k) q1 q2 W hW)
        have hnx : Hid (pairL (fun _ => 4398046511104) (fun _ => 4398046511104) (Q k) (i * (n + 1) + k) (k * (n + 1) + i) = Q (k + 1)) := Lib.hid (by rw [hstep.out, if_neg hk])
        have hlk := hlen.out k
        simp only [far_pair] at hcall
        rw [hnx.out] at hcall
        clear hnx hlk Y
        generalize i * (n + 1) + k = p at *
        generalize k * (n + 1) + i = q at *
        have p1 : (p : Int) < (s : Int) := by omega
        have p2 : (q : Int) < (s : Int) := by omega
        go_wp2
        refine wp_drawn_on (fun W => BelowE [g] wr.heap.size wr W) (by kernel_rfl) ((BelowE.refl _ _ _).drew) (fun hHeld => ?_)
        refine wpAnyH_take (i := 0) (oi := { dst := some 16, op := Go.Op.move (Go.Operand.tmp 2), type := 91, pos := "zone.go:130", after := #[], guard := none }) (v := ?v1) rfl (by kernel_rfl) (by kernel_rfl) (by kernel_rfl) (fun _ _ _ h => h) (Or.inl ⟨by kernel_rfl, ?h1⟩) (by assumption) ?r1
        case h1 => (intro w hSw; (try dsimp only at hSw); go_simp; try with_reducible rfl)
        try simp only [Act.put, List.setIfInBounds_toArray, List.set_cons_zero, List.set_cons_succ]
        refine wpAnyH_take (i := 1) (oi := { dst := some 17, op := Go.Op.fieldAddr 76 (Go.Operand.tmp 3) 1, type := 0, pos := "zone.go:130", after := #[], guard := none }) (v := ?v2) rfl (by kernel_rfl) (by kernel_rfl) (by kernel_rfl) (fun _ _ _ h => h) (Or.inl ⟨by kernel_rfl, ?h2⟩) (by assumption) ?r2
        case h2 => (intro w hSw; (try dsimp only at hSw); go_simp; try with_reducible rfl)
        try simp only [Act.put, List.setIfInBounds_toArray, List.set_cons_zero, List.set_cons_succ]
        refine wpAnyH_take (i := 2) (oi := { dst := some 18, op := Go.Op.load 22 (Go.Operand.tmp 17), type := 22, pos := "zone.go:130", after := #[{ on := 1, ground := Go.Ground.data }], guard := none }) (v := ?v3) rfl (by kernel_rfl) (by kernel_rfl) (by kernel_rfl) (fun _ _ _ h => h) (Or.inl ⟨by kernel_rfl, ?h3⟩) (by assumption) ?r3
        case h3 => (intro w hSw; (try dsimp only at hSw); go_simp; try with_reducible rfl)
        try simp only [Act.put, List.setIfInBounds_toArray, List.set_cons_zero, List.set_cons_succ]
        refine wpAnyH_take (i := 3) (oi := { dst := some 19, op := Go.Op.load 76 (Go.Operand.tmp 3), type := 76, pos := "zone.go:130", after := #[], guard := none }) (v := ?v4) rfl (by kernel_rfl) (by kernel_rfl) (by kernel_rfl) (fun _ _ _ h => h) (Or.inl ⟨by kernel_rfl, ?h4⟩) (by assumption) ?r4
        case h4 => (intro w hSw; (try dsimp only at hSw); go_simp; try with_reducible rfl)
        try simp only [Act.put, List.setIfInBounds_toArray, List.set_cons_zero, List.set_cons_succ]
        refine wpAnyH_take (i := 4) (oi := { dst := some 20, op := Go.Op.move (Go.Operand.tmp 1), type := 3, pos := "zone.go:130", after := #[], guard := none }) (v := ?v5) rfl (by kernel_rfl) (by kernel_rfl) (by kernel_rfl) (fun _ _ _ h => h) (Or.inl ⟨by kernel_rfl, ?h5⟩) (by assumption) ?r5
        case h5 => (intro w hSw; (try dsimp only at hSw); go_simp; try with_reducible rfl)
        try simp only [Act.put, List.setIfInBounds_toArray, List.set_cons_zero, List.set_cons_succ]
        refine wpAnyH_take (i := 5) (oi := { dst := some 21, op := Go.Op.move (Go.Operand.tmp 6), type := 3, pos := "zone.go:130", after := #[], guard := none }) (v := ?v6) rfl (by kernel_rfl) (by kernel_rfl) (by kernel_rfl) (fun _ _ _ h => h) (Or.inl ⟨by kernel_rfl, ?h6⟩) (by assumption) ?r6
        case h6 => (intro w hSw; (try dsimp only at hSw); go_simp; try with_reducible rfl)
        try simp only [Act.put, List.setIfInBounds_toArray, List.set_cons_zero, List.set_cons_succ]
        refine wpAnyH_take (i := 8) (oi := { dst := some 24, op := Go.Op.fieldAddr 76 (Go.Operand.tmp 3) 1, type := 0, pos := "zone.go:130", after := #[], guard := none }) (v := ?v7) rfl (by kernel_rfl) (by kernel_rfl) (by kernel_rfl) (fun _ _ _ h => h) (Or.inl ⟨by kernel_rfl, ?h7⟩) (by assumption) ?r7
        case h7 => (intro w hSw; (try dsimp only at hSw); go_simp; try with_reducible rfl)
        try simp only [Act.put, List.setIfInBounds_toArray, List.set_cons_zero, List.set_cons_succ]
        refine wpAnyH_take (i := 9) (oi := { dst := some 25, op := Go.Op.load 22 (Go.Operand.tmp 24), type := 22, pos := "zone.go:130", after := #[{ on := 8, ground := Go.Ground.data }], guard := none }) (v := ?v8) rfl (by kernel_rfl) (by kernel_rfl) (by kernel_rfl) (fun _ _ _ h => h) (Or.inl ⟨by kernel_rfl, ?h8⟩) (by assumption) ?r8
        case h8 => (intro w hSw; (try dsimp only at hSw); go_simp; try with_reducible rfl)
        try simp only [Act.put, List.setIfInBounds_toArray, List.set_cons_zero, List.set_cons_succ]
        refine wpAnyH_take (i := 10) (oi := { dst := some 26, op := Go.Op.load 76 (Go.Operand.tmp 3), type := 76, pos := "zone.go:130", after := #[], guard := none }) (v := ?v9) rfl (by kernel_rfl) (by kernel_rfl) (by kernel_rfl) (fun _ _ _ h => h) (Or.inl ⟨by kernel_rfl, ?h9⟩) (by assumption) ?r9
        case h9 => (intro w hSw; (try dsimp only at hSw); go_simp; try with_reducible rfl)
        try simp only [Act.put, List.setIfInBounds_toArray, List.set_cons_zero, List.set_cons_succ]
        refine wpAnyH_take (i := 11) (oi := { dst := some 27, op := Go.Op.move (Go.Operand.tmp 6), type := 3, pos := "zone.go:130", after := #[], guard := none }) (v := ?v10) rfl (by kernel_rfl) (by kernel_rfl) (by kernel_rfl) (fun _ _ _ h => h) (Or.inl ⟨by kernel_rfl, ?h10⟩) (by assumption) ?r10
        case h10 => (intro w hSw; (try dsimp only at hSw); go_simp; try with_reducible rfl)
        try simp only [Act.put, List.setIfInBounds_toArray, List.set_cons_zero, List.set_cons_succ]
        refine wpAnyH_take (i := 12) (oi := { dst := some 28, op := Go.Op.move (Go.Operand.tmp 1), type := 3, pos := "zone.go:130", after := #[], guard := none }) (v := ?v11) rfl (by kernel_rfl) (by kernel_rfl) (by kernel_rfl) (fun _ _ _ h => h) (Or.inl ⟨by kernel_rfl, ?h11⟩) (by assumption) ?r11
        case h11 => (intro w hSw; (try dsimp only at hSw); go_simp; try with_reducible rfl)
        try simp only [Act.put, List.setIfInBounds_toArray, List.set_cons_zero, List.set_cons_succ]
        refine wpAnyH_ready (rs := [6]) (by kernel_rfl) (by simp) ?_
        refine AllReadyH.cons (o := { dst := some 22, op := Go.Op.call { callee := Go.Callee.value (Go.Operand.func 83), args := #[Go.Operand.tmp 19, Go.Operand.tmp 20, Go.Operand.tmp 21], argTypes := #[76, 3, 3] }, type := 3, pos := "zone.go:130", after := #[{ on := 3, ground := Go.Ground.data }, { on := 4, ground := Go.Ground.data }, { on := 5, ground := Go.Ground.data }], guard := none }) rfl (fun K hK => ?_) AllReadyH.nil
        go_simp
        refine (h6.out _).mono ?_
        rintro e v6 ⟨rfl, b6⟩
        have O6 := Lib.hid (own_below (show (wr.drew).ownsRow base 3 1 (.slice (some ⟨g, 0, none⟩) s cap) s (nums .i64 (Q k)) from hown.out) b6)
        go_simp
        refine hK.out _ _ (hHeld.trans (BelowE.of (b6.mono hHeld.size))) (fun hHeld => ?_)
        clear hK K
        try simp only [Act.put, List.setIfInBounds_toArray, List.set_cons_zero, List.set_cons_succ]
        refine wpAnyH_take (i := 7) (oi := { dst := some 23, op := Go.Op.indexAddr 22 (Go.Operand.tmp 18) (Go.Operand.tmp 22), type := 0, pos := "zone.go:130", after := #[{ on := 2, ground := Go.Ground.data }, { on := 6, ground := Go.Ground.data }], guard := none }) (v := ?v12) rfl (by kernel_rfl) (by kernel_rfl) (by kernel_rfl) (fun _ _ _ h => h) (Or.inl ⟨by kernel_rfl, ?h12⟩) (by assumption) ?r12
        case h12 => (intro w hSw; (try dsimp only at hSw); go_simp; try with_reducible rfl)
        try simp only [Act.put, List.setIfInBounds_toArray, List.set_cons_zero, List.set_cons_succ]
        refine wpAnyH_ready (rs := [13]) (by kernel_rfl) (by simp) ?_
        refine AllReadyH.cons (o := { dst := some 29, op := Go.Op.call { callee := Go.Callee.value (Go.Operand.func 83), args := #[Go.Operand.tmp 26, Go.Operand.tmp 27, Go.Operand.tmp 28], argTypes := #[76, 3, 3] }, type := 3, pos := "zone.go:130", after := #[{ on := 10, ground := Go.Ground.data }, { on := 11, ground := Go.Ground.data }, { on := 12, ground := Go.Ground.data }, { on := 6, ground := Go.Ground.chain }], guard := none }) rfl (fun K hK => ?_) AllReadyH.nil
        go_simp
        refine (h13.out _).mono ?_
        rintro e v13 ⟨rfl, b13⟩
        have O13 := Lib.hid (own_below O6.out b13)
        go_simp
        refine hK.out _ _ (hHeld.trans (BelowE.of (b13.mono hHeld.size))) (fun hHeld => ?_)
        clear hK K
        try simp only [Act.put, List.setIfInBounds_toArray, List.set_cons_zero, List.set_cons_succ]
        refine wpAnyH_take (i := 14) (oi := { dst := some 30, op := Go.Op.indexAddr 22 (Go.Operand.tmp 25) (Go.Operand.tmp 29), type := 0, pos := "zone.go:130", after := #[{ on := 9, ground := Go.Ground.data }, { on := 13, ground := Go.Ground.data }], guard := none }) (v := ?v13) rfl (by kernel_rfl) (by kernel_rfl) (by kernel_rfl) (fun _ _ _ h => h) (Or.inl ⟨by kernel_rfl, ?h13⟩) (by assumption) ?r13
        case h13 => (intro w hSw; (try dsimp only at hSw); go_simp; try with_reducible rfl)
        try simp only [Act.put, List.setIfInBounds_toArray, List.set_cons_zero, List.set_cons_succ]
        refine wpAnyH_ready (rs := [15]) (by kernel_rfl) (by simp) ?_
        refine AllReadyH.cons (o := { dst := some 31, op := Go.Op.call { callee := Go.Callee.value (Go.Operand.tmp 16), args := #[Go.Operand.tmp 23, Go.Operand.tmp 30], argTypes := #[90, 90] }, type := 0, pos := "zone.go:130", after := #[{ on := 0, ground := Go.Ground.data }, { on := 7, ground := Go.Ground.data }, { on := 14, ground := Go.Ground.data }, { on := 13, ground := Go.Ground.chain }], guard := none }) rfl (fun K hK => ?_) AllReadyH.nil
        go_simp
        refine (hcall.out _ O13.out ).mono ?_
        rintro e v15 ⟨rfl, o15, b15⟩
        have o15' := Lib.hid o15
        clear o15
        go_simp
        refine hK.out _ _ (hHeld.trans (b15.mono hHeld.size)) (fun hHeld => ?_)
        clear hK K
        try simp only [Act.put, List.setIfInBounds_toArray, List.set_cons_zero, List.set_cons_succ]
        refine wpAnyH_done (by kernel_rfl) ?_ _
        have hb2 := Lib.hid (hb.out.trans (hHeld.mono hb.out.size))
        go_wp2
        go_roundw
        case rel => exact ⟨k + 1, by omega, by go_num, o15', hb2⟩
        case measure => simp [intOf]; omega
    · have hke : k = n + 1 := by omega
      have hr : Hid (MatS s g cap base R w (.returned (.tuple #[])) wr) := Lib.hid ⟨rfl, by rw [hfin.out, ← hke]; exact hown.out, (BelowE.of hB'.out).trans (hb.out.mono hB'.out.size)⟩
      clear hown hb
      go_wp2
      go_end0
      exact hr.out
set_option maxRecDepth 100000 in
set_option maxHeartbeats 2000000 in
theorem others_mov (n : Nat) (hn : n ≤ 8) (i : Nat) (hi : i ≤ n) (gw : Nat) (i0 j0 c : Int) (hc : -4398046511104 ≤ c ∧ c ≤ 4398046511104) (g cap base : Nat) (l : List Int) (hl : l.length = sz n) (w : World) (hlb : ∀ p, -2199023255552 ≤ l.getD p 0 ∧ l.getD p 0 ≤ 2199023255552) (hw : Holds w gw 72 #[.int .i64 i0, .int .i64 j0, .int .i64 c]) (hgw : gw ≠ g)
    (hown : w.ownsRow base 3 1 (.slice (some ⟨g, 0, none⟩) (sz n) cap) (sz n) (nums .i64 l)) :
    Calls Try.prog 84 #[.agg #[.int .i64 n, .slice (some ⟨g, 0, none⟩) (sz n) cap], .int .i64 i, .func (.func 86) #[] #[.pointer (some ⟨gw, 0, none⟩)]] w (MatS (sz n) g cap base (movL n l i c) w) := by
  have hs81 := sz_le hn
  have hni : (n : Int) ≤ 8 := by omega
  have v1 : IntKind.i64.wrap ((n : Int) + 1) = (n : Int) + 1 := wrap_small (by omega) (by omega)
  have hat := Lib.hid (fun a b W (h1 : a ≤ n) (h2 : b ≤ n) => mat_at n a b hn h1 h2 (some ⟨g, 0, none⟩) (sz n) cap W)
  have hlen : Hid (∀ k, (othK (fun x => x + c) (fun x => x - c) n i l k).length = sz n) := Lib.hid (fun k => by rw [othK_len, hl])
  have hfin : Hid (movL n l i c = othK (fun x => x + c) (fun x => x - c) n i l (n + 1)) := Lib.hid rfl
  have hstep : Hid (∀ k, othK (fun x => x + c) (fun x => x - c) n i l (k + 1) = if k = i then othK (fun x => x + c) (fun x => x - c) n i l k else pairL (fun x => x + c) (fun x => x - c) (othK (fun x => x + c) (fun x => x - c) n i l k) (i * (n + 1) + k) (k * (n + 1) + i)) := Lib.hid (fun k => rfl)
  have hpl : Hid (∀ k, k ≤ n → i * (n + 1) + k < sz n ∧ k * (n + 1) + i < sz n) := Lib.hid (fun k hk => ⟨place_lt hi hk, place_lt hk hi⟩)
  have hpv : Hid (∀ k, k ≤ n → k ≠ i → (-9000000000000 ≤ (othK (fun x => x + c) (fun x => x - c) n i l k).getD (i * (n + 1) + k) 0 ∧ (othK (fun x => x + c) (fun x => x - c) n i l k).getD (i * (n + 1) + k) 0 ≤ 9000000000000) ∧ (-9000000000000 ≤ (othK (fun x => x + c) (fun x => x - c) n i l k).getD (k * (n + 1) + i) 0 ∧ (othK (fun x => x + c) (fun x => x - c) n i l k).getD (k * (n + 1) + i) 0 ≤ 9000000000000)) := Lib.hid (fun k hk hki => by
    obtain ⟨e1, e2⟩ := othK_places (F := fun x => x + c) (G := fun x => x - c) hi hk hki hl
    rw [e1, e2]
    have r1 := hlb (i * (n + 1) + k)
    have r2 := hlb (k * (n + 1) + i)
    unfold mat
    omega)
  have hpd : Hid (∀ k, k ≤ n → k ≠ i → i * (n + 1) + k ≠ k * (n + 1) + i) := Lib.hid (fun k hk hki e => by
    have := congrArg (fun x => x % (n + 1)) e
    simp only [place_mod hk, place_mod hi] at this
    exact hki this)
  have hst : Hid (othK (fun x => x + c) (fun x => x - c) n i l 0 = l) := Lib.hid rfl
  generalize movL n l i c = R at *
  generalize hQ : othK (fun x => x + c) (fun x => x - c) n i l = Q at *
  clear hQ
  generalize sz n = s at *
  have hglt := (hown.lt g rfl).2
  obtain ⟨W1, hW1⟩ : ∃ W1, W1 = w.alloc (.cells #[.int .i64 n, .slice (some ⟨g, 0, none⟩) s cap] 76) := ⟨_, rfl⟩
  have hB : Below w.heap.size w W1 := by rw [hW1]; exact box_below _ _ _
  have Z1 : Holds W1 w.heap.size 76 #[.int .i64 n, .slice (some ⟨g, 0, none⟩) s cap] := by rw [hW1]; exact Holds.new w _ _
  have O1 : Hid (W1.ownsRow base 3 1 (.slice (some ⟨g, 0, none⟩) s cap) s (nums .i64 (Q 0))) := Lib.hid (by rw [hst.out]; exact own_below hown hB)
  have Zw := Lib.hid (hw.below hB hw.lt)
  have hgw2 : gw ∉ [g] := by simpa using hgw
  have hx0 : w.heap.size ∉ [g] := by simp; omega
  have hW1' := Lib.hid hW1
  have hB' := Lib.hid hB
  have Z1' := Lib.hid Z1
  clear hW1 hB Z1 hown hl hst hglt hn
  go_enter Try.func84, Try.ntmps84
  go_wp2
  rw [← hW1'.out]
  go_loopw [10] (fun x wr => ∃ k : Nat, k ≤ n + 1 ∧ x = .int .i64 k ∧ Hid (wr.ownsRow base 3 1 (.slice (some ⟨g, 0, none⟩) s cap) s (nums .i64 (Q k))) ∧ Hid (BelowE [g] W1.heap.size W1 wr)) (fun x _ => n + 1 - (intOf x).toNat)
  case atStart => exact ⟨0, by omega, rfl, O1, Lib.hid (BelowE.refl _ _ _)⟩
  case round =>
    clear O1
    obtain ⟨k, hkn, rfl, hown, hb⟩ := hrel
    by_cases hlt : k < n + 1
    · have hki : (k : Int) < (n : Int) + 1 := by omega
      by_cases hk : k = i
      · subst hk
        have hnx : Hid (wr.ownsRow base 3 1 (.slice (some ⟨g, 0, none⟩) s cap) s (nums .i64 (Q (k + 1)))) := Lib.hid (by rw [hstep.out, if_pos rfl]; exact hown.out)
        clear hown
        go_wp2
        go_roundw
        case rel => exact ⟨k + 1, by omega, by go_num, hnx, hb⟩
        case measure => simp [intOf]; omega
      · have hne : ((k : Int) != (i : Int)) = true := by simp; omega
        have hne2 : ¬ (k : Int) = (i : Int) := by omega
        have Y := Lib.hid (Z1'.out.belowE hb.out Z1'.out.lt hx0)
        have c0 : ∀ W, BelowE [g] wr.heap.size wr W → W.cell? ⟨w.heap.size, 0, none⟩ = some (.int .i64 n) := fun W hW => (Y.out.belowE hW Y.out.lt hx0).cell 0
        have c1 : ∀ W, BelowE [g] wr.heap.size wr W → W.cell? ⟨w.heap.size, 1, none⟩ = some (.slice (some ⟨g, 0, none⟩) s cap) := fun W hW => (Y.out.belowE hW Y.out.lt hx0).cell 1
        have h6 := Lib.hid (fun W => hat.out i k W hi (by omega))
        have h13 := Lib.hid (fun W => hat.out k i W (by omega) hi)
        obtain ⟨q1, q2⟩ := hpl.out k (by omega)
        have hcall := Lib.hid (fun W (hW : W.ownsRow base 3 1 (.slice (some ⟨g, 0, none⟩) s cap) s (nums .i64 (Q k))) (hH : Holds W gw 72 #[.int .i64 i0, .int .i64 j0, .int .i64 c]) => fmove_any g cap base s (i * (n + 1) + k) (k * (n + 1) + i) gw i0 j0 c hc (Q k) (hlen.out k) q1 q2 (hpd.out k (by omega) hk) (hpv.out k (by omega) hk).1 (hpv.out k (by omega) hk).2 W hH hgw hW)
        have hnx : Hid (pairL (fun x => x + c) (fun x => x - c) (Q k) (i * (n + 1) + k) (k * (n + 1) + i) = Q (k + 1)) := Lib.hid (by rw [hstep.out, if_neg hk])
        have hlk := hlen.out k
        simp only [mov_pair] at hcall
        rw [hnx.out] at hcall
        clear hnx hlk Y
        generalize i * (n + 1) + k = p at *
        generalize k * (n + 1) + i = q at *
        have p1 : (p : Int) < (s : Int) := by omega
        have p2 : (q : Int) < (s : Int) := by omega
        go_wp2
        refine wp_drawn_on (fun W => BelowE [g] wr.heap.size wr W) (by kernel_rfl) ((BelowE.refl _ _ _).drew) (fun hHeld => ?_)
        refine wpAnyH_take (i := 0) (oi := { dst := some 16, op := Go.Op.move (Go.Operand.tmp 2), type := 91, pos := "zone.go:130", after := #[], guard := none }) (v := ?v14) rfl (by kernel_rfl) (by kernel_rfl) (by kernel_rfl) (fun _ _ _ h => h) (Or.inl ⟨by kernel_rfl, ?h14⟩) (by assumption) ?r14
        case h14 => (intro w hSw; (try dsimp only at hSw); go_simp; try with_reducible rfl)
        try simp only [Act.put, List.setIfInBounds_toArray, List.set_cons_zero, List.set_cons_succ]
        refine wpAnyH_take (i := 1) (oi := { dst := some 17, op := Go.Op.fieldAddr 76 (Go.Operand.tmp 3) 1, type := 0, pos := "zone.go:130", after := #[], guard := none }) (v := ?v15) rfl (by kernel_rfl) (by kernel_rfl) (by kernel_rfl) (fun _ _ _ h => h) (Or.inl ⟨by kernel_rfl, ?h15⟩) (by assumption) ?r15
        case h15 => (intro w hSw; (try dsimp only at hSw); go_simp; try with_reducible rfl)
        try simp only [Act.put, List.setIfInBounds_toArray, List.set_cons_zero, List.set_cons_succ]
        refine wpAnyH_take (i := 2) (oi := { dst := some 18, op := Go.Op.load 22 (Go.Operand.tmp 17), type := 22, pos := "zone.go:130", after := #[{ on := 1, ground := Go.Ground.data }], guard := none }) (v := ?v16) rfl (by kernel_rfl) (by kernel_rfl) (by kernel_rfl) (fun _ _ _ h => h) (Or.inl ⟨by kernel_rfl, ?h16⟩) (by assumption) ?r16
        case h16 => (intro w hSw; (try dsimp only at hSw); go_simp; try with_reducible rfl)
        try simp only [Act.put, List.setIfInBounds_toArray, List.set_cons_zero, List.set_cons_succ]
        refine wpAnyH_take (i := 3) (oi := { dst := some 19, op := Go.Op.load 76 (Go.Operand.tmp 3), type := 76, pos := "zone.go:130", after := #[], guard := none }) (v := ?v17) rfl (by kernel_rfl) (by kernel_rfl) (by kernel_rfl) (fun _ _ _ h => h) (Or.inl ⟨by kernel_rfl, ?h17⟩) (by assumption) ?r17
        case h17 => (intro w hSw; (try dsimp only at hSw); go_simp; try with_reducible rfl)
        try simp only [Act.put, List.setIfInBounds_toArray, List.set_cons_zero, List.set_cons_succ]
        refine wpAnyH_take (i := 4) (oi := { dst := some 20, op := Go.Op.move (Go.Operand.tmp 1), type := 3, pos := "zone.go:130", after := #[], guard := none }) (v := ?v18) rfl (by kernel_rfl) (by kernel_rfl) (by kernel_rfl) (fun _ _ _ h => h) (Or.inl ⟨by kernel_rfl, ?h18⟩) (by assumption) ?r18
        case h18 => (intro w hSw; (try dsimp only at hSw); go_simp; try with_reducible rfl)
        try simp only [Act.put, List.setIfInBounds_toArray, List.set_cons_zero, List.set_cons_succ]
        refine wpAnyH_take (i := 5) (oi := { dst := some 21, op := Go.Op.move (Go.Operand.tmp 6), type := 3, pos := "zone.go:130", after := #[], guard := none }) (v := ?v19) rfl (by kernel_rfl) (by kernel_rfl) (by kernel_rfl) (fun _ _ _ h => h) (Or.inl ⟨by kernel_rfl, ?h19⟩) (by assumption) ?r19
        case h19 => (intro w hSw; (try dsimp only at hSw); go_simp; try with_reducible rfl)
        try simp only [Act.put, List.setIfInBounds_toArray, List.set_cons_zero, List.set_cons_succ]
        refine wpAnyH_take (i := 8) (oi := { dst := some 24, op := Go.Op.fieldAddr 76 (Go.Operand.tmp 3) 1, type := 0, pos := "zone.go:130", after := #[], guard := none }) (v := ?v20) rfl (by kernel_rfl) (by kernel_rfl) (by kernel_rfl) (fun _ _ _ h => h) (Or.inl ⟨by kernel_rfl, ?h20⟩) (by assumption) ?r20
        case h20 => (intro w hSw; (try dsimp only at hSw); go_simp; try with_reducible rfl)
        try simp only [Act.put, List.setIfInBounds_toArray, List.set_cons_zero, List.set_cons_succ]
        refine wpAnyH_take (i := 9) (oi := { dst := some 25, op := Go.Op.load 22 (Go.Operand.tmp 24), type := 22, pos := "zone.go:130", after := #[{ on := 8, ground := Go.Ground.data }], guard := none }) (v := ?v21) rfl (by kernel_rfl) (by kernel_rfl) (by kernel_rfl) (fun _ _ _ h => h) (Or.inl ⟨by kernel_rfl, ?h21⟩) (by assumption) ?r21
        case h21 => (intro w hSw; (try dsimp only at hSw); go_simp; try with_reducible rfl)
        try simp only [Act.put, List.setIfInBounds_toArray, List.set_cons_zero, List.set_cons_succ]
        refine wpAnyH_take (i := 10) (oi := { dst := some 26, op := Go.Op.load 76 (Go.Operand.tmp 3), type := 76, pos := "zone.go:130", after := #[], guard := none }) (v := ?v22) rfl (by kernel_rfl) (by kernel_rfl) (by kernel_rfl) (fun _ _ _ h => h) (Or.inl ⟨by kernel_rfl, ?h22⟩) (by assumption) ?r22
        case h22 => (intro w hSw; (try dsimp only at hSw); go_simp; try with_reducible rfl)
        try simp only [Act.put, List.setIfInBounds_toArray, List.set_cons_zero, List.set_cons_succ]
        refine wpAnyH_take (i := 11) (oi := { dst := some 27, op := Go.Op.move (Go.Operand.tmp 6), type := 3, pos := "zone.go:130", after := #[], guard := none }) (v := ?v23) rfl (by kernel_rfl) (by kernel_rfl) (by kernel_rfl) (fun _ _ _ h => h) (Or.inl ⟨by kernel_rfl, ?h23⟩) (by assumption) ?r23
        case h23 => (intro w hSw; (try dsimp only at hSw); go_simp; try with_reducible rfl)
        try simp only [Act.put, List.setIfInBounds_toArray, List.set_cons_zero, List.set_cons_succ]
        refine wpAnyH_take (i := 12) (oi := { dst := some 28, op := Go.Op.move (Go.Operand.tmp 1), type := 3, pos := "zone.go:130", after := #[], guard := none }) (v := ?v24) rfl (by kernel_rfl) (by kernel_rfl) (by kernel_rfl) (fun _ _ _ h => h) (Or.inl ⟨by kernel_rfl, ?h24⟩) (by assumption) ?r24
        case h24 => (intro w hSw; (try dsimp only at hSw); go_simp; try with_reducible rfl)
        try simp only [Act.put, List.setIfInBounds_toArray, List.set_cons_zero, List.set_cons_succ]
        refine wpAnyH_ready (rs := [6]) (by kernel_rfl) (by simp) ?_
        refine AllReadyH.cons (o := { dst := some 22, op := Go.Op.call { callee := Go.Callee.value (Go.Operand.func 83), args := #[Go.Operand.tmp 19, Go.Operand.tmp 20, Go.Operand.tmp 21], argTypes := #[76, 3, 3] }, type := 3, pos := "zone.go:130", after := #[{ on := 3, ground := Go.Ground.data }, { on := 4, ground := Go.Ground.data }, { on := 5, ground := Go.Ground.data }], guard := none }) rfl (fun K hK => ?_) AllReadyH.nil
        go_simp
        refine (h6.out _).mono ?_
        rintro e v6 ⟨rfl, b6⟩
        have O6 := Lib.hid (own_below (show (wr.drew).ownsRow base 3 1 (.slice (some ⟨g, 0, none⟩) s cap) s (nums .i64 (Q k)) from hown.out) b6)
        go_simp
        refine hK.out _ _ (hHeld.trans (BelowE.of (b6.mono hHeld.size))) (fun hHeld => ?_)
        clear hK K
        try simp only [Act.put, List.setIfInBounds_toArray, List.set_cons_zero, List.set_cons_succ]
        refine wpAnyH_take (i := 7) (oi := { dst := some 23, op := Go.Op.indexAddr 22 (Go.Operand.tmp 18) (Go.Operand.tmp 22), type := 0, pos := "zone.go:130", after := #[{ on := 2, ground := Go.Ground.data }, { on := 6, ground := Go.Ground.data }], guard := none }) (v := ?v25) rfl (by kernel_rfl) (by kernel_rfl) (by kernel_rfl) (fun _ _ _ h => h) (Or.inl ⟨by kernel_rfl, ?h25⟩) (by assumption) ?r25
        case h25 => (intro w hSw; (try dsimp only at hSw); go_simp; try with_reducible rfl)
        try simp only [Act.put, List.setIfInBounds_toArray, List.set_cons_zero, List.set_cons_succ]
        refine wpAnyH_ready (rs := [13]) (by kernel_rfl) (by simp) ?_
        refine AllReadyH.cons (o := { dst := some 29, op := Go.Op.call { callee := Go.Callee.value (Go.Operand.func 83), args := #[Go.Operand.tmp 26, Go.Operand.tmp 27, Go.Operand.tmp 28], argTypes := #[76, 3, 3] }, type := 3, pos := "zone.go:130", after := #[{ on := 10, ground := Go.Ground.data }, { on := 11, ground := Go.Ground.data }, { on := 12, ground := Go.Ground.data }, { on := 6, ground := Go.Ground.chain }], guard := none }) rfl (fun K hK => ?_) AllReadyH.nil
        go_simp
        refine (h13.out _).mono ?_
        rintro e v13 ⟨rfl, b13⟩
        have O13 := Lib.hid (own_below O6.out b13)
        go_simp
        refine hK.out _ _ (hHeld.trans (BelowE.of (b13.mono hHeld.size))) (fun hHeld => ?_)
        clear hK K
        try simp only [Act.put, List.setIfInBounds_toArray, List.set_cons_zero, List.set_cons_succ]
        refine wpAnyH_take (i := 14) (oi := { dst := some 30, op := Go.Op.indexAddr 22 (Go.Operand.tmp 25) (Go.Operand.tmp 29), type := 0, pos := "zone.go:130", after := #[{ on := 9, ground := Go.Ground.data }, { on := 13, ground := Go.Ground.data }], guard := none }) (v := ?v26) rfl (by kernel_rfl) (by kernel_rfl) (by kernel_rfl) (fun _ _ _ h => h) (Or.inl ⟨by kernel_rfl, ?h26⟩) (by assumption) ?r26
        case h26 => (intro w hSw; (try dsimp only at hSw); go_simp; try with_reducible rfl)
        try simp only [Act.put, List.setIfInBounds_toArray, List.set_cons_zero, List.set_cons_succ]
        refine wpAnyH_ready (rs := [15]) (by kernel_rfl) (by simp) ?_
        refine AllReadyH.cons (o := { dst := some 31, op := Go.Op.call { callee := Go.Callee.value (Go.Operand.tmp 16), args := #[Go.Operand.tmp 23, Go.Operand.tmp 30], argTypes := #[90, 90] }, type := 0, pos := "zone.go:130", after := #[{ on := 0, ground := Go.Ground.data }, { on := 7, ground := Go.Ground.data }, { on := 14, ground := Go.Ground.data }, { on := 13, ground := Go.Ground.chain }], guard := none }) rfl (fun K hK => ?_) AllReadyH.nil
        go_simp
        refine (hcall.out _ O13.out (Zw.out.belowE (hb.out.trans (hHeld.mono hb.out.size)) Zw.out.lt hgw2)).mono ?_
        rintro e v15 ⟨rfl, o15, b15⟩
        have o15' := Lib.hid o15
        clear o15
        go_simp
        refine hK.out _ _ (hHeld.trans (b15.mono hHeld.size)) (fun hHeld => ?_)
        clear hK K
        try simp only [Act.put, List.setIfInBounds_toArray, List.set_cons_zero, List.set_cons_succ]
        refine wpAnyH_done (by kernel_rfl) ?_ _
        have hb2 := Lib.hid (hb.out.trans (hHeld.mono hb.out.size))
        go_wp2
        go_roundw
        case rel => exact ⟨k + 1, by omega, by go_num, o15', hb2⟩
        case measure => simp [intOf]; omega
    · have hke : k = n + 1 := by omega
      have hr : Hid (MatS s g cap base R w (.returned (.tuple #[])) wr) := Lib.hid ⟨rfl, by rw [hfin.out, ← hke]; exact hown.out, (BelowE.of hB'.out).trans (hb.out.mono hB'.out.size)⟩
      clear hown hb
      go_wp2
      go_end0
      exact hr.out
theorem mforget_any (n : Nat) (hn : n ≤ 8) (i j : Nat) (hi : i ≤ n) (hj : j ≤ n) (c : Int) (hc : -4398046511104 ≤ c ∧ c ≤ 4398046511104) (g cap base : Nat) (l : List Int) (hl : l.length = sz n) (w : World) (hown : w.ownsRow base 3 1 (.slice (some ⟨g, 0, none⟩) (sz n) cap) (sz n) (nums .i64 l)) : Calls Try.prog 58 #[.agg #[.int .i64 n, .slice (some ⟨g, 0, none⟩) (sz n) cap], .agg #[.int .i64 i, .int .i64 j, .int .i64 c]] w (MatS (sz n) g cap base (forL n l i) w) := by
  obtain ⟨W1, hW1⟩ : ∃ W1, W1 = (w.alloc (.cells #[.int .i64 n, .slice (some ⟨g, 0, none⟩) (sz n) cap] 76)).alloc (.cells #[.int .i64 i, .int .i64 j, .int .i64 c] 72) := ⟨_, rfl⟩
  have hB : Below w.heap.size w W1 := by rw [hW1]; exact box2_below _ _ _ _ _
  have Z1 : Holds W1 w.heap.size 76 #[.int .i64 n, .slice (some ⟨g, 0, none⟩) (sz n) cap] := by rw [hW1]; exact (Holds.new w _ _).alloc _
  have Z2 : Holds W1 (w.heap.size + 1) 72 #[.int .i64 i, .int .i64 j, .int .i64 c] := by
    rw [hW1]
    have := Holds.new (w.alloc (.cells #[.int .i64 n, .slice (some ⟨g, 0, none⟩) (sz n) cap] 76)) 72 #[.int .i64 i, .int .i64 j, .int .i64 c]
    simpa using this
  have O1 := own_below hown hB
  have hglt := (hown.lt g rfl).2
  have hW1' := Lib.hid hW1
  have hB' := Lib.hid hB
  have q := Lib.hid (others_far n hn i hi g cap base l hl W1 O1)
  clear hW1 hB Z1 Z2 O1 hown hglt
  go_enter Try.func58, Try.ntmps58
  go_wp2_with fail
  rw [← hW1'.out]
  refine q.out.mono ?_
  rintro e w2 ⟨rfl, o2, b2⟩
  have hfin := Lib.hid (show MatS (sz n) g cap base (forL n l i) w (.returned (.tuple #[])) w2 from ⟨rfl, o2, (BelowE.of hB'.out).trans (b2.mono hB'.out.size)⟩)
  clear o2 b2
  go_wp2
  go_end0
  exact hfin.out
theorem mmove_any (n : Nat) (hn : n ≤ 8) (i j : Nat) (hi : i ≤ n) (hj : j ≤ n) (c : Int) (hc : -4398046511104 ≤ c ∧ c ≤ 4398046511104) (g cap base : Nat) (l : List Int) (hl : l.length = sz n) (hlb : ∀ p, -2199023255552 ≤ l.getD p 0 ∧ l.getD p 0 ≤ 2199023255552) (w : World) (hown : w.ownsRow base 3 1 (.slice (some ⟨g, 0, none⟩) (sz n) cap) (sz n) (nums .i64 l)) : Calls Try.prog 59 #[.agg #[.int .i64 n, .slice (some ⟨g, 0, none⟩) (sz n) cap], .agg #[.int .i64 i, .int .i64 j, .int .i64 c]] w (MatS (sz n) g cap base (movL n l i c) w) := by
  obtain ⟨W1, hW1⟩ : ∃ W1, W1 = (w.alloc (.cells #[.int .i64 n, .slice (some ⟨g, 0, none⟩) (sz n) cap] 76)).alloc (.cells #[.int .i64 i, .int .i64 j, .int .i64 c] 72) := ⟨_, rfl⟩
  have hB : Below w.heap.size w W1 := by rw [hW1]; exact box2_below _ _ _ _ _
  have Z1 : Holds W1 w.heap.size 76 #[.int .i64 n, .slice (some ⟨g, 0, none⟩) (sz n) cap] := by rw [hW1]; exact (Holds.new w _ _).alloc _
  have Z2 : Holds W1 (w.heap.size + 1) 72 #[.int .i64 i, .int .i64 j, .int .i64 c] := by
    rw [hW1]
    have := Holds.new (w.alloc (.cells #[.int .i64 n, .slice (some ⟨g, 0, none⟩) (sz n) cap] 76)) 72 #[.int .i64 i, .int .i64 j, .int .i64 c]
    simpa using this
  have O1 := own_below hown hB
  have hglt := (hown.lt g rfl).2
  have hW1' := Lib.hid hW1
  have hB' := Lib.hid hB
  have q := Lib.hid (others_mov n hn i hi (w.heap.size + 1) i j c hc g cap base l hl W1 hlb Z2 (by omega) O1)
  clear hW1 hB Z1 Z2 O1 hown hglt hlb
  go_enter Try.func59, Try.ntmps59
  go_wp2_with fail
  rw [← hW1'.out]
  refine q.out.mono ?_
  rintro e w2 ⟨rfl, o2, b2⟩
  have hfin := Lib.hid (show MatS (sz n) g cap base (movL n l i c) w (.returned (.tuple #[])) w2 from ⟨rfl, o2, (BelowE.of hB'.out).trans (b2.mono hB'.out.size)⟩)
  clear o2 b2
  go_wp2
  go_end0
  exact hfin.out
def tieL (n : Nat) (l : List Int) (i j : Nat) (c : Int) : List Int := limL n (limL n l i j c) j i (-c)
theorem mtie_any (n : Nat) (hn : n ≤ 8) (i j : Nat) (hi : i ≤ n) (hj : j ≤ n) (c : Int) (hc : -4398046511104 ≤ c ∧ c ≤ 4398046511104) (g cap base : Nat) (l : List Int) (hl : l.length = sz n) (w : World) (hown : w.ownsRow base 3 1 (.slice (some ⟨g, 0, none⟩) (sz n) cap) (sz n) (nums .i64 l)) : Calls Try.prog 60 #[.agg #[.int .i64 n, .slice (some ⟨g, 0, none⟩) (sz n) cap], .agg #[.int .i64 i, .int .i64 j, .int .i64 c]] w (MatS (sz n) g cap base (tieL n l i j c) w) := by
  obtain ⟨W1, hW1⟩ : ∃ W1, W1 = (w.alloc (.cells #[.int .i64 n, .slice (some ⟨g, 0, none⟩) (sz n) cap] 76)).alloc (.cells #[.int .i64 i, .int .i64 j, .int .i64 c] 72) := ⟨_, rfl⟩
  have hB : Below w.heap.size w W1 := by rw [hW1]; exact box2_below _ _ _ _ _
  have Z1 : Holds W1 w.heap.size 76 #[.int .i64 n, .slice (some ⟨g, 0, none⟩) (sz n) cap] := by rw [hW1]; exact (Holds.new w _ _).alloc _
  have Z2 : Holds W1 (w.heap.size + 1) 72 #[.int .i64 i, .int .i64 j, .int .i64 c] := by
    rw [hW1]
    have := Holds.new (w.alloc (.cells #[.int .i64 n, .slice (some ⟨g, 0, none⟩) (sz n) cap] 76)) 72 #[.int .i64 i, .int .i64 j, .int .i64 c]
    simpa using this
  have O1 := own_below hown hB
  have hglt := (hown.lt g rfl).2
  have hW1' := Lib.hid hW1
  have hB' := Lib.hid hB
  have q1 := Lib.hid (mlimit_any n hn i j hi hj c g cap base l hl W1 O1)
  have q2 := Lib.hid (fun W hW => mlimit_any n hn j i hj hi (-c) g cap base (limL n l i j c) (by rw [limL_len, hl]) W hW)
  have Z1' := Lib.hid Z1
  have Z2' := Lib.hid Z2
  have hx0 : w.heap.size ∉ [g] := by simp; omega
  have hx1 : w.heap.size + 1 ∉ [g] := by simp; omega
  have hneg : IntKind.i64.wrap (-c) = -c := wrap_small (by omega) (by omega)
  have hT : Hid (tieL n l i j c = limL n (limL n l i j c) j i (-c)) := Lib.hid rfl
  clear hW1 hB Z1 Z2 O1 hown hglt
  generalize tieL n l i j c = R at *
  go_enter Try.func60, Try.ntmps60
  go_wp2_with fail
  rw [← hW1'.out]
  refine q1.out.mono ?_
  rintro e w2 ⟨rfl, o2, b2⟩
  have p2 := Lib.hid (q2.out w2 o2)
  rw [← hT.out] at p2
  have Y1 := Z1'.out.belowE b2 Z1'.out.lt hx0
  have Y2 := Z2'.out.belowE b2 Z2'.out.lt hx1
  have b2' := Lib.hid b2
  have k0 := Y1.cell 0
  have k1 := Y1.cell 1
  have j0 := Y2.cell 0
  have j1 := Y2.cell 1
  have j2 := Y2.cell 2
  clear q1 q2 o2 b2 Y1 Y2 hT
  go_wp2_with fail
  refine p2.out.mono ?_
  rintro e w3 ⟨rfl, o3, b3⟩
  have hfin := Lib.hid (show MatS (sz n) g cap base R w (.returned (.tuple #[])) w3 from ⟨rfl, o3, (BelowE.of hB'.out).trans ((b2'.out.trans (b3.mono b2'.out.size)).mono hB'.out.size)⟩)
  clear o3 b3 p2 k0 k1 j0 j1 j2
  go_wp2
  go_end0
  exact hfin.out
end Go.Proofs.Ytacbkddkjlnklaa
