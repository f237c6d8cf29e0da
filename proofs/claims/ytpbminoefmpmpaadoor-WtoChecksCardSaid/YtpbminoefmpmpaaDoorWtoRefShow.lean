/- wto: the document's Show. -/
import Derived.Test.YtpbminoefmpmpaaDoorWtoShow
namespace Go.Proofs.YtpbminoefmpmpaaDoor
open Go.RowKit
set_option linter.unusedVariables false
set_option linter.unusedSimpArgs false

theorem rdig_any {p : Int} (h : 0 ≤ p ∧ p ≤ 127) (w : World) : Calls Tryd.prog 46 #[.int .i64 p] w (Tells (.string (strB (digP p))) w) := by
  have q := digits_any p (by omega) (by omega) w
  unfold Lib.itoa at q
  rw [if_neg (by omega)] at q
  exact q
theorem join_short {P S : List Int} (O : OrdW P S) : (Lib.join (wordsL P S S.length) [32]).length ≤ 30000 := by
  have hl := lens_le (l := wordsL P S S.length) (fun x hx => by
    obtain ⟨i, hi, rfl⟩ := List.mem_map.1 hx
    exact word_len O (by simpa using hi))
  have hw := words_len P S S.length
  have := O.few
  cases hq : wordsL P S S.length with
  | nil => simp [Lib.join_nil]
  | cons x r =>
    rw [hq] at hl hw
    rw [Lib.join_length]
    simp only [List.length_cons, List.length_nil] at hl hw ⊢
    omega
theorem str_none : (strB []).toList.isEmpty = true := by rw [ByteArray.toList_eq]; rfl
theorem str_some {s : List UInt8} (h : s ≠ []) : (strB s).toList.isEmpty = false := by
  rw [ByteArray.toList_eq]
  cases s with
  | nil => exact absurd rfl h
  | cons x s => rfl
/-- What has been shown of a text whose end is t. -/
def ShT (P S : List Int) (d i b : Nat) (t s : List UInt8) : Prop := ∃ t' pre, Seg P S d i b t' ∧ t = pre ++ t' ∧ ((pre = [] ∧ s = []) ∨ (pre = 32 :: s ∧ s ≠ []))
set_option maxRecDepth 100000 in
set_option maxHeartbeats 8000000 in
theorem rshow_fuel (a1 a2 : Option Addr) (n1 c1 n2 c2 : Nat) (P S : List Int) (hPS : P.length = S.length) (h128 : S.length ≤ 128) (hval : ∀ i, i < P.length → 0 ≤ P.getD i 0 ∧ P.getD i 0 ≤ 127) :
    ∀ (f d a b : Nat) (t : List UInt8) (w : World), b - a ≤ f → Seg P S d a b t → b ≤ S.length → t.length ≤ 1000000 → WA w a1 n1 c1 P a2 n2 c2 S →
      Calls Tryd.prog 37 #[.agg #[.slice a1 n1 c1, .slice a2 n2 c2], .int .i64 a, .int .i64 b] w (Gives (.string (strB (t.drop 1))) w) := by
  intro f
  induction f using Nat.strongRecOn with
  | _ f ih =>
  intro d a b t w hf hseg hb htl h
  obtain ⟨W1, hW1⟩ : ∃ W1, W1 = w.alloc (.cells #[.slice a1 n1 c1, .slice a2 n2 c2] 24) := ⟨_, rfl⟩
  have hB1 := Lib.hid (show Below w.heap.size w W1 by rw [hW1]; exact box_below w _ _)
  have Z := Lib.hid (show Holds W1 w.heap.size 24 #[.slice a1 n1 c1, .slice a2 n2 c2] by rw [hW1]; exact Holds.new w _ _)
  have H := Lib.hid h
  have L1 := Lib.hid h.p.len
  have L2 := Lib.hid h.s.len
  have hI := Lib.hid ih
  have hV := Lib.hid hval
  have hPS' := Lib.hid hPS
  have hle := hseg.le
  have T0 : Hid (ShT P S d a b t []) := Lib.hid ⟨t, [], hseg, rfl, .inl ⟨rfl, rfl⟩⟩
  have hbi : (b : Int) ≤ 128 := by omega
  have hbn : b ≤ n2 := by rw [L2.out]; exact hb
  have hbS := Lib.hid hb
  clear h ih hval hPS hseg hb
  go_enter Tryd.func37, Tryd.ntmps37
  go_wp2
  rw [← hW1]
  clear hW1
  go_loopw [7, 8] (fun v x wr => ∃ (i : Nat) (s : List UInt8), i ≤ b ∧ x = .int .i64 i ∧ v = .string (strB s) ∧ a ≤ i ∧ Hid (ShT P S d i b t s) ∧ Hid (Below w.heap.size w wr) ∧ Hid (Holds wr w.heap.size 24 #[.slice a1 n1 c1, .slice a2 n2 c2])) (fun _ x _ => b - (intOf x).toNat)
  case atStart => exact ⟨a, [], hle, rfl, rfl, Nat.le_refl _, T0, hB1, Z⟩
  case round =>
    clear T0 hB1 Z
    obtain ⟨i, s, hi, rfl, rfl, hai, T, B, Z⟩ := hrel
    by_cases hlt : i < b
    · obtain ⟨t', pre, h1, h2, h3⟩ := T.out
      have hiP : i < P.length := by rw [hPS'.out]; have := hbS.out; omega
      have hiS : i < S.length := by have := hbS.out; omega
      obtain ⟨b1, o1, rfl, -, e1⟩ := sees_num (H.out.below B.out).p.sees hiP
      obtain ⟨b2, o2, rfl, lb2, e2⟩ := sees_num (H.out.below B.out).s.sees hiS
      have k1 := Z.out.cell 0
      have k2 := Z.out.cell 1
      have hii : (i : Int) < (b : Int) := by omega
      have hi1 : (i : Int) < (n1 : Int) := by rw [L1.out]; omega
      have hi2 : (i : Int) < (n2 : Int) := by rw [L2.out]; omega
      have qd := Lib.hid (fun W => rdig_any (hV.out i hiP) W)
      have hdl := digP_len (hV.out i hiP)
      have hdne := digP_ne (P.getD i 0)
      clear T
      cases h1 with
      | nil => omega
      | leaf _ _ _ t2 g1 g2 g3 =>
        generalize hdd : digP (P.getD i 0) = dg at *
        clear hdd
        rw [g2] at e2
        generalize P.getD i 0 = pk at *
        rcases h3 with ⟨h4, h5⟩ | ⟨h4, h5⟩
        · have T2 : Hid (ShT P S d (i + 1) b t (s ++ dg)) := Lib.hid ⟨t2, 32 :: dg, g3, by rw [h2, h4]; simp, .inr ⟨by rw [h5]; rfl, by rw [h5]; exact hdne⟩⟩
          have hsz : ¬ 9223372036854775807 < (strB s).size + (strB dg).size := by rw [strB_size, strB_size, h5]; simp; omega
          have hcat := strB_app s dg
          have hem : (strB s).toList.isEmpty = true := by rw [h5]; exact str_none
          clear h2 h4 h5 g1 g2 g3 hdne
          go_wp2_with fail
          with_reducible refine (qd.out _).mono ?_
          rintro e u1 ⟨rfl, rfl⟩
          go_wp2
          go_roundw
          case rel => exact ⟨i + 1, s ++ dg, by omega, by go_num, rfl, by omega, T2, B, Z⟩
          case measure => simp [intOf]; omega
        · have hsl : s.length + dg.length + 1 ≤ t.length := by rw [h2, h4]; simp; omega
          have T2 : Hid (ShT P S d (i + 1) b t (s ++ [32] ++ dg)) := Lib.hid ⟨t2, 32 :: (s ++ [32] ++ dg), g3, by rw [h2, h4]; simp, .inr ⟨rfl, by simp⟩⟩
          have hsz1 : ¬ 9223372036854775807 < (strB s).size + (⟨#[32]⟩ : ByteArray).size := by rw [strB_size]; show ¬ 9223372036854775807 < _ + 1; omega
          have hcat1 : strB s ++ ⟨#[32]⟩ = strB (s ++ [32]) := strB_app s [32]
          have hsz : ¬ 9223372036854775807 < (strB (s ++ [32])).size + (strB dg).size := by rw [strB_size, strB_size]; simp; omega
          have hcat := strB_app (s ++ [32]) dg
          have hem : (strB s).toList.isEmpty = false := str_some h5
          clear h2 h4 h5 g1 g2 g3 hdne
          go_wp2_with fail
          with_reducible refine (qd.out _).mono ?_
          rintro e u1 ⟨rfl, rfl⟩
          go_wp2
          go_roundw
          case rel => exact ⟨i + 1, s ++ [32] ++ dg, by omega, by go_num, by simp, by omega, T2, B, Z⟩
          case measure => simp [intOf]; omega
      | comp _ _ _ m t1 t2 g1 g2 g3 g4 g5 g6 =>
        generalize hdd : digP (P.getD i 0) = dg at *
        clear hdd
        rw [g2] at e2
        generalize P.getD i 0 = pk at *
        rcases h3 with ⟨h4, h5⟩ | ⟨h4, h5⟩
        · rcases g5.head with ⟨ht1, _⟩ | ⟨u, ht1, hu, _⟩
          · have hlen : s.length + dg.length + t1.length + 3 ≤ t.length := by rw [h2, h4, h5]; simp; omega
            have T2 : Hid (ShT P S d (i + m) b t (s ++ [40] ++ dg ++ t1 ++ [41])) := Lib.hid ⟨t2, 32 :: (s ++ [40] ++ dg ++ t1 ++ [41]), g6, by rw [h2, h4, h5]; simp, .inr ⟨rfl, by simp⟩⟩
            have hem : (strB s).toList.isEmpty = true := by rw [h5]; exact str_none
            obtain ⟨r, hrr⟩ : ∃ r, r = ([] : List UInt8).drop 1 := ⟨_, rfl⟩
            have hrl : r.length = 0 := by rw [hrr]; rfl
            obtain ⟨A0, hA0⟩ : ∃ A, A = s ++ [40] := ⟨_, rfl⟩
            have hl0 : A0.length = s.length + 1 := by rw [hA0]; simp
            have hcb0 : strB s ++ ⟨#[40]⟩ = strB A0 := by rw [hA0]; exact strB_app s [40]
            have hsb0 : ¬ 9223372036854775807 < (strB s).size + (⟨#[40]⟩ : ByteArray).size := by rw [strB_size]; show ¬ 9223372036854775807 < _ + 1; omega
            have hsc0 : ¬ 9223372036854775807 < (strB s).size + 1 := by rw [strB_size]; omega
            obtain ⟨A1, hA1⟩ : ∃ A, A = A0 ++ dg := ⟨_, rfl⟩
            have hl1 : A1.length = A0.length + dg.length := by rw [hA1]; simp
            have hcb1 : strB A0 ++ strB dg = strB A1 := by rw [hA1]; exact strB_app A0 dg
            have hsb1 : ¬ 9223372036854775807 < (strB A0).size + (strB dg).size := by rw [strB_size, strB_size]; omega
            obtain ⟨A2, hA2⟩ : ∃ A, A = A1 ++ t1 := ⟨_, rfl⟩
            have hl2 : A2.length = A1.length + t1.length := by rw [hA2]; simp
            have hcb2 : strB A1 ++ strB r = strB A2 := by rw [hA2, hrr, ht1]; exact strB_app A1 []
            have hsb2 : ¬ 9223372036854775807 < (strB A1).size + (strB r).size := by rw [strB_size, strB_size]; omega
            obtain ⟨A3, hA3⟩ : ∃ A, A = A2 ++ [41] := ⟨_, rfl⟩
            have hl3 : A3.length = A2.length + 1 := by rw [hA3]; simp
            have hcb3 : strB A2 ++ ⟨#[41]⟩ = strB A3 := by rw [hA3]; exact strB_app A2 [41]
            have hsb3 : ¬ 9223372036854775807 < (strB A2).size + (⟨#[41]⟩ : ByteArray).size := by rw [strB_size]; show ¬ 9223372036854775807 < _ + 1; omega
            have hsc3 : ¬ 9223372036854775807 < (strB A2).size + 1 := by rw [strB_size]; omega
            rw [show s ++ [40] ++ dg ++ t1 ++ [41] = A3 by rw [hA3, hA2, hA1, hA0]] at T2
            clear hl0 hl1 hl2 hl3 hA0 hA1 hA2 hA3
            have hr : Hid (∀ W, Below wr.heap.size wr W → Calls Tryd.prog 37 #[.agg #[.slice (some ⟨b1, o1, none⟩) n1 c1, .slice (some ⟨b2, o2, none⟩) n2 c2], .int .i64 ((i : Int) + 1), .int .i64 ((i : Int) + (m : Int))] W (Gives (.string (strB (t1.drop 1))) W)) := Lib.hid (fun W hW => hI.out (i + m - (i + 1)) (by have := g6.le; omega) (d + 1) (i + 1) (i + m) t1 W (Nat.le_refl _) g5 (by have := g6.le; have := hbS.out; omega) (by omega) ((H.out.below B.out).below hW))
            rw [ht1] at hr
            have hem2 : (strB (([] : List UInt8).drop 1)).toList.isEmpty = true := str_none
            rw [← hrr] at hr hem2
            have hmi : (i : Int) + (m : Int) ≤ 128 := by have := g6.le; omega
            have hm0 : 0 < (m : Int) := by omega
            have hme : ((m : Int) == 0) = false := by simp; omega
            have him : i + m ≤ b := g6.le
            have w1 : IntKind.i64.wrap ((i : Int) + 1) = (i : Int) + 1 := IntWalk.i64_in _ (by omega)
            have w2 : IntKind.i64.wrap ((i : Int) + (m : Int)) = (i : Int) + (m : Int) := IntWalk.i64_in _ (by omega)
            have w1' := Lib.hid w1
            have w2' := Lib.hid w2
            have hrr' := Lib.hid hrr
            clear h2 h4 h5 g1 g2 g3 g4 g5 g6 hdne hrr w1 w2 ht1 hrl
            have ka1 : ∀ W, Below wr.heap.size wr W → W.cell? ⟨w.heap.size, 0, none⟩ = some (.slice (some ⟨b1, o1, none⟩) n1 c1) := fun W hW => (Z.out.below hW Z.out.lt).cell 0
            have ka2 : ∀ W, Below wr.heap.size wr W → W.cell? ⟨w.heap.size, 1, none⟩ = some (.slice (some ⟨b2, o2, none⟩) n2 c2) := fun W hW => (Z.out.below hW Z.out.lt).cell 1
            have ka3 : ∀ W, Below wr.heap.size wr W → W.cell? ⟨b2, o2 + i, none⟩ = some (.int .i64 (m : Int)) := fun W hW => (hW.cell (p := ⟨b2, o2 + i, none⟩) lb2).trans e2
            have ka1' := Lib.hid ka1
            have ka2' := Lib.hid ka2
            have ka3' := Lib.hid ka3
            clear ka1 ka2 ka3
            go_wp2_with fail
            with_reducible refine (qd.out _).mono ?_
            rintro e u1 ⟨rfl, rfl⟩
            go_wp2
            have ka1 := ka1'.out
            have ka2 := ka2'.out
            have ka3 := ka3'.out
            have w1 := w1'.out
            have w2 := w2'.out
            clear k1 k2 e1 e2
            refine wp_drawn_on (fun W => Below wr.heap.size wr W) (by kernel_rfl) (Below.drewN (Below.refl _ _) 1) (fun hHeld => ?_)
            refine wpAnyH_take (i := 0) (oi := { dst := some 36, op := Go.Op.load 24 (Go.Operand.tmp 3), type := 24, pos := "ref.go:96", after := #[], guard := none }) (v := ?v1) rfl (by kernel_rfl) (by kernel_rfl) (by kernel_rfl) (fun _ _ _ h => h) (Or.inl ⟨by kernel_rfl, ?h1⟩) (by assumption) ?r1
            case h1 => (intro w hSw; (try dsimp only at hSw); go_simp; try with_reducible rfl)
            try simp only [Act.put, List.setIfInBounds_toArray, List.set_cons_zero, List.set_cons_succ]
            refine wpAnyH_take (i := 1) (oi := { dst := some 37, op := Go.Op.move (Go.Operand.tmp 8), type := 3, pos := "ref.go:96", after := #[], guard := none }) (v := ?v2) rfl (by kernel_rfl) (by kernel_rfl) (by kernel_rfl) (fun _ _ _ h => h) (Or.inl ⟨by kernel_rfl, ?h2⟩) (by assumption) ?r2
            case h2 => (intro w hSw; (try dsimp only at hSw); go_simp; try with_reducible rfl)
            try simp only [Act.put, List.setIfInBounds_toArray, List.set_cons_zero, List.set_cons_succ]
            refine wpAnyH_take (i := 2) (oi := { dst := some 38, op := Go.Op.binOp Go.BinOp.add 3 (Go.Operand.tmp 37) (Go.Operand.const (Go.Value.int Go.IntKind.i64 1)) 3, type := 3, pos := "ref.go:96", after := #[{ on := 1, ground := Go.Ground.data }], guard := none }) (v := ?v3) rfl (by kernel_rfl) (by kernel_rfl) (by kernel_rfl) (fun _ _ _ h => h) (Or.inl ⟨by kernel_rfl, ?h3⟩) (by assumption) ?r3
            case h3 => (intro w hSw; (try dsimp only at hSw); go_simp; try with_reducible rfl)
            try simp only [Act.put, List.setIfInBounds_toArray, List.set_cons_zero, List.set_cons_succ]
            refine wpAnyH_take (i := 3) (oi := { dst := some 39, op := Go.Op.move (Go.Operand.tmp 8), type := 3, pos := "ref.go:96", after := #[], guard := none }) (v := ?v4) rfl (by kernel_rfl) (by kernel_rfl) (by kernel_rfl) (fun _ _ _ h => h) (Or.inl ⟨by kernel_rfl, ?h4⟩) (by assumption) ?r4
            case h4 => (intro w hSw; (try dsimp only at hSw); go_simp; try with_reducible rfl)
            try simp only [Act.put, List.setIfInBounds_toArray, List.set_cons_zero, List.set_cons_succ]
            refine wpAnyH_take (i := 4) (oi := { dst := some 40, op := Go.Op.fieldAddr 24 (Go.Operand.tmp 3) 1, type := 0, pos := "ref.go:96", after := #[], guard := none }) (v := ?v5) rfl (by kernel_rfl) (by kernel_rfl) (by kernel_rfl) (fun _ _ _ h => h) (Or.inl ⟨by kernel_rfl, ?h5⟩) (by assumption) ?r5
            case h5 => (intro w hSw; (try dsimp only at hSw); go_simp; try with_reducible rfl)
            try simp only [Act.put, List.setIfInBounds_toArray, List.set_cons_zero, List.set_cons_succ]
            refine wpAnyH_take (i := 5) (oi := { dst := some 41, op := Go.Op.load 22 (Go.Operand.tmp 40), type := 22, pos := "ref.go:96", after := #[{ on := 4, ground := Go.Ground.data }], guard := none }) (v := ?v6) rfl (by kernel_rfl) (by kernel_rfl) (by kernel_rfl) (fun _ _ _ h => h) (Or.inl ⟨by kernel_rfl, ?h6⟩) (by assumption) ?r6
            case h6 => (intro w hSw; (try dsimp only at hSw); go_simp; try with_reducible rfl)
            try simp only [Act.put, List.setIfInBounds_toArray, List.set_cons_zero, List.set_cons_succ]
            refine wpAnyH_take (i := 6) (oi := { dst := some 42, op := Go.Op.move (Go.Operand.tmp 8), type := 3, pos := "ref.go:96", after := #[], guard := none }) (v := ?v7) rfl (by kernel_rfl) (by kernel_rfl) (by kernel_rfl) (fun _ _ _ h => h) (Or.inl ⟨by kernel_rfl, ?h7⟩) (by assumption) ?r7
            case h7 => (intro w hSw; (try dsimp only at hSw); go_simp; try with_reducible rfl)
            try simp only [Act.put, List.setIfInBounds_toArray, List.set_cons_zero, List.set_cons_succ]
            refine wpAnyH_take (i := 7) (oi := { dst := some 43, op := Go.Op.indexAddr 22 (Go.Operand.tmp 41) (Go.Operand.tmp 42), type := 0, pos := "ref.go:96", after := #[{ on := 5, ground := Go.Ground.data }, { on := 6, ground := Go.Ground.data }], guard := none }) (v := ?v8) rfl (by kernel_rfl) (by kernel_rfl) (by kernel_rfl) (fun _ _ _ h => h) (Or.inl ⟨by kernel_rfl, ?h8⟩) (by assumption) ?r8
            case h8 => (intro w hSw; (try dsimp only at hSw); go_simp; try with_reducible rfl)
            try simp only [Act.put, List.setIfInBounds_toArray, List.set_cons_zero, List.set_cons_succ]
            refine wpAnyH_take (i := 8) (oi := { dst := some 44, op := Go.Op.load 3 (Go.Operand.tmp 43), type := 3, pos := "ref.go:96", after := #[{ on := 7, ground := Go.Ground.data }], guard := none }) (v := ?v9) rfl (by kernel_rfl) (by kernel_rfl) (by kernel_rfl) (fun _ _ _ h => h) (Or.inl ⟨by kernel_rfl, ?h9⟩) (by assumption) ?r9
            case h9 => (intro w hSw; (try dsimp only at hSw); go_simp; try with_reducible rfl)
            try simp only [Act.put, List.setIfInBounds_toArray, List.set_cons_zero, List.set_cons_succ]
            refine wpAnyH_take (i := 9) (oi := { dst := some 45, op := Go.Op.binOp Go.BinOp.add 3 (Go.Operand.tmp 39) (Go.Operand.tmp 44) 3, type := 3, pos := "ref.go:96", after := #[{ on := 3, ground := Go.Ground.data }, { on := 8, ground := Go.Ground.data }], guard := none }) (v := ?v10) rfl (by kernel_rfl) (by kernel_rfl) (by kernel_rfl) (fun _ _ _ h => h) (Or.inl ⟨by kernel_rfl, ?h10⟩) (by assumption) ?r10
            case h10 => (intro w hSw; (try dsimp only at hSw); go_simp; try with_reducible rfl)
            try simp only [Act.put, List.setIfInBounds_toArray, List.set_cons_zero, List.set_cons_succ]
            refine wpAnyH_ready (rs := [10]) (by kernel_rfl) (by simp) ?_
            refine AllReadyH.cons (o := { dst := some 46, op := Go.Op.call { callee := Go.Callee.value (Go.Operand.func 37), args := #[Go.Operand.tmp 36, Go.Operand.tmp 38, Go.Operand.tmp 45], argTypes := #[24, 3, 3] }, type := 9, pos := "ref.go:96", after := #[{ on := 0, ground := Go.Ground.data }, { on := 2, ground := Go.Ground.data }, { on := 9, ground := Go.Ground.data }], guard := none }) rfl (fun K hK => ?_) AllReadyH.nil
            go_simp
            refine (hr.out _ hHeld).mono ?_
            rintro e u2 ⟨rfl, bq⟩
            go_simp
            refine hK.out _ _ (hHeld.trans (bq.mono hHeld.size)) (fun hHeld => ?_)
            clear hK K
            try simp only [Act.put, List.setIfInBounds_toArray, List.set_cons_zero, List.set_cons_succ]
            refine wpAnyH_take (i := 11) (oi := { dst := some 10, op := Go.Op.assign (Go.Operand.tmp 46), type := 9, pos := "ref.go:96", after := #[{ on := 10, ground := Go.Ground.data }, { on := 10, ground := Go.Ground.chain }, { on := 0, ground := Go.Ground.phase }, { on := 1, ground := Go.Ground.phase }, { on := 2, ground := Go.Ground.phase }, { on := 3, ground := Go.Ground.phase }, { on := 4, ground := Go.Ground.phase }, { on := 5, ground := Go.Ground.phase }, { on := 6, ground := Go.Ground.phase }, { on := 7, ground := Go.Ground.phase }, { on := 8, ground := Go.Ground.phase }, { on := 9, ground := Go.Ground.phase }, { on := 10, ground := Go.Ground.phase }], guard := none }) (v := ?v11) rfl (by kernel_rfl) (by kernel_rfl) (by kernel_rfl) (fun _ _ _ h => h) (Or.inl ⟨by kernel_rfl, ?h11⟩) (by assumption) ?r11
            case h11 => (intro w hSw; (try dsimp only at hSw); go_simp; try with_reducible rfl)
            try simp only [Act.put, List.setIfInBounds_toArray, List.set_cons_zero, List.set_cons_succ]
            refine wpAnyH_done (by kernel_rfl) ?_ _
            have k2 := ka2 u2 hHeld
            have e2 := ka3 u2 hHeld
            have B2 := Lib.hid (B.out.trans (hHeld.mono B.out.size))
            have Z2 := Lib.hid (Z.out.below hHeld Z.out.lt)
            clear ka1 ka2 ka3 w1 w2 hHeld hr qd
            go_wp2_with fail
            go_roundw
            case rel => exact ⟨i + m, A3, him, by go_num, rfl, by omega, T2, B2, Z2⟩
            case measure => simp [intOf]; omega
          · have hlen : s.length + dg.length + t1.length + 3 ≤ t.length := by rw [h2, h4, h5]; simp; omega
            have T2 : Hid (ShT P S d (i + m) b t (s ++ [40] ++ dg ++ t1 ++ [41])) := Lib.hid ⟨t2, 32 :: (s ++ [40] ++ dg ++ t1 ++ [41]), g6, by rw [h2, h4, h5]; simp, .inr ⟨rfl, by simp⟩⟩
            have hem : (strB s).toList.isEmpty = true := by rw [h5]; exact str_none
            obtain ⟨A0, hA0⟩ : ∃ A, A = s ++ [40] := ⟨_, rfl⟩
            have hl0 : A0.length = s.length + 1 := by rw [hA0]; simp
            have hcb0 : strB s ++ ⟨#[40]⟩ = strB A0 := by rw [hA0]; exact strB_app s [40]
            have hsb0 : ¬ 9223372036854775807 < (strB s).size + (⟨#[40]⟩ : ByteArray).size := by rw [strB_size]; show ¬ 9223372036854775807 < _ + 1; omega
            have hsc0 : ¬ 9223372036854775807 < (strB s).size + 1 := by rw [strB_size]; omega
            obtain ⟨A1, hA1⟩ : ∃ A, A = A0 ++ dg := ⟨_, rfl⟩
            have hl1 : A1.length = A0.length + dg.length := by rw [hA1]; simp
            have hcb1 : strB A0 ++ strB dg = strB A1 := by rw [hA1]; exact strB_app A0 dg
            have hsb1 : ¬ 9223372036854775807 < (strB A0).size + (strB dg).size := by rw [strB_size, strB_size]; omega
            obtain ⟨A2, hA2⟩ : ∃ A, A = A1 ++ t1 := ⟨_, rfl⟩
            have hl2 : A2.length = A1.length + t1.length := by rw [hA2]; simp
            have hcb2 : strB A1 ++ strB t1 = strB A2 := by rw [hA2]; exact strB_app A1 t1
            have hsb2 : ¬ 9223372036854775807 < (strB A1).size + (strB t1).size := by rw [strB_size, strB_size]; omega
            obtain ⟨A3, hA3⟩ : ∃ A, A = A2 ++ [41] := ⟨_, rfl⟩
            have hl3 : A3.length = A2.length + 1 := by rw [hA3]; simp
            have hcb3 : strB A2 ++ ⟨#[41]⟩ = strB A3 := by rw [hA3]; exact strB_app A2 [41]
            have hsb3 : ¬ 9223372036854775807 < (strB A2).size + (⟨#[41]⟩ : ByteArray).size := by rw [strB_size]; show ¬ 9223372036854775807 < _ + 1; omega
            have hsc3 : ¬ 9223372036854775807 < (strB A2).size + 1 := by rw [strB_size]; omega
            rw [show s ++ [40] ++ dg ++ t1 ++ [41] = A3 by rw [hA3, hA2, hA1, hA0]] at T2
            clear hl0 hl1 hl2 hl3 hA0 hA1 hA2 hA3
            have hr : Hid (∀ W, Below wr.heap.size wr W → Calls Tryd.prog 37 #[.agg #[.slice (some ⟨b1, o1, none⟩) n1 c1, .slice (some ⟨b2, o2, none⟩) n2 c2], .int .i64 ((i : Int) + 1), .int .i64 ((i : Int) + (m : Int))] W (Gives (.string (strB (t1.drop 1))) W)) := Lib.hid (fun W hW => hI.out (i + m - (i + 1)) (by have := g6.le; omega) (d + 1) (i + 1) (i + m) t1 W (Nat.le_refl _) g5 (by have := g6.le; have := hbS.out; omega) (by omega) ((H.out.below B.out).below hW))
            rw [ht1] at hr
            have hem2 : (strB ((32 :: u).drop 1)).toList.isEmpty = false := str_some hu
            have hcat5 : (⟨#[32]⟩ : ByteArray) ++ strB ((32 :: u).drop 1) = strB t1 := by rw [ht1]; exact strB_app [32] u
            have hsz5 : ¬ 9223372036854775807 < (⟨#[32]⟩ : ByteArray).size + (strB ((32 :: u).drop 1)).size := by have : t1.length = u.length + 1 := (by rw [ht1]; rfl); rw [strB_size]; show ¬ 9223372036854775807 < 1 + u.length; omega
            obtain ⟨r, hrr⟩ : ∃ r, r = (32 :: u).drop 1 := ⟨_, rfl⟩
            rw [← hrr] at hr hem2 hcat5 hsz5
            have hmi : (i : Int) + (m : Int) ≤ 128 := by have := g6.le; omega
            have hm0 : 0 < (m : Int) := by omega
            have hme : ((m : Int) == 0) = false := by simp; omega
            have him : i + m ≤ b := g6.le
            have w1 : IntKind.i64.wrap ((i : Int) + 1) = (i : Int) + 1 := IntWalk.i64_in _ (by omega)
            have w2 : IntKind.i64.wrap ((i : Int) + (m : Int)) = (i : Int) + (m : Int) := IntWalk.i64_in _ (by omega)
            have w1' := Lib.hid w1
            have w2' := Lib.hid w2
            have hrr' := Lib.hid hrr
            clear h2 h4 h5 g1 g2 g3 g4 g5 g6 hdne hrr w1 w2 ht1 hu
            have ka1 : ∀ W, Below wr.heap.size wr W → W.cell? ⟨w.heap.size, 0, none⟩ = some (.slice (some ⟨b1, o1, none⟩) n1 c1) := fun W hW => (Z.out.below hW Z.out.lt).cell 0
            have ka2 : ∀ W, Below wr.heap.size wr W → W.cell? ⟨w.heap.size, 1, none⟩ = some (.slice (some ⟨b2, o2, none⟩) n2 c2) := fun W hW => (Z.out.below hW Z.out.lt).cell 1
            have ka3 : ∀ W, Below wr.heap.size wr W → W.cell? ⟨b2, o2 + i, none⟩ = some (.int .i64 (m : Int)) := fun W hW => (hW.cell (p := ⟨b2, o2 + i, none⟩) lb2).trans e2
            have ka1' := Lib.hid ka1
            have ka2' := Lib.hid ka2
            have ka3' := Lib.hid ka3
            clear ka1 ka2 ka3
            go_wp2_with fail
            with_reducible refine (qd.out _).mono ?_
            rintro e u1 ⟨rfl, rfl⟩
            go_wp2
            have ka1 := ka1'.out
            have ka2 := ka2'.out
            have ka3 := ka3'.out
            have w1 := w1'.out
            have w2 := w2'.out
            clear k1 k2 e1 e2
            refine wp_drawn_on (fun W => Below wr.heap.size wr W) (by kernel_rfl) (Below.drewN (Below.refl _ _) 1) (fun hHeld => ?_)
            refine wpAnyH_take (i := 0) (oi := { dst := some 36, op := Go.Op.load 24 (Go.Operand.tmp 3), type := 24, pos := "ref.go:96", after := #[], guard := none }) (v := ?v12) rfl (by kernel_rfl) (by kernel_rfl) (by kernel_rfl) (fun _ _ _ h => h) (Or.inl ⟨by kernel_rfl, ?h12⟩) (by assumption) ?r12
            case h12 => (intro w hSw; (try dsimp only at hSw); go_simp; try with_reducible rfl)
            try simp only [Act.put, List.setIfInBounds_toArray, List.set_cons_zero, List.set_cons_succ]
            refine wpAnyH_take (i := 1) (oi := { dst := some 37, op := Go.Op.move (Go.Operand.tmp 8), type := 3, pos := "ref.go:96", after := #[], guard := none }) (v := ?v13) rfl (by kernel_rfl) (by kernel_rfl) (by kernel_rfl) (fun _ _ _ h => h) (Or.inl ⟨by kernel_rfl, ?h13⟩) (by assumption) ?r13
            case h13 => (intro w hSw; (try dsimp only at hSw); go_simp; try with_reducible rfl)
            try simp only [Act.put, List.setIfInBounds_toArray, List.set_cons_zero, List.set_cons_succ]
            refine wpAnyH_take (i := 2) (oi := { dst := some 38, op := Go.Op.binOp Go.BinOp.add 3 (Go.Operand.tmp 37) (Go.Operand.const (Go.Value.int Go.IntKind.i64 1)) 3, type := 3, pos := "ref.go:96", after := #[{ on := 1, ground := Go.Ground.data }], guard := none }) (v := ?v14) rfl (by kernel_rfl) (by kernel_rfl) (by kernel_rfl) (fun _ _ _ h => h) (Or.inl ⟨by kernel_rfl, ?h14⟩) (by assumption) ?r14
            case h14 => (intro w hSw; (try dsimp only at hSw); go_simp; try with_reducible rfl)
            try simp only [Act.put, List.setIfInBounds_toArray, List.set_cons_zero, List.set_cons_succ]
            refine wpAnyH_take (i := 3) (oi := { dst := some 39, op := Go.Op.move (Go.Operand.tmp 8), type := 3, pos := "ref.go:96", after := #[], guard := none }) (v := ?v15) rfl (by kernel_rfl) (by kernel_rfl) (by kernel_rfl) (fun _ _ _ h => h) (Or.inl ⟨by kernel_rfl, ?h15⟩) (by assumption) ?r15
            case h15 => (intro w hSw; (try dsimp only at hSw); go_simp; try with_reducible rfl)
            try simp only [Act.put, List.setIfInBounds_toArray, List.set_cons_zero, List.set_cons_succ]
            refine wpAnyH_take (i := 4) (oi := { dst := some 40, op := Go.Op.fieldAddr 24 (Go.Operand.tmp 3) 1, type := 0, pos := "ref.go:96", after := #[], guard := none }) (v := ?v16) rfl (by kernel_rfl) (by kernel_rfl) (by kernel_rfl) (fun _ _ _ h => h) (Or.inl ⟨by kernel_rfl, ?h16⟩) (by assumption) ?r16
            case h16 => (intro w hSw; (try dsimp only at hSw); go_simp; try with_reducible rfl)
            try simp only [Act.put, List.setIfInBounds_toArray, List.set_cons_zero, List.set_cons_succ]
            refine wpAnyH_take (i := 5) (oi := { dst := some 41, op := Go.Op.load 22 (Go.Operand.tmp 40), type := 22, pos := "ref.go:96", after := #[{ on := 4, ground := Go.Ground.data }], guard := none }) (v := ?v17) rfl (by kernel_rfl) (by kernel_rfl) (by kernel_rfl) (fun _ _ _ h => h) (Or.inl ⟨by kernel_rfl, ?h17⟩) (by assumption) ?r17
            case h17 => (intro w hSw; (try dsimp only at hSw); go_simp; try with_reducible rfl)
            try simp only [Act.put, List.setIfInBounds_toArray, List.set_cons_zero, List.set_cons_succ]
            refine wpAnyH_take (i := 6) (oi := { dst := some 42, op := Go.Op.move (Go.Operand.tmp 8), type := 3, pos := "ref.go:96", after := #[], guard := none }) (v := ?v18) rfl (by kernel_rfl) (by kernel_rfl) (by kernel_rfl) (fun _ _ _ h => h) (Or.inl ⟨by kernel_rfl, ?h18⟩) (by assumption) ?r18
            case h18 => (intro w hSw; (try dsimp only at hSw); go_simp; try with_reducible rfl)
            try simp only [Act.put, List.setIfInBounds_toArray, List.set_cons_zero, List.set_cons_succ]
            refine wpAnyH_take (i := 7) (oi := { dst := some 43, op := Go.Op.indexAddr 22 (Go.Operand.tmp 41) (Go.Operand.tmp 42), type := 0, pos := "ref.go:96", after := #[{ on := 5, ground := Go.Ground.data }, { on := 6, ground := Go.Ground.data }], guard := none }) (v := ?v19) rfl (by kernel_rfl) (by kernel_rfl) (by kernel_rfl) (fun _ _ _ h => h) (Or.inl ⟨by kernel_rfl, ?h19⟩) (by assumption) ?r19
            case h19 => (intro w hSw; (try dsimp only at hSw); go_simp; try with_reducible rfl)
            try simp only [Act.put, List.setIfInBounds_toArray, List.set_cons_zero, List.set_cons_succ]
            refine wpAnyH_take (i := 8) (oi := { dst := some 44, op := Go.Op.load 3 (Go.Operand.tmp 43), type := 3, pos := "ref.go:96", after := #[{ on := 7, ground := Go.Ground.data }], guard := none }) (v := ?v20) rfl (by kernel_rfl) (by kernel_rfl) (by kernel_rfl) (fun _ _ _ h => h) (Or.inl ⟨by kernel_rfl, ?h20⟩) (by assumption) ?r20
            case h20 => (intro w hSw; (try dsimp only at hSw); go_simp; try with_reducible rfl)
            try simp only [Act.put, List.setIfInBounds_toArray, List.set_cons_zero, List.set_cons_succ]
            refine wpAnyH_take (i := 9) (oi := { dst := some 45, op := Go.Op.binOp Go.BinOp.add 3 (Go.Operand.tmp 39) (Go.Operand.tmp 44) 3, type := 3, pos := "ref.go:96", after := #[{ on := 3, ground := Go.Ground.data }, { on := 8, ground := Go.Ground.data }], guard := none }) (v := ?v21) rfl (by kernel_rfl) (by kernel_rfl) (by kernel_rfl) (fun _ _ _ h => h) (Or.inl ⟨by kernel_rfl, ?h21⟩) (by assumption) ?r21
            case h21 => (intro w hSw; (try dsimp only at hSw); go_simp; try with_reducible rfl)
            try simp only [Act.put, List.setIfInBounds_toArray, List.set_cons_zero, List.set_cons_succ]
            refine wpAnyH_ready (rs := [10]) (by kernel_rfl) (by simp) ?_
            refine AllReadyH.cons (o := { dst := some 46, op := Go.Op.call { callee := Go.Callee.value (Go.Operand.func 37), args := #[Go.Operand.tmp 36, Go.Operand.tmp 38, Go.Operand.tmp 45], argTypes := #[24, 3, 3] }, type := 9, pos := "ref.go:96", after := #[{ on := 0, ground := Go.Ground.data }, { on := 2, ground := Go.Ground.data }, { on := 9, ground := Go.Ground.data }], guard := none }) rfl (fun K hK => ?_) AllReadyH.nil
            go_simp
            refine (hr.out _ hHeld).mono ?_
            rintro e u2 ⟨rfl, bq⟩
            go_simp
            refine hK.out _ _ (hHeld.trans (bq.mono hHeld.size)) (fun hHeld => ?_)
            clear hK K
            try simp only [Act.put, List.setIfInBounds_toArray, List.set_cons_zero, List.set_cons_succ]
            refine wpAnyH_take (i := 11) (oi := { dst := some 10, op := Go.Op.assign (Go.Operand.tmp 46), type := 9, pos := "ref.go:96", after := #[{ on := 10, ground := Go.Ground.data }, { on := 10, ground := Go.Ground.chain }, { on := 0, ground := Go.Ground.phase }, { on := 1, ground := Go.Ground.phase }, { on := 2, ground := Go.Ground.phase }, { on := 3, ground := Go.Ground.phase }, { on := 4, ground := Go.Ground.phase }, { on := 5, ground := Go.Ground.phase }, { on := 6, ground := Go.Ground.phase }, { on := 7, ground := Go.Ground.phase }, { on := 8, ground := Go.Ground.phase }, { on := 9, ground := Go.Ground.phase }, { on := 10, ground := Go.Ground.phase }], guard := none }) (v := ?v22) rfl (by kernel_rfl) (by kernel_rfl) (by kernel_rfl) (fun _ _ _ h => h) (Or.inl ⟨by kernel_rfl, ?h22⟩) (by assumption) ?r22
            case h22 => (intro w hSw; (try dsimp only at hSw); go_simp; try with_reducible rfl)
            try simp only [Act.put, List.setIfInBounds_toArray, List.set_cons_zero, List.set_cons_succ]
            refine wpAnyH_done (by kernel_rfl) ?_ _
            have k2 := ka2 u2 hHeld
            have e2 := ka3 u2 hHeld
            have B2 := Lib.hid (B.out.trans (hHeld.mono B.out.size))
            have Z2 := Lib.hid (Z.out.below hHeld Z.out.lt)
            clear ka1 ka2 ka3 w1 w2 hHeld hr qd
            go_wp2_with fail
            go_roundw
            case rel => exact ⟨i + m, A3, him, by go_num, rfl, by omega, T2, B2, Z2⟩
            case measure => simp [intOf]; omega
        · rcases g5.head with ⟨ht1, _⟩ | ⟨u, ht1, hu, _⟩
          · obtain ⟨s1, hs1⟩ : ∃ s1, s1 = (s ++ [32]) := ⟨_, rfl⟩
            have hlen : s1.length + dg.length + t1.length + 3 ≤ t.length := by rw [hs1, h2, h4]; simp; omega
            have T2 : Hid (ShT P S d (i + m) b t (s1 ++ [40] ++ dg ++ t1 ++ [41])) := Lib.hid ⟨t2, 32 :: (s1 ++ [40] ++ dg ++ t1 ++ [41]), g6, by rw [hs1, h2, h4]; simp, .inr ⟨rfl, by simp⟩⟩
            have hsz1 : ¬ 9223372036854775807 < (strB s).size + (⟨#[32]⟩ : ByteArray).size := by have : s.length ≤ s1.length := (by rw [hs1]; simp); rw [strB_size]; show ¬ 9223372036854775807 < _ + 1; omega
            have hcat1 : strB s ++ ⟨#[32]⟩ = strB s1 := by rw [hs1]; exact strB_app s [32]
            have hem : (strB s).toList.isEmpty = false := str_some h5
            obtain ⟨r, hrr⟩ : ∃ r, r = ([] : List UInt8).drop 1 := ⟨_, rfl⟩
            have hrl : r.length = 0 := by rw [hrr]; rfl
            obtain ⟨A0, hA0⟩ : ∃ A, A = s1 ++ [40] := ⟨_, rfl⟩
            have hl0 : A0.length = s1.length + 1 := by rw [hA0]; simp
            have hcb0 : strB s1 ++ ⟨#[40]⟩ = strB A0 := by rw [hA0]; exact strB_app s1 [40]
            have hsb0 : ¬ 9223372036854775807 < (strB s1).size + (⟨#[40]⟩ : ByteArray).size := by rw [strB_size]; show ¬ 9223372036854775807 < _ + 1; omega
            have hsc0 : ¬ 9223372036854775807 < (strB s1).size + 1 := by rw [strB_size]; omega
            obtain ⟨A1, hA1⟩ : ∃ A, A = A0 ++ dg := ⟨_, rfl⟩
            have hl1 : A1.length = A0.length + dg.length := by rw [hA1]; simp
            have hcb1 : strB A0 ++ strB dg = strB A1 := by rw [hA1]; exact strB_app A0 dg
            have hsb1 : ¬ 9223372036854775807 < (strB A0).size + (strB dg).size := by rw [strB_size, strB_size]; omega
            obtain ⟨A2, hA2⟩ : ∃ A, A = A1 ++ t1 := ⟨_, rfl⟩
            have hl2 : A2.length = A1.length + t1.length := by rw [hA2]; simp
            have hcb2 : strB A1 ++ strB r = strB A2 := by rw [hA2, hrr, ht1]; exact strB_app A1 []
            have hsb2 : ¬ 9223372036854775807 < (strB A1).size + (strB r).size := by rw [strB_size, strB_size]; omega
            obtain ⟨A3, hA3⟩ : ∃ A, A = A2 ++ [41] := ⟨_, rfl⟩
            have hl3 : A3.length = A2.length + 1 := by rw [hA3]; simp
            have hcb3 : strB A2 ++ ⟨#[41]⟩ = strB A3 := by rw [hA3]; exact strB_app A2 [41]
            have hsb3 : ¬ 9223372036854775807 < (strB A2).size + (⟨#[41]⟩ : ByteArray).size := by rw [strB_size]; show ¬ 9223372036854775807 < _ + 1; omega
            have hsc3 : ¬ 9223372036854775807 < (strB A2).size + 1 := by rw [strB_size]; omega
            rw [show s1 ++ [40] ++ dg ++ t1 ++ [41] = A3 by rw [hA3, hA2, hA1, hA0]] at T2
            clear hl0 hl1 hl2 hl3 hA0 hA1 hA2 hA3
            have hr : Hid (∀ W, Below wr.heap.size wr W → Calls Tryd.prog 37 #[.agg #[.slice (some ⟨b1, o1, none⟩) n1 c1, .slice (some ⟨b2, o2, none⟩) n2 c2], .int .i64 ((i : Int) + 1), .int .i64 ((i : Int) + (m : Int))] W (Gives (.string (strB (t1.drop 1))) W)) := Lib.hid (fun W hW => hI.out (i + m - (i + 1)) (by have := g6.le; omega) (d + 1) (i + 1) (i + m) t1 W (Nat.le_refl _) g5 (by have := g6.le; have := hbS.out; omega) (by omega) ((H.out.below B.out).below hW))
            rw [ht1] at hr
            have hem2 : (strB (([] : List UInt8).drop 1)).toList.isEmpty = true := str_none
            rw [← hrr] at hr hem2
            have hmi : (i : Int) + (m : Int) ≤ 128 := by have := g6.le; omega
            have hm0 : 0 < (m : Int) := by omega
            have hme : ((m : Int) == 0) = false := by simp; omega
            have him : i + m ≤ b := g6.le
            have w1 : IntKind.i64.wrap ((i : Int) + 1) = (i : Int) + 1 := IntWalk.i64_in _ (by omega)
            have w2 : IntKind.i64.wrap ((i : Int) + (m : Int)) = (i : Int) + (m : Int) := IntWalk.i64_in _ (by omega)
            have w1' := Lib.hid w1
            have w2' := Lib.hid w2
            have hrr' := Lib.hid hrr
            clear h2 h4 h5 g1 g2 g3 g4 g5 g6 hdne hrr w1 w2 ht1 hrl hs1
            have ka1 : ∀ W, Below wr.heap.size wr W → W.cell? ⟨w.heap.size, 0, none⟩ = some (.slice (some ⟨b1, o1, none⟩) n1 c1) := fun W hW => (Z.out.below hW Z.out.lt).cell 0
            have ka2 : ∀ W, Below wr.heap.size wr W → W.cell? ⟨w.heap.size, 1, none⟩ = some (.slice (some ⟨b2, o2, none⟩) n2 c2) := fun W hW => (Z.out.below hW Z.out.lt).cell 1
            have ka3 : ∀ W, Below wr.heap.size wr W → W.cell? ⟨b2, o2 + i, none⟩ = some (.int .i64 (m : Int)) := fun W hW => (hW.cell (p := ⟨b2, o2 + i, none⟩) lb2).trans e2
            have ka1' := Lib.hid ka1
            have ka2' := Lib.hid ka2
            have ka3' := Lib.hid ka3
            clear ka1 ka2 ka3
            go_wp2_with fail
            with_reducible refine (qd.out _).mono ?_
            rintro e u1 ⟨rfl, rfl⟩
            go_wp2
            have ka1 := ka1'.out
            have ka2 := ka2'.out
            have ka3 := ka3'.out
            have w1 := w1'.out
            have w2 := w2'.out
            clear k1 k2 e1 e2
            refine wp_drawn_on (fun W => Below wr.heap.size wr W) (by kernel_rfl) (Below.drewN (Below.refl _ _) 1) (fun hHeld => ?_)
            refine wpAnyH_take (i := 0) (oi := { dst := some 36, op := Go.Op.load 24 (Go.Operand.tmp 3), type := 24, pos := "ref.go:96", after := #[], guard := none }) (v := ?v23) rfl (by kernel_rfl) (by kernel_rfl) (by kernel_rfl) (fun _ _ _ h => h) (Or.inl ⟨by kernel_rfl, ?h23⟩) (by assumption) ?r23
            case h23 => (intro w hSw; (try dsimp only at hSw); go_simp; try with_reducible rfl)
            try simp only [Act.put, List.setIfInBounds_toArray, List.set_cons_zero, List.set_cons_succ]
            refine wpAnyH_take (i := 1) (oi := { dst := some 37, op := Go.Op.move (Go.Operand.tmp 8), type := 3, pos := "ref.go:96", after := #[], guard := none }) (v := ?v24) rfl (by kernel_rfl) (by kernel_rfl) (by kernel_rfl) (fun _ _ _ h => h) (Or.inl ⟨by kernel_rfl, ?h24⟩) (by assumption) ?r24
            case h24 => (intro w hSw; (try dsimp only at hSw); go_simp; try with_reducible rfl)
            try simp only [Act.put, List.setIfInBounds_toArray, List.set_cons_zero, List.set_cons_succ]
            refine wpAnyH_take (i := 2) (oi := { dst := some 38, op := Go.Op.binOp Go.BinOp.add 3 (Go.Operand.tmp 37) (Go.Operand.const (Go.Value.int Go.IntKind.i64 1)) 3, type := 3, pos := "ref.go:96", after := #[{ on := 1, ground := Go.Ground.data }], guard := none }) (v := ?v25) rfl (by kernel_rfl) (by kernel_rfl) (by kernel_rfl) (fun _ _ _ h => h) (Or.inl ⟨by kernel_rfl, ?h25⟩) (by assumption) ?r25
            case h25 => (intro w hSw; (try dsimp only at hSw); go_simp; try with_reducible rfl)
            try simp only [Act.put, List.setIfInBounds_toArray, List.set_cons_zero, List.set_cons_succ]
            refine wpAnyH_take (i := 3) (oi := { dst := some 39, op := Go.Op.move (Go.Operand.tmp 8), type := 3, pos := "ref.go:96", after := #[], guard := none }) (v := ?v26) rfl (by kernel_rfl) (by kernel_rfl) (by kernel_rfl) (fun _ _ _ h => h) (Or.inl ⟨by kernel_rfl, ?h26⟩) (by assumption) ?r26
            case h26 => (intro w hSw; (try dsimp only at hSw); go_simp; try with_reducible rfl)
            try simp only [Act.put, List.setIfInBounds_toArray, List.set_cons_zero, List.set_cons_succ]
            refine wpAnyH_take (i := 4) (oi := { dst := some 40, op := Go.Op.fieldAddr 24 (Go.Operand.tmp 3) 1, type := 0, pos := "ref.go:96", after := #[], guard := none }) (v := ?v27) rfl (by kernel_rfl) (by kernel_rfl) (by kernel_rfl) (fun _ _ _ h => h) (Or.inl ⟨by kernel_rfl, ?h27⟩) (by assumption) ?r27
            case h27 => (intro w hSw; (try dsimp only at hSw); go_simp; try with_reducible rfl)
            try simp only [Act.put, List.setIfInBounds_toArray, List.set_cons_zero, List.set_cons_succ]
            refine wpAnyH_take (i := 5) (oi := { dst := some 41, op := Go.Op.load 22 (Go.Operand.tmp 40), type := 22, pos := "ref.go:96", after := #[{ on := 4, ground := Go.Ground.data }], guard := none }) (v := ?v28) rfl (by kernel_rfl) (by kernel_rfl) (by kernel_rfl) (fun _ _ _ h => h) (Or.inl ⟨by kernel_rfl, ?h28⟩) (by assumption) ?r28
            case h28 => (intro w hSw; (try dsimp only at hSw); go_simp; try with_reducible rfl)
            try simp only [Act.put, List.setIfInBounds_toArray, List.set_cons_zero, List.set_cons_succ]
            refine wpAnyH_take (i := 6) (oi := { dst := some 42, op := Go.Op.move (Go.Operand.tmp 8), type := 3, pos := "ref.go:96", after := #[], guard := none }) (v := ?v29) rfl (by kernel_rfl) (by kernel_rfl) (by kernel_rfl) (fun _ _ _ h => h) (Or.inl ⟨by kernel_rfl, ?h29⟩) (by assumption) ?r29
            case h29 => (intro w hSw; (try dsimp only at hSw); go_simp; try with_reducible rfl)
            try simp only [Act.put, List.setIfInBounds_toArray, List.set_cons_zero, List.set_cons_succ]
            refine wpAnyH_take (i := 7) (oi := { dst := some 43, op := Go.Op.indexAddr 22 (Go.Operand.tmp 41) (Go.Operand.tmp 42), type := 0, pos := "ref.go:96", after := #[{ on := 5, ground := Go.Ground.data }, { on := 6, ground := Go.Ground.data }], guard := none }) (v := ?v30) rfl (by kernel_rfl) (by kernel_rfl) (by kernel_rfl) (fun _ _ _ h => h) (Or.inl ⟨by kernel_rfl, ?h30⟩) (by assumption) ?r30
            case h30 => (intro w hSw; (try dsimp only at hSw); go_simp; try with_reducible rfl)
            try simp only [Act.put, List.setIfInBounds_toArray, List.set_cons_zero, List.set_cons_succ]
            refine wpAnyH_take (i := 8) (oi := { dst := some 44, op := Go.Op.load 3 (Go.Operand.tmp 43), type := 3, pos := "ref.go:96", after := #[{ on := 7, ground := Go.Ground.data }], guard := none }) (v := ?v31) rfl (by kernel_rfl) (by kernel_rfl) (by kernel_rfl) (fun _ _ _ h => h) (Or.inl ⟨by kernel_rfl, ?h31⟩) (by assumption) ?r31
            case h31 => (intro w hSw; (try dsimp only at hSw); go_simp; try with_reducible rfl)
            try simp only [Act.put, List.setIfInBounds_toArray, List.set_cons_zero, List.set_cons_succ]
            refine wpAnyH_take (i := 9) (oi := { dst := some 45, op := Go.Op.binOp Go.BinOp.add 3 (Go.Operand.tmp 39) (Go.Operand.tmp 44) 3, type := 3, pos := "ref.go:96", after := #[{ on := 3, ground := Go.Ground.data }, { on := 8, ground := Go.Ground.data }], guard := none }) (v := ?v32) rfl (by kernel_rfl) (by kernel_rfl) (by kernel_rfl) (fun _ _ _ h => h) (Or.inl ⟨by kernel_rfl, ?h32⟩) (by assumption) ?r32
            case h32 => (intro w hSw; (try dsimp only at hSw); go_simp; try with_reducible rfl)
            try simp only [Act.put, List.setIfInBounds_toArray, List.set_cons_zero, List.set_cons_succ]
            refine wpAnyH_ready (rs := [10]) (by kernel_rfl) (by simp) ?_
            refine AllReadyH.cons (o := { dst := some 46, op := Go.Op.call { callee := Go.Callee.value (Go.Operand.func 37), args := #[Go.Operand.tmp 36, Go.Operand.tmp 38, Go.Operand.tmp 45], argTypes := #[24, 3, 3] }, type := 9, pos := "ref.go:96", after := #[{ on := 0, ground := Go.Ground.data }, { on := 2, ground := Go.Ground.data }, { on := 9, ground := Go.Ground.data }], guard := none }) rfl (fun K hK => ?_) AllReadyH.nil
            go_simp
            refine (hr.out _ hHeld).mono ?_
            rintro e u2 ⟨rfl, bq⟩
            go_simp
            refine hK.out _ _ (hHeld.trans (bq.mono hHeld.size)) (fun hHeld => ?_)
            clear hK K
            try simp only [Act.put, List.setIfInBounds_toArray, List.set_cons_zero, List.set_cons_succ]
            refine wpAnyH_take (i := 11) (oi := { dst := some 10, op := Go.Op.assign (Go.Operand.tmp 46), type := 9, pos := "ref.go:96", after := #[{ on := 10, ground := Go.Ground.data }, { on := 10, ground := Go.Ground.chain }, { on := 0, ground := Go.Ground.phase }, { on := 1, ground := Go.Ground.phase }, { on := 2, ground := Go.Ground.phase }, { on := 3, ground := Go.Ground.phase }, { on := 4, ground := Go.Ground.phase }, { on := 5, ground := Go.Ground.phase }, { on := 6, ground := Go.Ground.phase }, { on := 7, ground := Go.Ground.phase }, { on := 8, ground := Go.Ground.phase }, { on := 9, ground := Go.Ground.phase }, { on := 10, ground := Go.Ground.phase }], guard := none }) (v := ?v33) rfl (by kernel_rfl) (by kernel_rfl) (by kernel_rfl) (fun _ _ _ h => h) (Or.inl ⟨by kernel_rfl, ?h33⟩) (by assumption) ?r33
            case h33 => (intro w hSw; (try dsimp only at hSw); go_simp; try with_reducible rfl)
            try simp only [Act.put, List.setIfInBounds_toArray, List.set_cons_zero, List.set_cons_succ]
            refine wpAnyH_done (by kernel_rfl) ?_ _
            have k2 := ka2 u2 hHeld
            have e2 := ka3 u2 hHeld
            have B2 := Lib.hid (B.out.trans (hHeld.mono B.out.size))
            have Z2 := Lib.hid (Z.out.below hHeld Z.out.lt)
            clear ka1 ka2 ka3 w1 w2 hHeld hr qd
            go_wp2_with fail
            go_roundw
            case rel => exact ⟨i + m, A3, him, by go_num, rfl, by omega, T2, B2, Z2⟩
            case measure => simp [intOf]; omega
          · obtain ⟨s1, hs1⟩ : ∃ s1, s1 = (s ++ [32]) := ⟨_, rfl⟩
            have hlen : s1.length + dg.length + t1.length + 3 ≤ t.length := by rw [hs1, h2, h4]; simp; omega
            have T2 : Hid (ShT P S d (i + m) b t (s1 ++ [40] ++ dg ++ t1 ++ [41])) := Lib.hid ⟨t2, 32 :: (s1 ++ [40] ++ dg ++ t1 ++ [41]), g6, by rw [hs1, h2, h4]; simp, .inr ⟨rfl, by simp⟩⟩
            have hsz1 : ¬ 9223372036854775807 < (strB s).size + (⟨#[32]⟩ : ByteArray).size := by have : s.length ≤ s1.length := (by rw [hs1]; simp); rw [strB_size]; show ¬ 9223372036854775807 < _ + 1; omega
            have hcat1 : strB s ++ ⟨#[32]⟩ = strB s1 := by rw [hs1]; exact strB_app s [32]
            have hem : (strB s).toList.isEmpty = false := str_some h5
            obtain ⟨A0, hA0⟩ : ∃ A, A = s1 ++ [40] := ⟨_, rfl⟩
            have hl0 : A0.length = s1.length + 1 := by rw [hA0]; simp
            have hcb0 : strB s1 ++ ⟨#[40]⟩ = strB A0 := by rw [hA0]; exact strB_app s1 [40]
            have hsb0 : ¬ 9223372036854775807 < (strB s1).size + (⟨#[40]⟩ : ByteArray).size := by rw [strB_size]; show ¬ 9223372036854775807 < _ + 1; omega
            have hsc0 : ¬ 9223372036854775807 < (strB s1).size + 1 := by rw [strB_size]; omega
            obtain ⟨A1, hA1⟩ : ∃ A, A = A0 ++ dg := ⟨_, rfl⟩
            have hl1 : A1.length = A0.length + dg.length := by rw [hA1]; simp
            have hcb1 : strB A0 ++ strB dg = strB A1 := by rw [hA1]; exact strB_app A0 dg
            have hsb1 : ¬ 9223372036854775807 < (strB A0).size + (strB dg).size := by rw [strB_size, strB_size]; omega
            obtain ⟨A2, hA2⟩ : ∃ A, A = A1 ++ t1 := ⟨_, rfl⟩
            have hl2 : A2.length = A1.length + t1.length := by rw [hA2]; simp
            have hcb2 : strB A1 ++ strB t1 = strB A2 := by rw [hA2]; exact strB_app A1 t1
            have hsb2 : ¬ 9223372036854775807 < (strB A1).size + (strB t1).size := by rw [strB_size, strB_size]; omega
            obtain ⟨A3, hA3⟩ : ∃ A, A = A2 ++ [41] := ⟨_, rfl⟩
            have hl3 : A3.length = A2.length + 1 := by rw [hA3]; simp
            have hcb3 : strB A2 ++ ⟨#[41]⟩ = strB A3 := by rw [hA3]; exact strB_app A2 [41]
            have hsb3 : ¬ 9223372036854775807 < (strB A2).size + (⟨#[41]⟩ : ByteArray).size := by rw [strB_size]; show ¬ 9223372036854775807 < _ + 1; omega
            have hsc3 : ¬ 9223372036854775807 < (strB A2).size + 1 := by rw [strB_size]; omega
            rw [show s1 ++ [40] ++ dg ++ t1 ++ [41] = A3 by rw [hA3, hA2, hA1, hA0]] at T2
            clear hl0 hl1 hl2 hl3 hA0 hA1 hA2 hA3
            have hr : Hid (∀ W, Below wr.heap.size wr W → Calls Tryd.prog 37 #[.agg #[.slice (some ⟨b1, o1, none⟩) n1 c1, .slice (some ⟨b2, o2, none⟩) n2 c2], .int .i64 ((i : Int) + 1), .int .i64 ((i : Int) + (m : Int))] W (Gives (.string (strB (t1.drop 1))) W)) := Lib.hid (fun W hW => hI.out (i + m - (i + 1)) (by have := g6.le; omega) (d + 1) (i + 1) (i + m) t1 W (Nat.le_refl _) g5 (by have := g6.le; have := hbS.out; omega) (by omega) ((H.out.below B.out).below hW))
            rw [ht1] at hr
            have hem2 : (strB ((32 :: u).drop 1)).toList.isEmpty = false := str_some hu
            have hcat5 : (⟨#[32]⟩ : ByteArray) ++ strB ((32 :: u).drop 1) = strB t1 := by rw [ht1]; exact strB_app [32] u
            have hsz5 : ¬ 9223372036854775807 < (⟨#[32]⟩ : ByteArray).size + (strB ((32 :: u).drop 1)).size := by have : t1.length = u.length + 1 := (by rw [ht1]; rfl); rw [strB_size]; show ¬ 9223372036854775807 < 1 + u.length; omega
            obtain ⟨r, hrr⟩ : ∃ r, r = (32 :: u).drop 1 := ⟨_, rfl⟩
            rw [← hrr] at hr hem2 hcat5 hsz5
            have hmi : (i : Int) + (m : Int) ≤ 128 := by have := g6.le; omega
            have hm0 : 0 < (m : Int) := by omega
            have hme : ((m : Int) == 0) = false := by simp; omega
            have him : i + m ≤ b := g6.le
            have w1 : IntKind.i64.wrap ((i : Int) + 1) = (i : Int) + 1 := IntWalk.i64_in _ (by omega)
            have w2 : IntKind.i64.wrap ((i : Int) + (m : Int)) = (i : Int) + (m : Int) := IntWalk.i64_in _ (by omega)
            have w1' := Lib.hid w1
            have w2' := Lib.hid w2
            have hrr' := Lib.hid hrr
            clear h2 h4 h5 g1 g2 g3 g4 g5 g6 hdne hrr w1 w2 ht1 hu hs1
            have ka1 : ∀ W, Below wr.heap.size wr W → W.cell? ⟨w.heap.size, 0, none⟩ = some (.slice (some ⟨b1, o1, none⟩) n1 c1) := fun W hW => (Z.out.below hW Z.out.lt).cell 0
            have ka2 : ∀ W, Below wr.heap.size wr W → W.cell? ⟨w.heap.size, 1, none⟩ = some (.slice (some ⟨b2, o2, none⟩) n2 c2) := fun W hW => (Z.out.below hW Z.out.lt).cell 1
            have ka3 : ∀ W, Below wr.heap.size wr W → W.cell? ⟨b2, o2 + i, none⟩ = some (.int .i64 (m : Int)) := fun W hW => (hW.cell (p := ⟨b2, o2 + i, none⟩) lb2).trans e2
            have ka1' := Lib.hid ka1
            have ka2' := Lib.hid ka2
            have ka3' := Lib.hid ka3
            clear ka1 ka2 ka3
            go_wp2_with fail
            with_reducible refine (qd.out _).mono ?_
            rintro e u1 ⟨rfl, rfl⟩
            go_wp2
            have ka1 := ka1'.out
            have ka2 := ka2'.out
            have ka3 := ka3'.out
            have w1 := w1'.out
            have w2 := w2'.out
            clear k1 k2 e1 e2
            refine wp_drawn_on (fun W => Below wr.heap.size wr W) (by kernel_rfl) (Below.drewN (Below.refl _ _) 1) (fun hHeld => ?_)
            refine wpAnyH_take (i := 0) (oi := { dst := some 36, op := Go.Op.load 24 (Go.Operand.tmp 3), type := 24, pos := "ref.go:96", after := #[], guard := none }) (v := ?v34) rfl (by kernel_rfl) (by kernel_rfl) (by kernel_rfl) (fun _ _ _ h => h) (Or.inl ⟨by kernel_rfl, ?h34⟩) (by assumption) ?r34
            case h34 => (intro w hSw; (try dsimp only at hSw); go_simp; try with_reducible rfl)
            try simp only [Act.put, List.setIfInBounds_toArray, List.set_cons_zero, List.set_cons_succ]
            refine wpAnyH_take (i := 1) (oi := { dst := some 37, op := Go.Op.move (Go.Operand.tmp 8), type := 3, pos := "ref.go:96", after := #[], guard := none }) (v := ?v35) rfl (by kernel_rfl) (by kernel_rfl) (by kernel_rfl) (fun _ _ _ h => h) (Or.inl ⟨by kernel_rfl, ?h35⟩) (by assumption) ?r35
            case h35 => (intro w hSw; (try dsimp only at hSw); go_simp; try with_reducible rfl)
            try simp only [Act.put, List.setIfInBounds_toArray, List.set_cons_zero, List.set_cons_succ]
            refine wpAnyH_take (i := 2) (oi := { dst := some 38, op := Go.Op.binOp Go.BinOp.add 3 (Go.Operand.tmp 37) (Go.Operand.const (Go.Value.int Go.IntKind.i64 1)) 3, type := 3, pos := "ref.go:96", after := #[{ on := 1, ground := Go.Ground.data }], guard := none }) (v := ?v36) rfl (by kernel_rfl) (by kernel_rfl) (by kernel_rfl) (fun _ _ _ h => h) (Or.inl ⟨by kernel_rfl, ?h36⟩) (by assumption) ?r36
            case h36 => (intro w hSw; (try dsimp only at hSw); go_simp; try with_reducible rfl)
            try simp only [Act.put, List.setIfInBounds_toArray, List.set_cons_zero, List.set_cons_succ]
            refine wpAnyH_take (i := 3) (oi := { dst := some 39, op := Go.Op.move (Go.Operand.tmp 8), type := 3, pos := "ref.go:96", after := #[], guard := none }) (v := ?v37) rfl (by kernel_rfl) (by kernel_rfl) (by kernel_rfl) (fun _ _ _ h => h) (Or.inl ⟨by kernel_rfl, ?h37⟩) (by assumption) ?r37
            case h37 => (intro w hSw; (try dsimp only at hSw); go_simp; try with_reducible rfl)
            try simp only [Act.put, List.setIfInBounds_toArray, List.set_cons_zero, List.set_cons_succ]
            refine wpAnyH_take (i := 4) (oi := { dst := some 40, op := Go.Op.fieldAddr 24 (Go.Operand.tmp 3) 1, type := 0, pos := "ref.go:96", after := #[], guard := none }) (v := ?v38) rfl (by kernel_rfl) (by kernel_rfl) (by kernel_rfl) (fun _ _ _ h => h) (Or.inl ⟨by kernel_rfl, ?h38⟩) (by assumption) ?r38
            case h38 => (intro w hSw; (try dsimp only at hSw); go_simp; try with_reducible rfl)
            try simp only [Act.put, List.setIfInBounds_toArray, List.set_cons_zero, List.set_cons_succ]
            refine wpAnyH_take (i := 5) (oi := { dst := some 41, op := Go.Op.load 22 (Go.Operand.tmp 40), type := 22, pos := "ref.go:96", after := #[{ on := 4, ground := Go.Ground.data }], guard := none }) (v := ?v39) rfl (by kernel_rfl) (by kernel_rfl) (by kernel_rfl) (fun _ _ _ h => h) (Or.inl ⟨by kernel_rfl, ?h39⟩) (by assumption) ?r39
            case h39 => (intro w hSw; (try dsimp only at hSw); go_simp; try with_reducible rfl)
            try simp only [Act.put, List.setIfInBounds_toArray, List.set_cons_zero, List.set_cons_succ]
            refine wpAnyH_take (i := 6) (oi := { dst := some 42, op := Go.Op.move (Go.Operand.tmp 8), type := 3, pos := "ref.go:96", after := #[], guard := none }) (v := ?v40) rfl (by kernel_rfl) (by kernel_rfl) (by kernel_rfl) (fun _ _ _ h => h) (Or.inl ⟨by kernel_rfl, ?h40⟩) (by assumption) ?r40
            case h40 => (intro w hSw; (try dsimp only at hSw); go_simp; try with_reducible rfl)
            try simp only [Act.put, List.setIfInBounds_toArray, List.set_cons_zero, List.set_cons_succ]
            refine wpAnyH_take (i := 7) (oi := { dst := some 43, op := Go.Op.indexAddr 22 (Go.Operand.tmp 41) (Go.Operand.tmp 42), type := 0, pos := "ref.go:96", after := #[{ on := 5, ground := Go.Ground.data }, { on := 6, ground := Go.Ground.data }], guard := none }) (v := ?v41) rfl (by kernel_rfl) (by kernel_rfl) (by kernel_rfl) (fun _ _ _ h => h) (Or.inl ⟨by kernel_rfl, ?h41⟩) (by assumption) ?r41
            case h41 => (intro w hSw; (try dsimp only at hSw); go_simp; try with_reducible rfl)
            try simp only [Act.put, List.setIfInBounds_toArray, List.set_cons_zero, List.set_cons_succ]
            refine wpAnyH_take (i := 8) (oi := { dst := some 44, op := Go.Op.load 3 (Go.Operand.tmp 43), type := 3, pos := "ref.go:96", after := #[{ on := 7, ground := Go.Ground.data }], guard := none }) (v := ?v42) rfl (by kernel_rfl) (by kernel_rfl) (by kernel_rfl) (fun _ _ _ h => h) (Or.inl ⟨by kernel_rfl, ?h42⟩) (by assumption) ?r42
            case h42 => (intro w hSw; (try dsimp only at hSw); go_simp; try with_reducible rfl)
            try simp only [Act.put, List.setIfInBounds_toArray, List.set_cons_zero, List.set_cons_succ]
            refine wpAnyH_take (i := 9) (oi := { dst := some 45, op := Go.Op.binOp Go.BinOp.add 3 (Go.Operand.tmp 39) (Go.Operand.tmp 44) 3, type := 3, pos := "ref.go:96", after := #[{ on := 3, ground := Go.Ground.data }, { on := 8, ground := Go.Ground.data }], guard := none }) (v := ?v43) rfl (by kernel_rfl) (by kernel_rfl) (by kernel_rfl) (fun _ _ _ h => h) (Or.inl ⟨by kernel_rfl, ?h43⟩) (by assumption) ?r43
            case h43 => (intro w hSw; (try dsimp only at hSw); go_simp; try with_reducible rfl)
            try simp only [Act.put, List.setIfInBounds_toArray, List.set_cons_zero, List.set_cons_succ]
            refine wpAnyH_ready (rs := [10]) (by kernel_rfl) (by simp) ?_
            refine AllReadyH.cons (o := { dst := some 46, op := Go.Op.call { callee := Go.Callee.value (Go.Operand.func 37), args := #[Go.Operand.tmp 36, Go.Operand.tmp 38, Go.Operand.tmp 45], argTypes := #[24, 3, 3] }, type := 9, pos := "ref.go:96", after := #[{ on := 0, ground := Go.Ground.data }, { on := 2, ground := Go.Ground.data }, { on := 9, ground := Go.Ground.data }], guard := none }) rfl (fun K hK => ?_) AllReadyH.nil
            go_simp
            refine (hr.out _ hHeld).mono ?_
            rintro e u2 ⟨rfl, bq⟩
            go_simp
            refine hK.out _ _ (hHeld.trans (bq.mono hHeld.size)) (fun hHeld => ?_)
            clear hK K
            try simp only [Act.put, List.setIfInBounds_toArray, List.set_cons_zero, List.set_cons_succ]
            refine wpAnyH_take (i := 11) (oi := { dst := some 10, op := Go.Op.assign (Go.Operand.tmp 46), type := 9, pos := "ref.go:96", after := #[{ on := 10, ground := Go.Ground.data }, { on := 10, ground := Go.Ground.chain }, { on := 0, ground := Go.Ground.phase }, { on := 1, ground := Go.Ground.phase }, { on := 2, ground := Go.Ground.phase }, { on := 3, ground := Go.Ground.phase }, { on := 4, ground := Go.Ground.phase }, { on := 5, ground := Go.Ground.phase }, { on := 6, ground := Go.Ground.phase }, { on := 7, ground := Go.Ground.phase }, { on := 8, ground := Go.Ground.phase }, { on := 9, ground := Go.Ground.phase }, { on := 10, ground := Go.Ground.phase }], guard := none }) (v := ?v44) rfl (by kernel_rfl) (by kernel_rfl) (by kernel_rfl) (fun _ _ _ h => h) (Or.inl ⟨by kernel_rfl, ?h44⟩) (by assumption) ?r44
            case h44 => (intro w hSw; (try dsimp only at hSw); go_simp; try with_reducible rfl)
            try simp only [Act.put, List.setIfInBounds_toArray, List.set_cons_zero, List.set_cons_succ]
            refine wpAnyH_done (by kernel_rfl) ?_ _
            have k2 := ka2 u2 hHeld
            have e2 := ka3 u2 hHeld
            have B2 := Lib.hid (B.out.trans (hHeld.mono B.out.size))
            have Z2 := Lib.hid (Z.out.below hHeld Z.out.lt)
            clear ka1 ka2 ka3 w1 w2 hHeld hr qd
            go_wp2_with fail
            go_roundw
            case rel => exact ⟨i + m, A3, him, by go_num, rfl, by omega, T2, B2, Z2⟩
            case measure => simp [intOf]; omega
    · obtain rfl : i = b := by omega
      have hs : Hid (t.drop 1 = s) := Lib.hid (by
        obtain ⟨t', pre, h1, h2, h3⟩ := T.out
        rw [h1.same, List.append_nil] at h2
        rcases h3 with ⟨h4, h5⟩ | ⟨h4, h5⟩
        · rw [h2, h4, h5]; rfl
        · rw [h2, h4]; rfl)
      clear T
      go_wp2
      go_ret
      exact ⟨by rw [hs.out]; rfl, B.out⟩
theorem rShow_any (a1 a2 : Option Addr) (n1 c1 n2 c2 : Nat) (P S : List Int) (w : World) (h : WA w a1 n1 c1 P a2 n2 c2 S) (O : OrdW P S) :
    Calls Tryd.prog 22 #[.agg #[.slice a1 n1 c1, .slice a2 n2 c2]] w (Gives (.string (strB (Lib.join (wordsL P S S.length) [32]))) w) := by
  obtain ⟨t, ht⟩ := seg_all O
  have hj := text_words ht
  have hl : t.length ≤ 1000000 := by
    have h1 := join_short O
    rw [hj] at h1
    simp at h1
    omega
  rw [hj]
  obtain ⟨W1, hW1⟩ : ∃ W1, W1 = w.alloc (.cells #[.slice a1 n1 c1, .slice a2 n2 c2] 24) := ⟨_, rfl⟩
  have hB1 := Lib.hid (show Below w.heap.size w W1 by rw [hW1]; exact box_below w _ _)
  have q := Lib.hid (rshow_fuel a1 a2 n1 c1 n2 c2 P S O.len O.few (fun i hi => by have := O.once i hi; exact ⟨this.1, this.2.1⟩) S.length 0 0 S.length t W1 (by omega) ht (Nat.le_refl _) hl (h.below hB1.out))
  have hn : Hid ((n1 : Int) = ((S.length : Nat) : Int)) := Lib.hid (by rw [h.p.len, O.len])
  rw [← hn.out, show ((0 : Nat) : Int) = 0 from rfl] at q
  have hW1' := Lib.hid hW1
  clear h hW1 ht hj hl O
  generalize t.drop 1 = T at *
  go_enter Tryd.func22, Tryd.ntmps22
  go_wp2_with fail
  rw [← hW1'.out]
  with_reducible refine q.out.mono ?_
  rintro e w2 ⟨rfl, b2⟩
  have B2 := Lib.hid (hB1.out.trans (b2.mono hB1.out.size))
  clear q hW1' b2
  go_wp2
  go_ret
  exact ⟨rfl, B2.out⟩
end Go.Proofs.YtpbminoefmpmpaaDoor
