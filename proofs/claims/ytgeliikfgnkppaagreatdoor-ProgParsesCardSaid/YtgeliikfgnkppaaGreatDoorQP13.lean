/-
  Words and walks under the law's proof.
-/
import Derived.Test.YtgeliikfgnkppaaGreatDoorQP09
import Derived.Test.YtgeliikfgnkppaaGreatDoorQP12
namespace Go.Proofs.YtgeliikfgnkppaaGreatDoor
open Go.RowKit
set_option linter.unusedVariables false
set_option linter.unusedSimpArgs false
structure LPa (w : World) (a : Option Addr) (n cp : Nat) (l : List ByteArray) (W : World) : Prop where
  vars : TT W a n cp l
  bel : Below w.heap.size w W
  tab : Tab W
theorem LPa.below {w : World} {a : Option Addr} {n cp : Nat} {l : List ByteArray} {W W' : World} (h : LPa w a n cp l W) (hb : Below W.heap.size W W') : LPa w a n cp l W' :=
  ⟨h.vars.below hb, h.bel.trans (hb.mono h.bel.size), h.tab.on hb⟩
theorem vars_small2 {l : List ByteArray} (h : ∀ j, j < l.length → ¬ 200 < (l.getD j e0).size) : ∀ s ∈ l, s.size ≤ 9223372036854775806 := by
  intro s hs
  obtain ⟨j, hj, rfl⟩ := List.getElem_of_mem hs
  have := h j hj
  simp only [List.getD, List.getElem?_eq_getElem hj, Option.getD_some] at this
  omega
set_option maxRecDepth 100000 in
set_option maxHeartbeats 8000000 in
theorem pparses_big (a : Option Addr) (n cp : Nat) (l : List ByteArray) (s : ByteArray) (w : World) (ht : Tab w) (h : TT w a n cp l) (HL : ∀ W, Tab W → Calls Tryz.prog 8 #[] W (Gives (.bool true) W)) (h20 : 20 < n) :
    Calls Tryz.prog 5 #[.slice a n cp, .string s] w (Gives (.bool true) w) := by
  have L : Hid (LPa w a n cp l w) := Lib.hid ⟨h, Below.refl _ _, ht⟩
  have QL := Lib.hid HL
  have h20i : (20 : Int) < (n : Int) := by omega
  clear HL h ht
  go_enter Tryz.func5, Tryz.ntmps5
  go_wp2_with fail
  with_reducible refine (QL.out _ L.out.tab).mono ?_
  rintro e X9 ⟨rfl, bX9⟩
  replace L := Lib.hid (L.out.below bX9)
  clear bX9
  go_wp2
  go_ret
  exact ⟨rfl, L.out.bel⟩
set_option maxRecDepth 100000 in
set_option maxHeartbeats 8000000 in
theorem pparses_long (a : Option Addr) (n cp : Nat) (l : List ByteArray) (s : ByteArray) (w : World) (ht : Tab w) (h : TT w a n cp l) (HL : ∀ W, Tab W → Calls Tryz.prog 8 #[] W (Gives (.bool true) W)) (h20 : ¬ 20 < n) (hs : 1000 < s.size) :
    Calls Tryz.prog 5 #[.slice a n cp, .string s] w (Gives (.bool true) w) := by
  have L : Hid (LPa w a n cp l w) := Lib.hid ⟨h, Below.refl _ _, ht⟩
  have QL := Lib.hid HL
  have h20i : ¬ (20 : Int) < (n : Int) := by omega
  have hsi : (1000 : Int) < (s.size : Int) := by omega
  clear HL h ht
  go_enter Tryz.func5, Tryz.ntmps5
  go_wp2_with fail
  with_reducible refine (QL.out _ L.out.tab).mono ?_
  rintro e X9 ⟨rfl, bX9⟩
  replace L := Lib.hid (L.out.below bX9)
  clear bX9
  go_wp2
  go_ret
  exact ⟨rfl, L.out.bel⟩
set_option maxRecDepth 100000 in
set_option maxHeartbeats 8000000 in
theorem pparses_novars (a : Option Addr) (n cp : Nat) (l : List ByteArray) (s : ByteArray) (w : World) (ht : Tab w) (h : TT w a n cp l) (HL : ∀ W, Tab W → Calls Tryz.prog 8 #[] W (Gives (.bool true) W)) (h20 : ¬ 20 < n) (hs : ¬ 1000 < s.size) (hv : varsB l = false) :
    Calls Tryz.prog 5 #[.slice a n cp, .string s] w (Gives (.bool true) w) := by
  have L : Hid (LPa w a n cp l w) := Lib.hid ⟨h, Below.refl _ _, ht⟩
  have h20i : ¬ (20 : Int) < (n : Int) := by omega
  have hsi : ¬ (1000 : Int) < (s.size : Int) := by omega
  have hn := Lib.hid h.len
  have QL := Lib.hid HL
  have qpa : Hid (∀ W, LPa w a n cp l W → Calls Tryz.prog 24 #[.slice a n cp, .string s] W (Gives (.tuple #[.agg #[.int .i64 0, .int .i64 0, .int .i64 0, .int .i64 0, .int .i64 0], .int .i64 110]) W)) := Lib.hid (fun W hW => by have q := pparse_any a n cp l s W hW.tab hW.vars; rw [show parsedP l s = ((0, 0, 0, 0, 0), 110) by unfold parsedP; rw [hv]; rfl] at q; exact q)
  clear HL h ht
  go_enter Tryz.func5, Tryz.ntmps5
  go_wp2
  go_loop [5] (fun y0 => ∃ j : Nat, j ≤ n ∧ y0 = .int .i64 j ∧ Hid (∀ t, t < j → ¬ 200 < (l.getD t e0).size)) (fun y0 => n - (intOf y0).toNat)
  case atStart => exact ⟨0, Nat.zero_le _, rfl, Lib.hid (fun t ht => by omega)⟩
  case round =>
    obtain ⟨j, hj, rfl, hal⟩ := hrel
    by_cases hlt : j < n
    · have hji : (j : Int) < (n : Int) := by omega
      have hkl : j < l.length := by rw [← hn.out]; exact hlt
      obtain ⟨b, off, rfl, hbl, hc⟩ := L.out.vars.at_ hkl
      have x0 := hc j hkl
      have hn2 : Hid (¬ 200 < (l.getD j e0).size → ∀ t, t < j + 1 → ¬ 200 < (l.getD t e0).size) := Lib.hid (fun h t ht => by by_cases e : t = j <;> first | (rw [e]; exact h) | exact hal.out t (by omega))
      clear hc hal
      generalize l.getD j e0 = v at *
      by_cases hs2 : 200 < v.size
      · have hsi : (200 : Int) < (v.size : Int) := by omega
        clear hn2
        go_wp2_with fail
        with_reducible refine (QL.out _ L.out.tab).mono ?_
        rintro e X9 ⟨rfl, bX9⟩
        replace L := Lib.hid (L.out.below bX9)
        clear bX9
        go_wp2
        go_ret
        exact ⟨rfl, L.out.bel⟩
      · have hsi : ¬ (200 : Int) < (v.size : Int) := by omega
        have hg := Lib.hid (hn2.out hs2)
        clear hn2
        go_wp2
        go_round
        case rel => exact ⟨j + 1, by omega, by go_num, hg⟩
        case measure => simp [intOf]; omega
    · have hji : ¬ (j : Int) < (n : Int) := by omega
      have hvs := Lib.hid (vars_small2 (fun t ht => hal.out t (by have := hn.out; omega)))
      clear hal
      have qv := Lib.hid (fun W (hW : LPa w a n cp l W) => rvars_any a n cp l hvs.out W hW.vars)
      rw [hv] at qv
      go_wp2_with fail
      with_reducible refine (qpa.out _ L.out).mono ?_
      rintro e X1 ⟨rfl, bX1⟩
      replace L := Lib.hid (L.out.below bX1)
      clear bX1
      obtain ⟨X2, hX2⟩ : ∃ X2, X2 = X1.alloc (.cells #[.int .i64 0, .int .i64 0, .int .i64 0, .int .i64 0, .int .i64 0] 38) := ⟨_, rfl⟩
      have B2 : Below X1.heap.size X1 X2 := by rw [hX2]; exact box_below _ _ _
      have HU : Hid (Holds X2 X1.heap.size 38 #[.int .i64 0, .int .i64 0, .int .i64 0, .int .i64 0, .int .i64 0]) := Lib.hid (by rw [hX2]; exact Holds.new _ _ _)
      replace L := Lib.hid (L.out.below B2)
      have hX2' := Lib.hid hX2
      clear B2 hX2
      go_wp2_with fail
      rw [← hX2'.out]
      with_reducible refine (QL.out _ L.out.tab).mono ?_
      rintro e X3 ⟨rfl, bX3⟩
      replace L := Lib.hid (L.out.below bX3)
      replace HU := Lib.hid (HU.out.below bX3 HU.out.lt)
      clear bX3 hX2'
      go_wp2_with fail
      with_reducible refine (qv.out _ L.out).mono ?_
      rintro e X4 ⟨rfl, mq, rfl⟩
      replace HU := Lib.hid (HU.out.drewN mq)
      replace L := Lib.hid (L.out.below (Below.drewN (Below.refl _ _) mq))
      generalize X3.drewN mq = X4 at *
      have y0 := HU.out.cell 0
      have y1 := HU.out.cell 1
      have y2 := HU.out.cell 2
      have y3 := HU.out.cell 3
      have y4 := HU.out.cell 4
      simp at y0 y1 y2 y3 y4
      go_wp2
      go_ret
      exact ⟨by simp, L.out.bel⟩
set_option maxRecDepth 100000 in
set_option maxHeartbeats 8000000 in
theorem pparses_nostmt (a : Option Addr) (n cp : Nat) (l : List ByteArray) (s : ByteArray) (w : World) (ht : Tab w) (h : TT w a n cp l) (HL : ∀ W, Tab W → Calls Tryz.prog 8 #[] W (Gives (.bool true) W)) (h20 : ¬ 20 < n) (hs : ¬ 1000 < s.size) (hv : varsB l = true) (hp : ¬ (parsedP l s).2 = 0) :
    Calls Tryz.prog 5 #[.slice a n cp, .string s] w (Gives (.bool true) w) := by
  have L : Hid (LPa w a n cp l w) := Lib.hid ⟨h, Below.refl _ _, ht⟩
  have h20i : ¬ (20 : Int) < (n : Int) := by omega
  have hsi : ¬ (1000 : Int) < (s.size : Int) := by omega
  have hn := Lib.hid h.len
  have QL := Lib.hid HL
  have qpa : Hid (∀ W, LPa w a n cp l W → Calls Tryz.prog 24 #[.slice a n cp, .string s] W (Gives (.tuple #[.agg #[.int .i64 0, .int .i64 0, .int .i64 0, .int .i64 0, .int .i64 0], .int .i64 111]) W)) := Lib.hid (fun W hW => by have q := pparse_any a n cp l s W hW.tab hW.vars; rw [parse_bad hv hp] at q; exact q)
  have qrp : Hid (∀ W, LPa w a n cp l W → Calls Tryz.prog 26 #[.slice a n cp, .string s] W (Gives (.tuple #[.agg #[.int .i64 0, .int .i64 0, .int .i64 0, .int .i64 0, .int .i64 0], .bool false]) W)) := Lib.hid (fun W hW => by have q := rparse_any a n cp l (vars_sz hv) (vars_len hv) s (by omega) W hW.vars; rw [rparse_eq hv s, if_neg hp] at q; exact q)
  clear HL h ht hp
  go_enter Tryz.func5, Tryz.ntmps5
  go_wp2
  go_loop [5] (fun y0 => ∃ j : Nat, j ≤ n ∧ y0 = .int .i64 j ∧ Hid (∀ t, t < j → ¬ 200 < (l.getD t e0).size)) (fun y0 => n - (intOf y0).toNat)
  case atStart => exact ⟨0, Nat.zero_le _, rfl, Lib.hid (fun t ht => by omega)⟩
  case round =>
    obtain ⟨j, hj, rfl, hal⟩ := hrel
    by_cases hlt : j < n
    · have hji : (j : Int) < (n : Int) := by omega
      have hkl : j < l.length := by rw [← hn.out]; exact hlt
      obtain ⟨b, off, rfl, hbl, hc⟩ := L.out.vars.at_ hkl
      have x0 := hc j hkl
      have hn2 : Hid (¬ 200 < (l.getD j e0).size → ∀ t, t < j + 1 → ¬ 200 < (l.getD t e0).size) := Lib.hid (fun h t ht => by by_cases e : t = j <;> first | (rw [e]; exact h) | exact hal.out t (by omega))
      clear hc hal
      generalize l.getD j e0 = v at *
      by_cases hs2 : 200 < v.size
      · have hsi : (200 : Int) < (v.size : Int) := by omega
        clear hn2
        go_wp2_with fail
        with_reducible refine (QL.out _ L.out.tab).mono ?_
        rintro e X9 ⟨rfl, bX9⟩
        replace L := Lib.hid (L.out.below bX9)
        clear bX9
        go_wp2
        go_ret
        exact ⟨rfl, L.out.bel⟩
      · have hsi : ¬ (200 : Int) < (v.size : Int) := by omega
        have hg := Lib.hid (hn2.out hs2)
        clear hn2
        go_wp2
        go_round
        case rel => exact ⟨j + 1, by omega, by go_num, hg⟩
        case measure => simp [intOf]; omega
    · have hji : ¬ (j : Int) < (n : Int) := by omega
      have hvs := Lib.hid (vars_small2 (fun t ht => hal.out t (by have := hn.out; omega)))
      clear hal
      have qv := Lib.hid (fun W (hW : LPa w a n cp l W) => rvars_any a n cp l hvs.out W hW.vars)
      rw [hv] at qv
      go_wp2_with fail
      with_reducible refine (qpa.out _ L.out).mono ?_
      rintro e X1 ⟨rfl, bX1⟩
      replace L := Lib.hid (L.out.below bX1)
      clear bX1
      obtain ⟨X2, hX2⟩ : ∃ X2, X2 = X1.alloc (.cells #[.int .i64 0, .int .i64 0, .int .i64 0, .int .i64 0, .int .i64 0] 38) := ⟨_, rfl⟩
      have B2 : Below X1.heap.size X1 X2 := by rw [hX2]; exact box_below _ _ _
      have HU : Hid (Holds X2 X1.heap.size 38 #[.int .i64 0, .int .i64 0, .int .i64 0, .int .i64 0, .int .i64 0]) := Lib.hid (by rw [hX2]; exact Holds.new _ _ _)
      replace L := Lib.hid (L.out.below B2)
      have hX2' := Lib.hid hX2
      clear B2 hX2
      go_wp2_with fail
      rw [← hX2'.out]
      with_reducible refine (QL.out _ L.out.tab).mono ?_
      rintro e X3 ⟨rfl, bX3⟩
      replace L := Lib.hid (L.out.below bX3)
      replace HU := Lib.hid (HU.out.below bX3 HU.out.lt)
      clear bX3 hX2'
      go_wp2_with fail
      with_reducible refine (qv.out _ L.out).mono ?_
      rintro e X4 ⟨rfl, mq, rfl⟩
      replace HU := Lib.hid (HU.out.drewN mq)
      replace L := Lib.hid (L.out.below (Below.drewN (Below.refl _ _) mq))
      generalize X3.drewN mq = X4 at *
      go_wp2_with fail
      with_reducible refine (qrp.out _ L.out).mono ?_
      rintro e X5 ⟨rfl, bX5⟩
      replace L := Lib.hid (L.out.below bX5)
      replace HU := Lib.hid (HU.out.below bX5 HU.out.lt)
      clear bX5
      obtain ⟨X6, hX6⟩ : ∃ X6, X6 = X5.alloc (.cells #[.int .i64 0, .int .i64 0, .int .i64 0, .int .i64 0, .int .i64 0] 38) := ⟨_, rfl⟩
      have B6 : Below X5.heap.size X5 X6 := by rw [hX6]; exact box_below _ _ _
      have HV : Hid (Holds X6 X5.heap.size 38 #[.int .i64 0, .int .i64 0, .int .i64 0, .int .i64 0, .int .i64 0]) := Lib.hid (by rw [hX6]; exact Holds.new _ _ _)
      replace L := Lib.hid (L.out.below B6)
      replace HU := Lib.hid (HU.out.below B6 HU.out.lt)
      have hX6' := Lib.hid hX6
      clear B6 hX6
      have y0 := HU.out.cell 0
      have y1 := HU.out.cell 1
      have y2 := HU.out.cell 2
      have y3 := HU.out.cell 3
      have y4 := HU.out.cell 4
      simp at y0 y1 y2 y3 y4
      rw [hX6'.out] at y0 y1 y2 y3 y4
      go_wp2
      go_ret
      rw [← hX6'.out]
      exact ⟨by simp, L.out.bel⟩
set_option maxRecDepth 100000 in
set_option maxHeartbeats 8000000 in
theorem pparses_ok (a : Option Addr) (n cp : Nat) (l : List ByteArray) (s : ByteArray) (w : World) (ht : Tab w) (h : TT w a n cp l) (HL : ∀ W, Tab W → Calls Tryz.prog 8 #[] W (Gives (.bool true) W)) (h20 : ¬ 20 < n) (hs : ¬ 1000 < s.size) (hv : varsB l = true) (k x y c d : Int) (hp : parsedP l s = ((k, x, y, c, d), 0)) :
    Calls Tryz.prog 5 #[.slice a n cp, .string s] w (Gives (.bool true) w) := by
  have L : Hid (LPa w a n cp l w) := Lib.hid ⟨h, Below.refl _ _, ht⟩
  have h20i : ¬ (20 : Int) < (n : Int) := by omega
  have hsi : ¬ (1000 : Int) < (s.size : Int) := by omega
  have hn := Lib.hid h.len
  have QL := Lib.hid HL
  obtain ⟨_, hr, hst⟩ := parse_right hp
  dsimp only at hr hst
  have qpa : Hid (∀ W, LPa w a n cp l W → Calls Tryz.prog 24 #[.slice a n cp, .string s] W (Gives (.tuple #[.agg #[.int .i64 k, .int .i64 x, .int .i64 y, .int .i64 c, .int .i64 d], .int .i64 0]) W)) := Lib.hid (fun W hW => by have q := pparse_any a n cp l s W hW.tab hW.vars; rw [hp] at q; exact q)
  have qrp : Hid (∀ W, LPa w a n cp l W → Calls Tryz.prog 26 #[.slice a n cp, .string s] W (Gives (.tuple #[.agg #[.int .i64 k, .int .i64 x, .int .i64 y, .int .i64 c, .int .i64 d], .bool true]) W)) := Lib.hid (fun W hW => by have q := rparse_any a n cp l (vars_sz hv) (vars_len hv) s (by omega) W hW.vars; rw [rparse_eq hv s, hp, if_pos rfl] at q; exact q)
  have qsh : Hid (∀ W, LPa w a n cp l W → Calls Tryz.prog 20 #[.slice a n cp, .agg #[.int .i64 k, .int .i64 x, .int .i64 y, .int .i64 c, .int .i64 d]] W (Gives (.tuple #[.string s, .int .i64 0]) W)) := Lib.hid (fun W hW => by have q := pshow_any a n cp l k x y c d W hW.tab hW.vars; rw [(show_ok hv hr).1, (show_ok hv hr).2, hst] at q; exact q)
  clear hr hst
  clear HL h ht hp
  go_enter Tryz.func5, Tryz.ntmps5
  go_wp2
  go_loop [5] (fun y0 => ∃ j : Nat, j ≤ n ∧ y0 = .int .i64 j ∧ Hid (∀ t, t < j → ¬ 200 < (l.getD t e0).size)) (fun y0 => n - (intOf y0).toNat)
  case atStart => exact ⟨0, Nat.zero_le _, rfl, Lib.hid (fun t ht => by omega)⟩
  case round =>
    obtain ⟨j, hj, rfl, hal⟩ := hrel
    by_cases hlt : j < n
    · have hji : (j : Int) < (n : Int) := by omega
      have hkl : j < l.length := by rw [← hn.out]; exact hlt
      obtain ⟨b, off, rfl, hbl, hc⟩ := L.out.vars.at_ hkl
      have x0 := hc j hkl
      have hn2 : Hid (¬ 200 < (l.getD j e0).size → ∀ t, t < j + 1 → ¬ 200 < (l.getD t e0).size) := Lib.hid (fun h t ht => by by_cases e : t = j <;> first | (rw [e]; exact h) | exact hal.out t (by omega))
      clear hc hal
      generalize l.getD j e0 = v at *
      by_cases hs2 : 200 < v.size
      · have hsi : (200 : Int) < (v.size : Int) := by omega
        clear hn2
        go_wp2_with fail
        with_reducible refine (QL.out _ L.out.tab).mono ?_
        rintro e X9 ⟨rfl, bX9⟩
        replace L := Lib.hid (L.out.below bX9)
        clear bX9
        go_wp2
        go_ret
        exact ⟨rfl, L.out.bel⟩
      · have hsi : ¬ (200 : Int) < (v.size : Int) := by omega
        have hg := Lib.hid (hn2.out hs2)
        clear hn2
        go_wp2
        go_round
        case rel => exact ⟨j + 1, by omega, by go_num, hg⟩
        case measure => simp [intOf]; omega
    · have hji : ¬ (j : Int) < (n : Int) := by omega
      have hvs := Lib.hid (vars_small2 (fun t ht => hal.out t (by have := hn.out; omega)))
      clear hal
      have qv := Lib.hid (fun W (hW : LPa w a n cp l W) => rvars_any a n cp l hvs.out W hW.vars)
      rw [hv] at qv
      go_wp2_with fail
      with_reducible refine (qpa.out _ L.out).mono ?_
      rintro e X1 ⟨rfl, bX1⟩
      replace L := Lib.hid (L.out.below bX1)
      clear bX1
      obtain ⟨X2, hX2⟩ : ∃ X2, X2 = X1.alloc (.cells #[.int .i64 k, .int .i64 x, .int .i64 y, .int .i64 c, .int .i64 d] 38) := ⟨_, rfl⟩
      have B2 : Below X1.heap.size X1 X2 := by rw [hX2]; exact box_below _ _ _
      have HU : Hid (Holds X2 X1.heap.size 38 #[.int .i64 k, .int .i64 x, .int .i64 y, .int .i64 c, .int .i64 d]) := Lib.hid (by rw [hX2]; exact Holds.new _ _ _)
      replace L := Lib.hid (L.out.below B2)
      have hX2' := Lib.hid hX2
      clear B2 hX2
      go_wp2_with fail
      rw [← hX2'.out]
      with_reducible refine (QL.out _ L.out.tab).mono ?_
      rintro e X3 ⟨rfl, bX3⟩
      replace L := Lib.hid (L.out.below bX3)
      replace HU := Lib.hid (HU.out.below bX3 HU.out.lt)
      clear bX3 hX2'
      go_wp2_with fail
      with_reducible refine (qv.out _ L.out).mono ?_
      rintro e X4 ⟨rfl, mq, rfl⟩
      replace HU := Lib.hid (HU.out.drewN mq)
      replace L := Lib.hid (L.out.below (Below.drewN (Below.refl _ _) mq))
      generalize X3.drewN mq = X4 at *
      go_wp2_with fail
      with_reducible refine (qrp.out _ L.out).mono ?_
      rintro e X5 ⟨rfl, bX5⟩
      replace L := Lib.hid (L.out.below bX5)
      replace HU := Lib.hid (HU.out.below bX5 HU.out.lt)
      clear bX5
      obtain ⟨X6, hX6⟩ : ∃ X6, X6 = X5.alloc (.cells #[.int .i64 k, .int .i64 x, .int .i64 y, .int .i64 c, .int .i64 d] 38) := ⟨_, rfl⟩
      have B6 : Below X5.heap.size X5 X6 := by rw [hX6]; exact box_below _ _ _
      have HV : Hid (Holds X6 X5.heap.size 38 #[.int .i64 k, .int .i64 x, .int .i64 y, .int .i64 c, .int .i64 d]) := Lib.hid (by rw [hX6]; exact Holds.new _ _ _)
      replace L := Lib.hid (L.out.below B6)
      replace HU := Lib.hid (HU.out.below B6 HU.out.lt)
      have hX6' := Lib.hid hX6
      clear B6 hX6
      have y0 := HU.out.cell 0
      have y1 := HU.out.cell 1
      have y2 := HU.out.cell 2
      have y3 := HU.out.cell 3
      have y4 := HU.out.cell 4
      simp at y0 y1 y2 y3 y4
      rw [hX6'.out] at y0 y1 y2 y3 y4
      go_wp2_with fail
      rw [← hX6'.out]
      with_reducible refine (qsh.out _ L.out).mono ?_
      rintro e X7 ⟨rfl, bX7⟩
      replace L := Lib.hid (L.out.below bX7)
      replace HU := Lib.hid (HU.out.below bX7 HU.out.lt)
      replace HV := Lib.hid (HV.out.below bX7 HV.out.lt)
      clear bX7 hX6' y0 y1 y2 y3 y4
      have y0 := HU.out.cell 0
      have y1 := HU.out.cell 1
      have y2 := HU.out.cell 2
      have y3 := HU.out.cell 3
      have y4 := HU.out.cell 4
      simp at y0 y1 y2 y3 y4
      have v0 := HV.out.cell 0
      have v1 := HV.out.cell 1
      have v2 := HV.out.cell 2
      have v3 := HV.out.cell 3
      have v4 := HV.out.cell 4
      simp at v0 v1 v2 v3 v4
      go_wp2
      go_ret
      exact ⟨by simp, L.out.bel⟩
theorem progParses_given (a : Option Addr) (n cp : Nat) (l : List ByteArray) (s : ByteArray) (w : World) (ht : Tab w) (h : TT w a n cp l) (HL : ∀ W, Tab W → Calls Tryz.prog 8 #[] W (Gives (.bool true) W)) :
    Calls Tryz.prog 5 #[.slice a n cp, .string s] w (Gives (.bool true) w) := by
  by_cases h20 : 20 < n
  · exact pparses_big a n cp l s w ht h HL h20
  · by_cases hs : 1000 < s.size
    · exact pparses_long a n cp l s w ht h HL h20 hs
    · cases hv : varsB l
      · exact pparses_novars a n cp l s w ht h HL h20 hs hv
      · by_cases hp : (parsedP l s).2 = 0
        · obtain ⟨p, hpp⟩ : ∃ p, p = (parsedP l s).1 := ⟨_, rfl⟩
          obtain ⟨k, x, y, c, d⟩ := p
          exact pparses_ok a n cp l s w ht h HL h20 hs hv k x y c d (by rw [hpp, ← hp])
        · exact pparses_nostmt a n cp l s w ht h HL h20 hs hv hp
theorem progParses_walk (w : World) (ht : Tab w) (a : Option Addr) (n cp : Nat) (p : TSl w a n cp) (s : ByteArray) (hs : s.size ≤ maxLen) (q : s.size ≤ 140737488351232) :
    Calls Tryz.prog 5 #[.slice a n cp, .string s] w (Gives (.bool true) w) := by
  obtain ⟨l, pt, ps, pm⟩ := p
  exact progParses_given a n cp l s w ht pt lives_any
end Go.Proofs.YtgeliikfgnkppaaGreatDoor
