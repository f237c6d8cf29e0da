import Derived.Lib.SlicesS
import Derived.Test.YtgeliikfgnkppaaGreatDoorQ01
import Derived.Test.YtgeliikfgnkppaaGreatDoorQ02
/- Which variables a program may have: the program's rightVars, and the document's Vars. (Written by gen-prog-vars.py.) -/
namespace Go.Proofs.YtgeliikfgnkppaaGreatDoor
open Go.RowKit
set_option linter.unusedVariables false
set_option linter.unusedSimpArgs false

def takB (s : ByteArray) : Bool := (s.toList == [115, 107, 105, 112]) || ((s.toList == [97, 110, 121]) || ((s.toList == [108, 105, 109, 105, 116]) || ((s.toList == [99, 104, 101, 99, 107]) || ((s.toList == [105, 110, 102])))))
def varB (l : List ByteArray) (i : Nat) : Bool := nameB (l.getD i e0) && (!takB (l.getD i e0) && !Lib.containsS (l.take i) (l.getD i e0))
def varsB (l : List ByteArray) : Bool := decide (l.length ≤ 8) && (List.range l.length).all (varB l)
theorem vars_no {l : List ByteArray} {k : Nat} (hk : k < l.length) (h : varB l k = false) : varsB l = false := by
  unfold varsB
  rw [show (List.range l.length).all (varB l) = false by rw [List.all_eq_false]; exact ⟨k, List.mem_range.2 hk, by rw [h]; simp⟩, Bool.and_false]
theorem vars_yes {l : List ByteArray} (hl : l.length ≤ 8) (h : ∀ t, t < l.length → varB l t = true) : varsB l = true := by
  unfold varsB
  rw [decide_eq_true hl, Bool.true_and, List.all_eq_true]
  exact fun t ht => h t (List.mem_range.1 ht)
theorem vars_long {l : List ByteArray} (hl : ¬ l.length ≤ 8) : varsB l = false := by unfold varsB; rw [decide_eq_false hl, Bool.false_and]
theorem has_no {l : List ByteArray} {k : Nat} (hk : k < l.length) (h : ∀ t, t < k → l.getD t e0 ≠ l.getD k e0) : Lib.containsS (l.take k) (l.getD k e0) = false := by
  cases hc : Lib.containsS (l.take k) (l.getD k e0)
  · rfl
  · rw [Lib.containsS_iff] at hc
    obtain ⟨t, ht, e⟩ := List.getElem_of_mem hc
    have ht' : t < k := by simp at ht; omega
    refine absurd ?_ (h t ht')
    rw [← e]
    simp [List.getD, show t < l.length by omega]
theorem has_yes {l : List ByteArray} {k t : Nat} (hk : k < l.length) (ht : t < k) (h : l.getD t e0 = l.getD k e0) : Lib.containsS (l.take k) (l.getD k e0) = true := by
  rw [Lib.containsS_iff, ← h]
  have hl : t < l.length := by omega
  have : (l.take k)[t]? = some (l.getD t e0) := by simp [List.getElem?_take, ht, List.getD, hl]
  exact List.mem_of_getElem? this
theorem ptxt_eq (s t : ByteArray) : (s.toList == t.toList) = decide (s = t) := by
  rw [Bool.eq_iff_iff, beq_iff_eq, decide_eq_true_iff, ByteArray.toList_eq, ByteArray.toList_eq]
  exact ⟨fun h => ByteArray.ext (Array.toList_inj.1 h), fun h => by rw [h]⟩
set_option maxRecDepth 100000 in
theorem taken_any (s : ByteArray) (w : World) : Calls Tryz.prog 61 #[.string s] w (SetTo (.bool (takB s)) w) := by
  cases h0 : (s.toList == [115, 107, 105, 112])
  rotate_left
  · have hR : Hid (takB s = true) := Lib.hid (by unfold takB; simp only [h0, Bool.true_or, Bool.false_or, Bool.or_true])
    generalize takB s = R at *
    go_enter Tryz.func61, Tryz.ntmps61
    go_wp2
    go_ret
    exact ⟨ret_bool hR.out.symm, rfl⟩
  cases h1 : (s.toList == [97, 110, 121])
  rotate_left
  · have hR : Hid (takB s = true) := Lib.hid (by unfold takB; simp only [h0, h1, Bool.true_or, Bool.false_or, Bool.or_true])
    generalize takB s = R at *
    go_enter Tryz.func61, Tryz.ntmps61
    go_wp2
    go_ret
    exact ⟨ret_bool hR.out.symm, rfl⟩
  cases h2 : (s.toList == [108, 105, 109, 105, 116])
  rotate_left
  · have hR : Hid (takB s = true) := Lib.hid (by unfold takB; simp only [h0, h1, h2, Bool.true_or, Bool.false_or, Bool.or_true])
    generalize takB s = R at *
    go_enter Tryz.func61, Tryz.ntmps61
    go_wp2
    go_ret
    exact ⟨ret_bool hR.out.symm, rfl⟩
  cases h3 : (s.toList == [99, 104, 101, 99, 107])
  rotate_left
  · have hR : Hid (takB s = true) := Lib.hid (by unfold takB; simp only [h0, h1, h2, h3, Bool.true_or, Bool.false_or, Bool.or_true])
    generalize takB s = R at *
    go_enter Tryz.func61, Tryz.ntmps61
    go_wp2
    go_ret
    exact ⟨ret_bool hR.out.symm, rfl⟩
  cases h4 : (s.toList == [105, 110, 102])
  rotate_left
  · have hR : Hid (takB s = true) := Lib.hid (by unfold takB; simp only [h0, h1, h2, h3, h4, Bool.true_or, Bool.false_or, Bool.or_true])
    generalize takB s = R at *
    go_enter Tryz.func61, Tryz.ntmps61
    go_wp2
    go_ret
    exact ⟨ret_bool hR.out.symm, rfl⟩
  have hR : Hid (takB s = false) := Lib.hid (by unfold takB; simp only [h0, h1, h2, h3, h4, Bool.or_false])
  generalize takB s = R at *
  go_enter Tryz.func61, Tryz.ntmps61
  go_wp2
  go_ret
  exact ⟨ret_bool hR.out.symm, rfl⟩
set_option maxRecDepth 100000 in
theorem contains_any (b off : Nat) (n c : Nat) (l : List ByteArray) (x : ByteArray) (hn : n ≤ l.length) (hb : n ≤ 9223372036854775807) (w : World) (hc : ∀ j, j < l.length → w.cell? ⟨b, off + j, none⟩ = some (.string (l.getD j e0))) : Calls Tryz.prog 62 #[.slice (some ⟨b, off, none⟩) n c, .string x] w (SetTo (.bool (Lib.containsS (l.take n) x)) w) :=
  (Tryz.slices_Contains_string b off n c l x w hn hb hc).mono (fun e w' h => ⟨h.1, h.2.symm⟩)
set_option maxRecDepth 100000 in
set_option maxHeartbeats 2000000 in
theorem rightVars_any (a : Option Addr) (n c : Nat) (l : List ByteArray) (w : World) (h : TT w a n c l) : Calls Tryz.prog 33 #[.slice a n c] w (Gives (.bool (varsB l)) w) := by
  have hn : n = l.length := h.len
  have hcap : n ≤ c := h.cap
  have hmax : c ≤ 9223372036854775807 := by have := h.max; unfold maxLen at this; exact this
  by_cases h8 : n ≤ 8
  · have h8i : ¬ (8 : Int) < (n : Int) := by omega
    have hlen := Lib.hid hn
    have T := Lib.hid h
    have hno := Lib.hid (fun k hk h => vars_no (l := l) (k := k) hk h)
    have hyes := Lib.hid (fun h => vars_yes (l := l) (by omega) h)
    clear h hn
    generalize varsB l = R at *
    go_enter Tryz.func33, Tryz.ntmps33
    go_wp2
    go_loopw [10] (fun x wr => ∃ k : Nat, k ≤ n ∧ x = .int .i64 k ∧ Hid (∀ t, t < k → varB l t = true) ∧ Hid (Below w.heap.size w wr)) (fun x _ => n - (intOf x).toNat)
    case atStart => exact ⟨0, Nat.zero_le _, rfl, Lib.hid (fun t ht => by omega), Lib.hid (Below.refl _ _)⟩
    case round =>
      obtain ⟨k, hk, rfl, hal, hB⟩ := hrel
      by_cases hlt : k < n
      · have hki : (k : Int) < (n : Int) := by omega
        have hkl : k < l.length := by rw [← hlen.out]; exact hlt
        obtain ⟨b, off, rfl, hbl, hc⟩ := (T.out.below hB.out).at_ hkl
        have x0 := hc k hkl
        have hkc : k ≤ c := by omega
        have hkc2 : (k : Int) ≤ (c : Int) := by omega
        have hv : Hid (varB l k = (nameB (l.getD k e0) && (!takB (l.getD k e0) && !Lib.containsS (l.take k) (l.getD k e0)))) := Lib.hid rfl
        have hno' := Lib.hid (hno.out k hkl)
        have hyes' : Hid (varB l k = true → ∀ t, t < k + 1 → varB l t = true) := Lib.hid (fun h t ht => by
          by_cases e : t = k
          · rw [e]; exact h
          · exact hal.out t (by omega))
        have q1 := Lib.hid (name_any (l.getD k e0) wr)
        have q2 := Lib.hid (fun W => taken_any (l.getD k e0) W)
        have q3 := Lib.hid (fun W (hW : Below wr.heap.size wr W) => contains_any b off k c l (l.getD k e0) (by omega) (by omega) W (fun j hj => (hW.cell (p := ⟨b, off + j, none⟩) hbl).trans (hc j hj)))
        clear hc hal hno
        generalize varB l k = V at *
        generalize l.getD k e0 = s at *
        cases e1 : nameB s
        · have hf := Lib.hid (hno'.out (by rw [hv.out, e1]; rfl))
          rw [e1] at q1
          clear hno' hyes' hyes hv e1
          go_wp2_with fail
          refine q1.out.mono ?_
          rintro e w1 ⟨rfl, b1⟩
          go_wp2
          go_ret
          exact ⟨ret_bool hf.out.symm, hB.out.trans (b1.mono hB.out.size)⟩
        · rw [e1] at q1 hv
          clear e1
          cases e2 : takB s
          · rw [e2] at q2 hv
            clear e2
            generalize Lib.containsS (l.take k) s = z at *
            cases z
            · have hg := Lib.hid (hyes'.out (by rw [hv.out]; rfl))
              clear hno' hyes' hv
              go_wp2_with fail
              refine q1.out.mono ?_
              rintro e w1 ⟨rfl, b1⟩
              go_wp2_with fail
              refine (q2.out _).mono ?_
              rintro e w2 ⟨rfl, rfl⟩
              go_wp2_with fail
              refine (q3.out _ b1).mono ?_
              rintro e w3 ⟨rfl, rfl⟩
              have hB2 := Lib.hid (hB.out.trans (b1.mono hB.out.size))
              go_wp2
              go_roundw
              case rel => exact ⟨k + 1, by omega, by go_num, hg, hB2⟩
              case measure => simp [intOf]; omega
            · have hf := Lib.hid (hno'.out (by rw [hv.out]; rfl))
              clear hno' hyes' hyes hv
              go_wp2_with fail
              refine q1.out.mono ?_
              rintro e w1 ⟨rfl, b1⟩
              go_wp2_with fail
              refine (q2.out _).mono ?_
              rintro e w2 ⟨rfl, rfl⟩
              go_wp2_with fail
              refine (q3.out _ b1).mono ?_
              rintro e w3 ⟨rfl, rfl⟩
              go_wp2
              go_ret
              exact ⟨ret_bool hf.out.symm, hB.out.trans (b1.mono hB.out.size)⟩
          · have hf := Lib.hid (hno'.out (by rw [hv.out, e2]; rfl))
            rw [e2] at q2
            clear hno' hyes' hyes hv e2
            go_wp2_with fail
            refine q1.out.mono ?_
            rintro e w1 ⟨rfl, b1⟩
            go_wp2_with fail
            refine (q2.out _).mono ?_
            rintro e w2 ⟨rfl, rfl⟩
            go_wp2
            go_ret
            exact ⟨ret_bool hf.out.symm, hB.out.trans (b1.mono hB.out.size)⟩
      · have hki : ¬ (k : Int) < (n : Int) := by omega
        have hf := Lib.hid (hyes.out (fun t ht => hal.out t (by rw [← hlen.out] at ht; omega)))
        clear hyes hno hal
        go_wp2
        go_ret
        exact ⟨ret_bool hf.out.symm, hB.out⟩
  · have h8i : (8 : Int) < (n : Int) := by omega
    have hR := Lib.hid (vars_long (l := l) (by omega))
    clear h hn
    generalize varsB l = R at *
    go_enter Tryz.func33, Tryz.ntmps33
    go_wp2
    go_ret
    exact ⟨ret_bool hR.out.symm, Below.refl _ _⟩
set_option maxRecDepth 100000 in
set_option maxHeartbeats 4000000 in
theorem rvars_any (a : Option Addr) (n c : Nat) (l : List ByteArray) (hsz : ∀ s ∈ l, s.size ≤ 9223372036854775806) (w : World) (h : TT w a n c l) : Calls Tryz.prog 23 #[.slice a n c] w (DrawnB (.bool (varsB l)) w) := by
  have hn : n = l.length := h.len
  by_cases h8 : n ≤ 8
  · have h8i : ¬ (8 : Int) < (n : Int) := by omega
    have hlen := Lib.hid hn
    have T := Lib.hid h
    have hsz' := Lib.hid hsz
    have hno := Lib.hid (fun k hk h => vars_no (l := l) (k := k) hk h)
    have hyes := Lib.hid (fun h => vars_yes (l := l) (by omega) h)
    clear h hn hsz
    generalize varsB l = R at *
    go_enter Tryz.func23, Tryz.ntmps23
    go_wp2
    go_loopw [3] (fun x wr => ∃ k m : Nat, k ≤ n ∧ x = .int .i64 k ∧ Hid (∀ t, t < k → varB l t = true) ∧ wr = w.drewN m) (fun x _ => n - (intOf x).toNat)
    case atStart => exact ⟨0, 0, Nat.zero_le _, rfl, Lib.hid (fun t ht => by omega), rfl⟩
    case round =>
      obtain ⟨k, m, hk, rfl, hal, rfl⟩ := hrel
      by_cases hlt : k < n
      · have hki : (k : Int) < (n : Int) := by omega
        have hkl : k < l.length := by rw [← hlen.out]; exact hlt
        obtain ⟨b, off, rfl, hbl, hc⟩ := T.out.at_ hkl
        have x0 := hc k hkl
        have hc' := Lib.hid hc
        have hv : Hid (varB l k = (nameB (l.getD k e0) && (!takB (l.getD k e0) && !Lib.containsS (l.take k) (l.getD k e0)))) := Lib.hid rfl
        have hno' := Lib.hid (hno.out k hkl)
        have hyes' : Hid (varB l k = true → ∀ t, t < k + 1 → varB l t = true) := Lib.hid (fun h t ht => by
          by_cases e : t = k
          · rw [e]; exact h
          · exact hal.out t (by omega))
        have q1 := Lib.hid (fun W => rname_any (l.getD k e0) (hsz'.out _ (by simp [List.getD, hkl])) W)
        have hhn := Lib.hid (has_no (l := l) (k := k) hkl)
        have hhy := Lib.hid (fun t ht e => has_yes (l := l) (k := k) (t := t) hkl ht e)
        have htk : Hid (takB (l.getD k e0) = (((l.getD k e0).toList == [115, 107, 105, 112]) || (((l.getD k e0).toList == [97, 110, 121]) || (((l.getD k e0).toList == [108, 105, 109, 105, 116]) || (((l.getD k e0).toList == [99, 104, 101, 99, 107]) || (((l.getD k e0).toList == [105, 110, 102]))))))) := Lib.hid rfl
        clear hc hal hno
        generalize varB l k = V at *
        generalize l.getD k e0 = s at *
        generalize takB s = tk at *
        cases h0 : (s.toList == [115, 107, 105, 112])
        rotate_left
        · have hf := Lib.hid (hno'.out (by rw [hv.out, htk.out]; simp only [h0, Bool.true_or, Bool.false_or, Bool.not_true, Bool.false_and, Bool.and_false]))
          clear hno' hyes' hyes hv htk hhn hhy q1
          go_wp2
          go_ret
          exact ⟨ret_bool hf.out.symm, m, rfl⟩
        cases h1 : (s.toList == [97, 110, 121])
        rotate_left
        · have hf := Lib.hid (hno'.out (by rw [hv.out, htk.out]; simp only [h0, h1, Bool.true_or, Bool.false_or, Bool.not_true, Bool.false_and, Bool.and_false]))
          clear hno' hyes' hyes hv htk hhn hhy q1
          go_wp2
          go_ret
          exact ⟨ret_bool hf.out.symm, m, rfl⟩
        cases h2 : (s.toList == [108, 105, 109, 105, 116])
        rotate_left
        · have hf := Lib.hid (hno'.out (by rw [hv.out, htk.out]; simp only [h0, h1, h2, Bool.true_or, Bool.false_or, Bool.not_true, Bool.false_and, Bool.and_false]))
          clear hno' hyes' hyes hv htk hhn hhy q1
          go_wp2
          go_ret
          exact ⟨ret_bool hf.out.symm, m, rfl⟩
        cases h3 : (s.toList == [99, 104, 101, 99, 107])
        rotate_left
        · have hf := Lib.hid (hno'.out (by rw [hv.out, htk.out]; simp only [h0, h1, h2, h3, Bool.true_or, Bool.false_or, Bool.not_true, Bool.false_and, Bool.and_false]))
          clear hno' hyes' hyes hv htk hhn hhy q1
          go_wp2
          go_ret
          exact ⟨ret_bool hf.out.symm, m, rfl⟩
        cases h4 : (s.toList == [105, 110, 102])
        rotate_left
        · have hf := Lib.hid (hno'.out (by rw [hv.out, htk.out]; simp only [h0, h1, h2, h3, h4, Bool.true_or, Bool.false_or, Bool.not_true, Bool.false_and, Bool.and_false]))
          clear hno' hyes' hyes hv htk hhn hhy q1
          go_wp2
          go_ret
          exact ⟨ret_bool hf.out.symm, m, rfl⟩
        have hv2 : Hid (V = (nameB s && !Lib.containsS (l.take k) s)) := Lib.hid (by rw [hv.out, htk.out]; simp only [h0, h1, h2, h3, h4, Bool.or_false, Bool.not_false, Bool.true_and])
        clear hv htk
        cases e1 : nameB s
        · have hf := Lib.hid (hno'.out (by rw [hv2.out, e1]; rfl))
          rw [e1] at q1
          clear hno' hyes' hyes hv2 hhn hhy e1
          go_wp2_with fail
          refine (q1.out _).mono ?_
          rintro e w1 ⟨rfl, rfl⟩
          go_wp2
          go_ret
          exact ⟨ret_bool hf.out.symm, m, rfl⟩
        rw [e1, Bool.true_and] at hv2
        rw [e1] at q1
        clear e1
        go_wp2_with fail
        refine (q1.out _).mono ?_
        rintro e w1 ⟨rfl, rfl⟩
        go_wp2
        clear h0 h1 h2 h3 h4 q1
        go_loopw [4] (fun y wr => ∃ j m2 : Nat, j ≤ k ∧ y = .int .i64 j ∧ Hid (∀ t, t < j → l.getD t e0 ≠ s) ∧ wr = w.drewN m2) (fun y _ => k - (intOf y).toNat)
        case atStart => exact ⟨0, m, Nat.zero_le _, rfl, Lib.hid (fun t ht => by omega), rfl⟩
        case round =>
          obtain ⟨j, m2, hj, rfl, hal2, rfl⟩ := hrel
          by_cases hjk : j < k
          · have hji : (j : Int) < (k : Int) := by omega
            have hjn : (j : Int) < (n : Int) := by omega
            have y0 := hc'.out j (by have := hlen.out; omega)
            have hhy' := Lib.hid (hhy.out j hjk)
            have hal3 : Hid (l.getD j e0 ≠ s → ∀ t, t < j + 1 → l.getD t e0 ≠ s) := Lib.hid (fun h t ht => by
              by_cases e : t = j
              · rw [e]; exact h
              · exact hal2.out t (by omega))
            clear hhy hal2
            generalize l.getD j e0 = u at *
            have g0 : ∀ W, (∃ i, W = w.drewN i) → W.cell? ⟨b, off + k, none⟩ = some (.string s) := fun W hW => by obtain ⟨i, rfl⟩ := hW; exact x0
            have g1 : ∀ W, (∃ i, W = w.drewN i) → W.cell? ⟨b, off + j, none⟩ = some (.string u) := fun W hW => by obtain ⟨i, rfl⟩ := hW; exact y0
            clear y0
            by_cases hus : u = s
            · have hf := Lib.hid (hno'.out (by rw [hv2.out, hhy'.out hus]; rfl))
              have e5 : (u.toList == s.toList) = true := by rw [ptxt_eq]; exact decide_eq_true hus
              clear hno' hyes' hyes hv2 hhn hhy' hal3 hus x0
              go_wp2
              refine wp_drawn_on (fun W => ∃ i, W = w.drewN i) (by kernel_rfl) (⟨m2 + 1, rfl⟩) (fun hHeld => ?_)
              refine wpAnyH_take (i := 0) (oi := { dst := some 35, op := Go.Op.move (Go.Operand.tmp 0), type := 22, pos := "ref.go:49", after := #[], guard := none }) (v := ?v1) rfl (by kernel_rfl) (by kernel_rfl) (by kernel_rfl) (fun _ _ _ h => h) (Or.inl ⟨by kernel_rfl, ?h1⟩) (by assumption) ?r1
              case h1 => (intro w hSw; (try dsimp only at hSw); go_simp; try with_reducible rfl)
              try simp only [Act.put, List.setIfInBounds_toArray, List.set_cons_zero, List.set_cons_succ]
              refine wpAnyH_take (i := 1) (oi := { dst := some 36, op := Go.Op.move (Go.Operand.tmp 4), type := 3, pos := "ref.go:49", after := #[], guard := none }) (v := ?v2) rfl (by kernel_rfl) (by kernel_rfl) (by kernel_rfl) (fun _ _ _ h => h) (Or.inl ⟨by kernel_rfl, ?h2⟩) (by assumption) ?r2
              case h2 => (intro w hSw; (try dsimp only at hSw); go_simp; try with_reducible rfl)
              try simp only [Act.put, List.setIfInBounds_toArray, List.set_cons_zero, List.set_cons_succ]
              refine wpAnyH_take (i := 2) (oi := { dst := some 37, op := Go.Op.indexAddr 22 (Go.Operand.tmp 35) (Go.Operand.tmp 36), type := 0, pos := "ref.go:49", after := #[{ on := 0, ground := Go.Ground.data }, { on := 1, ground := Go.Ground.data }], guard := none }) (v := ?v3) rfl (by kernel_rfl) (by kernel_rfl) (by kernel_rfl) (fun _ _ _ h => h) (Or.inl ⟨by kernel_rfl, ?h3⟩) (by assumption) ?r3
              case h3 => (intro w hSw; (try dsimp only at hSw); go_simp; try with_reducible rfl)
              try simp only [Act.put, List.setIfInBounds_toArray, List.set_cons_zero, List.set_cons_succ]
              refine wpAnyH_take (i := 3) (oi := { dst := some 38, op := Go.Op.load 9 (Go.Operand.tmp 37), type := 9, pos := "ref.go:49", after := #[{ on := 2, ground := Go.Ground.data }], guard := none }) (v := ?v4) rfl (by kernel_rfl) (by kernel_rfl) (by kernel_rfl) (fun _ _ _ h => h) (Or.inl ⟨by kernel_rfl, ?h4⟩) (by assumption) ?r4
              case h4 => (intro w hSw; (try dsimp only at hSw); go_simp; try with_reducible rfl)
              try simp only [Act.put, List.setIfInBounds_toArray, List.set_cons_zero, List.set_cons_succ]
              refine wpAnyH_take (i := 4) (oi := { dst := some 39, op := Go.Op.move (Go.Operand.tmp 0), type := 22, pos := "ref.go:49", after := #[], guard := none }) (v := ?v5) rfl (by kernel_rfl) (by kernel_rfl) (by kernel_rfl) (fun _ _ _ h => h) (Or.inl ⟨by kernel_rfl, ?h5⟩) (by assumption) ?r5
              case h5 => (intro w hSw; (try dsimp only at hSw); go_simp; try with_reducible rfl)
              try simp only [Act.put, List.setIfInBounds_toArray, List.set_cons_zero, List.set_cons_succ]
              refine wpAnyH_take (i := 5) (oi := { dst := some 40, op := Go.Op.move (Go.Operand.tmp 3), type := 3, pos := "ref.go:49", after := #[], guard := none }) (v := ?v6) rfl (by kernel_rfl) (by kernel_rfl) (by kernel_rfl) (fun _ _ _ h => h) (Or.inl ⟨by kernel_rfl, ?h6⟩) (by assumption) ?r6
              case h6 => (intro w hSw; (try dsimp only at hSw); go_simp; try with_reducible rfl)
              try simp only [Act.put, List.setIfInBounds_toArray, List.set_cons_zero, List.set_cons_succ]
              refine wpAnyH_take (i := 6) (oi := { dst := some 41, op := Go.Op.indexAddr 22 (Go.Operand.tmp 39) (Go.Operand.tmp 40), type := 0, pos := "ref.go:49", after := #[{ on := 4, ground := Go.Ground.data }, { on := 5, ground := Go.Ground.data }], guard := none }) (v := ?v7) rfl (by kernel_rfl) (by kernel_rfl) (by kernel_rfl) (fun _ _ _ h => h) (Or.inl ⟨by kernel_rfl, ?h7⟩) (by assumption) ?r7
              case h7 => (intro w hSw; (try dsimp only at hSw); go_simp; try with_reducible rfl)
              try simp only [Act.put, List.setIfInBounds_toArray, List.set_cons_zero, List.set_cons_succ]
              refine wpAnyH_take (i := 7) (oi := { dst := some 42, op := Go.Op.load 9 (Go.Operand.tmp 41), type := 9, pos := "ref.go:49", after := #[{ on := 6, ground := Go.Ground.data }], guard := none }) (v := ?v8) rfl (by kernel_rfl) (by kernel_rfl) (by kernel_rfl) (fun _ _ _ h => h) (Or.inl ⟨by kernel_rfl, ?h8⟩) (by assumption) ?r8
              case h8 => (intro w hSw; (try dsimp only at hSw); go_simp; try with_reducible rfl)
              try simp only [Act.put, List.setIfInBounds_toArray, List.set_cons_zero, List.set_cons_succ]
              refine wpAnyH_take (i := 8) (oi := { dst := some 43, op := Go.Op.binOp Go.BinOp.eql 9 (Go.Operand.tmp 38) (Go.Operand.tmp 42) 9, type := 4, pos := "ref.go:49", after := #[{ on := 3, ground := Go.Ground.data }, { on := 7, ground := Go.Ground.data }], guard := none }) (v := ?v9) rfl (by kernel_rfl) (by kernel_rfl) (by kernel_rfl) (fun _ _ _ h => h) (Or.inl ⟨by kernel_rfl, ?h9⟩) (by assumption) ?r9
              case h9 => (intro w hSw; (try dsimp only at hSw); go_simp; try with_reducible rfl)
              try simp only [Act.put, List.setIfInBounds_toArray, List.set_cons_zero, List.set_cons_succ]
              refine wpAnyH_done (by kernel_rfl) ?_ _
              clear g0 g1
              go_wp2
              go_ret
              exact ⟨ret_bool hf.out.symm, m2 + 1, rfl⟩
            · have hg := Lib.hid (hal3.out hus)
              have e5 : (u.toList == s.toList) = false := by rw [ptxt_eq]; exact decide_eq_false hus
              clear hhy' hal3 hus
              go_wp2
              refine wp_drawn_on (fun W => ∃ i, W = w.drewN i) (by kernel_rfl) (⟨m2 + 1, rfl⟩) (fun hHeld => ?_)
              refine wpAnyH_take (i := 0) (oi := { dst := some 35, op := Go.Op.move (Go.Operand.tmp 0), type := 22, pos := "ref.go:49", after := #[], guard := none }) (v := ?v10) rfl (by kernel_rfl) (by kernel_rfl) (by kernel_rfl) (fun _ _ _ h => h) (Or.inl ⟨by kernel_rfl, ?h10⟩) (by assumption) ?r10
              case h10 => (intro w hSw; (try dsimp only at hSw); go_simp; try with_reducible rfl)
              try simp only [Act.put, List.setIfInBounds_toArray, List.set_cons_zero, List.set_cons_succ]
              refine wpAnyH_take (i := 1) (oi := { dst := some 36, op := Go.Op.move (Go.Operand.tmp 4), type := 3, pos := "ref.go:49", after := #[], guard := none }) (v := ?v11) rfl (by kernel_rfl) (by kernel_rfl) (by kernel_rfl) (fun _ _ _ h => h) (Or.inl ⟨by kernel_rfl, ?h11⟩) (by assumption) ?r11
              case h11 => (intro w hSw; (try dsimp only at hSw); go_simp; try with_reducible rfl)
              try simp only [Act.put, List.setIfInBounds_toArray, List.set_cons_zero, List.set_cons_succ]
              refine wpAnyH_take (i := 2) (oi := { dst := some 37, op := Go.Op.indexAddr 22 (Go.Operand.tmp 35) (Go.Operand.tmp 36), type := 0, pos := "ref.go:49", after := #[{ on := 0, ground := Go.Ground.data }, { on := 1, ground := Go.Ground.data }], guard := none }) (v := ?v12) rfl (by kernel_rfl) (by kernel_rfl) (by kernel_rfl) (fun _ _ _ h => h) (Or.inl ⟨by kernel_rfl, ?h12⟩) (by assumption) ?r12
              case h12 => (intro w hSw; (try dsimp only at hSw); go_simp; try with_reducible rfl)
              try simp only [Act.put, List.setIfInBounds_toArray, List.set_cons_zero, List.set_cons_succ]
              refine wpAnyH_take (i := 3) (oi := { dst := some 38, op := Go.Op.load 9 (Go.Operand.tmp 37), type := 9, pos := "ref.go:49", after := #[{ on := 2, ground := Go.Ground.data }], guard := none }) (v := ?v13) rfl (by kernel_rfl) (by kernel_rfl) (by kernel_rfl) (fun _ _ _ h => h) (Or.inl ⟨by kernel_rfl, ?h13⟩) (by assumption) ?r13
              case h13 => (intro w hSw; (try dsimp only at hSw); go_simp; try with_reducible rfl)
              try simp only [Act.put, List.setIfInBounds_toArray, List.set_cons_zero, List.set_cons_succ]
              refine wpAnyH_take (i := 4) (oi := { dst := some 39, op := Go.Op.move (Go.Operand.tmp 0), type := 22, pos := "ref.go:49", after := #[], guard := none }) (v := ?v14) rfl (by kernel_rfl) (by kernel_rfl) (by kernel_rfl) (fun _ _ _ h => h) (Or.inl ⟨by kernel_rfl, ?h14⟩) (by assumption) ?r14
              case h14 => (intro w hSw; (try dsimp only at hSw); go_simp; try with_reducible rfl)
              try simp only [Act.put, List.setIfInBounds_toArray, List.set_cons_zero, List.set_cons_succ]
              refine wpAnyH_take (i := 5) (oi := { dst := some 40, op := Go.Op.move (Go.Operand.tmp 3), type := 3, pos := "ref.go:49", after := #[], guard := none }) (v := ?v15) rfl (by kernel_rfl) (by kernel_rfl) (by kernel_rfl) (fun _ _ _ h => h) (Or.inl ⟨by kernel_rfl, ?h15⟩) (by assumption) ?r15
              case h15 => (intro w hSw; (try dsimp only at hSw); go_simp; try with_reducible rfl)
              try simp only [Act.put, List.setIfInBounds_toArray, List.set_cons_zero, List.set_cons_succ]
              refine wpAnyH_take (i := 6) (oi := { dst := some 41, op := Go.Op.indexAddr 22 (Go.Operand.tmp 39) (Go.Operand.tmp 40), type := 0, pos := "ref.go:49", after := #[{ on := 4, ground := Go.Ground.data }, { on := 5, ground := Go.Ground.data }], guard := none }) (v := ?v16) rfl (by kernel_rfl) (by kernel_rfl) (by kernel_rfl) (fun _ _ _ h => h) (Or.inl ⟨by kernel_rfl, ?h16⟩) (by assumption) ?r16
              case h16 => (intro w hSw; (try dsimp only at hSw); go_simp; try with_reducible rfl)
              try simp only [Act.put, List.setIfInBounds_toArray, List.set_cons_zero, List.set_cons_succ]
              refine wpAnyH_take (i := 7) (oi := { dst := some 42, op := Go.Op.load 9 (Go.Operand.tmp 41), type := 9, pos := "ref.go:49", after := #[{ on := 6, ground := Go.Ground.data }], guard := none }) (v := ?v17) rfl (by kernel_rfl) (by kernel_rfl) (by kernel_rfl) (fun _ _ _ h => h) (Or.inl ⟨by kernel_rfl, ?h17⟩) (by assumption) ?r17
              case h17 => (intro w hSw; (try dsimp only at hSw); go_simp; try with_reducible rfl)
              try simp only [Act.put, List.setIfInBounds_toArray, List.set_cons_zero, List.set_cons_succ]
              refine wpAnyH_take (i := 8) (oi := { dst := some 43, op := Go.Op.binOp Go.BinOp.eql 9 (Go.Operand.tmp 38) (Go.Operand.tmp 42) 9, type := 4, pos := "ref.go:49", after := #[{ on := 3, ground := Go.Ground.data }, { on := 7, ground := Go.Ground.data }], guard := none }) (v := ?v18) rfl (by kernel_rfl) (by kernel_rfl) (by kernel_rfl) (fun _ _ _ h => h) (Or.inl ⟨by kernel_rfl, ?h18⟩) (by assumption) ?r18
              case h18 => (intro w hSw; (try dsimp only at hSw); go_simp; try with_reducible rfl)
              try simp only [Act.put, List.setIfInBounds_toArray, List.set_cons_zero, List.set_cons_succ]
              refine wpAnyH_done (by kernel_rfl) ?_ _
              clear g0 g1
              go_wp2
              go_roundw
              case rel => exact ⟨j + 1, m2 + 1, by omega, by go_num, hg, rfl⟩
              case measure => simp [intOf]; omega
          · have hji : ¬ (j : Int) < (k : Int) := by omega
            have hg := Lib.hid (hyes'.out (by rw [hv2.out, hhn.out (fun t ht => hal2.out t (by omega))]; rfl))
            clear hhn hhy hal2 hyes' hno' hv2
            go_wp2
            go_roundw
            case rel => exact ⟨k + 1, m2, by omega, by go_num, hg, rfl⟩
            case measure => simp [intOf]; omega
      · have hki : ¬ (k : Int) < (n : Int) := by omega
        have hf := Lib.hid (hyes.out (fun t ht => hal.out t (by rw [← hlen.out] at ht; omega)))
        clear hyes hno hal
        go_wp2
        go_ret
        exact ⟨ret_bool hf.out.symm, m, rfl⟩
  · have h8i : (8 : Int) < (n : Int) := by omega
    have hR := Lib.hid (vars_long (l := l) (by omega))
    clear h hn
    generalize varsB l = R at *
    go_enter Tryz.func23, Tryz.ntmps23
    go_wp2
    go_ret
    exact ⟨ret_bool hR.out.symm, 0, rfl⟩
end Go.Proofs.YtgeliikfgnkppaaGreatDoor
