/- wto: scan: what it shows, entry by entry; whether components lie where they must. (Written by gen-wto-scan.py.) -/
import Derived.Test.YtpbminoefmpmpaaDoorWtoOnce
namespace Go.Proofs.YtpbminoefmpmpaaDoor
open Go.RowKit
set_option linter.unusedVariables false
set_option linter.unusedSimpArgs false

/-- A call of the closure: what held of k entries holds of one more; nothing else changes but the blocks of X. -/
def CloS (Inv : Nat → Option Nat → World → Prop) (X : List Nat) (k : Nat) (q : Option Nat) (w : World) (e : Ending) (w' : World) : Prop :=
  e = .returned (.tuple #[]) ∧ Inv (k + 1) q w' ∧ BelowE X w.heap.size w w'
/-- What scan tells, and leaves. -/
def ScanE (Inv : Nat → Option Nat → World → Prop) (X : List Nat) (S : List Int) (w : World) (e : Ending) (w' : World) : Prop :=
  e = .returned (.bool (nestB S)) ∧ BelowE X w.heap.size w w' ∧ (nestB S = true → ∃ q, Inv S.length q w')
theorem nest_no {S : List Int} {k : Nat} (hk : k < S.length) (h : ¬ okA S k) : nestB S = false := decide_eq_false (fun hp => h (hp k hk))
theorem nest_yes {S : List Int} (h : preA S S.length) : nestB S = true := decide_eq_true h
/-- What holds of scan at the head of its loop, but for the two numbers. -/
structure ScanI (Inv : Nat → Option Nat → World → Prop) (X : List Nat) (w : World) (z : Array Value) (k : Nat) (h : List Nat) (a : Option Addr) (n c : Nat) (wr : World) : Prop where
  own : wr.ownsRow w.heap.size 3 1 (.slice a n c) n (nums .i64 (intsN h))
  inv : Inv k (Value.slice a n c).ownBlock wr
  bel : BelowE X w.heap.size w wr
  box : Holds wr w.heap.size 24 z
structure ScanH (Inv : Nat → Option Nat → World → Prop) (X : List Nat) (w : World) : Prop where
  low : ∀ x ∈ X, x < w.heap.size
  stay : ∀ k q q' W W', Inv k q W → BelowE q.toList W.heap.size W W' → (q' = q ∨ q' = some W.heap.size) → (∀ b, q = some b → w.heap.size ≤ b ∧ b < W.heap.size) → w.heap.size ≤ W.heap.size → Inv k q' W'
theorem ScanI.lt {Inv X w z k h a n c wr} (H : ScanI Inv X w z k h a n c wr) : w.heap.size < wr.heap.size := H.box.lt
theorem ScanI.len {Inv X w z k h a n c wr} (H : ScanI Inv X w z k h a n c wr) : n = h.length := by have := H.own.1; simp [nums, intsN] at this; omega
/-- Something was made. -/
theorem ScanI.made {Inv X w z k h a n c wr w'} (H : ScanI Inv X w z k h a n c wr) (hS : ScanH Inv X w) (hb : Below wr.heap.size wr w') : ScanI Inv X w z k h a n c w' :=
  ⟨own_below H.own hb, hS.stay _ _ _ _ _ H.inv (BelowE.of hb) (.inl rfl) (fun b hb => H.own.lt b hb) (Nat.le_of_lt H.lt), H.bel.trans ((BelowE.of hb).mono (Nat.le_of_lt H.lt)), H.box.below hb H.lt⟩
/-- The last one of the heads is taken away. -/
theorem ScanI.pop {Inv X w z k h i a n c wr} (H : ScanI Inv X w z k (h ++ [i]) a n c wr) : ScanI Inv X w z k h a h.length c wr := by
  have hl := H.len
  have o := own_cut H.own h.length (by simp at hl; omega)
  rw [show (intsN (h ++ [i])).take h.length = intsN h by rw [intsN_snoc, List.take_left' (intsN_len h)]] at o
  have hq : (Value.slice a n c).ownBlock = (Value.slice a h.length c).ownBlock := by cases a <;> rfl
  exact ⟨o, by rw [← hq]; exact H.inv, H.bel, H.box⟩
/-- One more. -/
theorem ScanI.push {Inv X w z k h i a n c wr w' v'} (H : ScanI Inv X w z k h a n c wr) (hS : ScanH Inv X w) (hown : w'.ownsRow 0 3 1 v' (intsN h ++ [(i : Int)]).length (nums .i64 (intsN h ++ [(i : Int)])))
    (hg : (wr.alloc (.cells #[.int .i64 (i : Nat)] 3)).grownBy w' (Value.slice a n c).ownBlock) (hb : v'.ownBlock = (Value.slice a n c).ownBlock ∨ v'.ownBlock = some (wr.alloc (.cells #[.int .i64 (i : Nat)] 3)).heap.size) :
    ∃ a' c', v' = .slice a' (n + 1) c' ∧ ScanI Inv X w z k (h ++ [i]) a' (n + 1) c' w' := by
  have hl := H.len
  have hlen : (intsN h ++ [(i : Int)]).length = n + 1 := by rw [List.length_append, intsN_len, ← hl]; rfl
  obtain ⟨a', c', rfl, -⟩ : ∃ a c, v' = .slice a (n + 1) c ∧ True := by
    obtain ⟨a', c', e, -, -⟩ := sees_own hown
    rw [hlen] at e
    exact ⟨a', c', e, trivial⟩
  have H1 := H.made hS (box_below wr #[.int .i64 (i : Nat)] 3)
  have low := H1.own.lt
  have g1 : BelowE (Value.slice a n c).ownBlock.toList (wr.alloc (.cells #[.int .i64 (i : Nat)] 3)).heap.size (wr.alloc (.cells #[.int .i64 (i : Nat)] 3)) w' :=
    ⟨hg.os, hg.tape, hg.output, hg.size, fun j hj hx => hg.block j hj (fun e => hx (by rw [← e]; simp))⟩
  refine ⟨a', c', rfl, ?_, hS.stay _ _ _ _ _ H1.inv g1 hb low (Nat.le_of_lt H1.lt), ?_, ?_⟩
  · rw [hlen] at hown
    rw [intsN_snoc]
    refine own_from hown (fun j hj => ?_)
    rcases hb with e | e
    · rw [e] at hj; exact (low j hj).1
    · rw [e] at hj
      have := H1.lt
      obtain rfl := Option.some.inj hj
      omega
  · exact H1.bel.trans (BelowE.less (g1.mono (Nat.le_of_lt H1.lt)) (fun x hx hlt => by
      have hq : (Value.slice a n c).ownBlock = some x := by simpa using hx
      have := (low x hq).1
      omega))
  · refine H1.box.belowE g1 H1.lt (fun hx => ?_)
    have hq : (Value.slice a n c).ownBlock = some w.heap.size := by simpa using hx
    have e := H1.own
    rcases e.2 with ⟨h1, h2⟩ | ⟨g, cap, cur, h1, h2, h3, h4⟩
    · injection h1 with h1; rw [h1] at hq; cases hq
    · injection h1 with h1
      rw [h1] at hq
      obtain rfl : g = w.heap.size := by simpa [Value.ownBlock] using hq
      have hx2 := H1.box
      unfold Holds at hx2
      rw [h3] at hx2
      injection hx2 with hx2
      injection hx2 with _ ht _
      cases ht
/-- The closure has been called. -/
theorem ScanI.call {Inv X w z k h a n c wr w'} (H : ScanI Inv X w z k h a n c wr) (hS : ScanH Inv X w) (hi : Inv (k + 1) (Value.slice a n c).ownBlock w') (hb : BelowE X wr.heap.size wr w') : ScanI Inv X w z (k + 1) h a n c w' :=
  ⟨own_belowE H.own hb (fun j hj hx => by have := hS.low j hx; have := (H.own.lt j hj).1; omega), hi, H.bel.trans (hb.mono (Nat.le_of_lt H.lt)), H.box.belowE hb H.lt (fun hx => by have := hS.low _ hx; omega)⟩
theorem ScanI.sl {Inv X w z k h a n c wr} (H : ScanI Inv X w z k h a n c wr) : SL wr a n c (intsN h) := by
  have hl := H.len
  have o := H.own
  obtain ⟨a', c', e, -, s⟩ := sees_own (l := intsN h) o
  injection e with e1 e2 e3
  subst e1
  refine ⟨by rw [intsN_len]; exact hl, own_cap o, ?_, s⟩
  rcases o.2 with ⟨h1, h2⟩ | ⟨g, cap, cur, h1, h2, h3, h4, h5, _⟩
  · omega
  · injection h1 with _ _ h1; unfold maxLen at h5; omega
def lenOf : Value → Nat
  | .slice _ n _ => n
  | _ => 0
set_option maxRecDepth 100000 in
set_option maxHeartbeats 4000000 in
theorem scan_check (gm : Nat) (a1 a2 : Option Addr) (n1 c1 n2 c2 : Nat) (S : List Int) (Inv : Nat → Option Nat → World → Prop) (X : List Nat) (w : World) (hlen : n2 = S.length) (hmax : n2 ≤ 128) (hcap : n2 ≤ c2) (hsee : SeesE X .i64 w.heap.size w a2 S)
    (hH : ScanH Inv X w) (h0 : Inv 0 none w)
    (hcl : ∀ k W a n c, k < S.length → Inv k (Value.slice a n c).ownBlock W → w.heap.size < W.heap.size → W.ownsRow w.heap.size 3 1 (.slice a n c) n (nums .i64 (intsN (hds S k))) → Calls Tryd.prog 25 #[.int .i64 (k : Nat), .slice a n c, .pointer (some ⟨gm, 0, none⟩)] W (CloS Inv X k (Value.slice a n c).ownBlock W)) :
    Calls Tryd.prog 24 #[.agg #[.slice a1 n1 c1, .slice a2 n2 c2], .func (.func 25) #[] #[.pointer (some ⟨gm, 0, none⟩)]] w (ScanE Inv X S w) := by
  obtain ⟨i0, hi, hz0, hz1, hz2⟩ := info_parts infoInt
  have hS := Lib.hid hH
  have hn2 := Lib.hid hlen
  have hc2 := Lib.hid hcap
  have hs2 := Lib.hid hsee
  have start : Hid (ScanI Inv X w #[.slice a1 n1 c1, .slice a2 n2 c2] 0 [] none 0 0 (w.alloc (.cells #[.slice a1 n1 c1, .slice a2 n2 c2] 24))) := Lib.hid ⟨World.ownsRow_nil _ _ _ _, hH.stay 0 none _ w _ h0 (.of (box_below w _ _)) (.inl rfl) (by simp) (Nat.le_refl _), .of (box_below w _ _), Holds.new w _ _⟩
  have hn2i : (n2 : Int) ≤ 128 := by omega
  have hEnd : Hid (endL S (lvl S 0) = (n2 : Int)) := Lib.hid (by rw [hlen]; rfl)
  clear hH h0 hlen hcap hsee
  go_enter Tryd.func24, Tryd.ntmps24
  go_wp2
  go_loopw [5, 6, 15] (fun v5 v6 x wr => ∃ (k : Nat) (a : Option Addr) (n c : Nat), k ≤ n2 ∧ x = .int .i64 k ∧ v5 = .slice a n c ∧ Hid (ScanI Inv X w #[.slice a1 n1 c1, .slice a2 n2 c2] k (lvl S k) a n c wr) ∧ v6 = .int .i64 (endL S (lvl S k)) ∧ Hid (preA S k)) (fun _ _ x _ => n2 - (intOf x).toNat)
  case atStart => exact ⟨0, none, 0, 0, by omega, rfl, rfl, start, by rw [hEnd.out], Lib.hid (fun j hj => by omega)⟩
  case round =>
    obtain ⟨k, a, nn, c, hk, rfl, rfl, H, rfl, hpre⟩ := hrel
    clear start hEnd
    by_cases hlt : k < n2
    · have hkS : k < S.length := by rw [← hn2.out]; exact hlt
      have hki : (k : Int) < (n2 : Int) := by omega
      have hse := hs2.out.belowE H.out.bel
      obtain ⟨b2, o2, rfl, hb2lt, e2⟩ := sees_num hse.sees hkS
      have hx2 : b2 ∉ X := by
        rcases hs2.out with h | ⟨b, o, h1, h2, h3, h4⟩
        · rw [h] at hkS; cases hkS
        · injection h1 with h1; injection h1 with h1; subst h1; exact h3
      clear hse
      obtain ⟨x, hx⟩ : ∃ x, x = S.getD k 0 := ⟨_, rfl⟩
      rw [← hx] at e2
      have hxH := Lib.hid hx
      clear hx
      go_wp2
      obtain ⟨E0, hE0⟩ : ∃ E0, E0 = endL S (lvl S k) := ⟨_, rfl⟩
      have hE0' := Lib.hid hE0
      rw [← hE0]
      clear hE0 e2 hb2lt hx2
      obtain ⟨wo, rfl⟩ : ∃ wo : World, wo = wr := ⟨_, rfl⟩
      go_loopw [5, 6] (fun v5 v6 wr => ∃ (h : List Nat) (a : Option Addr) (n c : Nat), v5 = .slice a n c ∧ Hid (ScanI Inv X w #[.slice a1 n1 c1, .slice (some ⟨b2, o2, none⟩) n2 c2] k h a n c wr) ∧ v6 = .int .i64 (endL S h) ∧ Hid (Pops S k h) ∧ h.length ≤ k) (fun v5 _ _ => lenOf v5)
      case atStart => exact ⟨lvl S k, a, nn, c, rfl, H, by rw [hE0'.out], Lib.hid (pops_start hpre.out), by unfold lvl; exact Nat.le_trans (List.length_filter_le _ _) (by simp)⟩
      case round =>
        clear H hE0' E0
        obtain ⟨h, a, nn, c, rfl, H, rfl, hP, hhk⟩ := hrel
        rcases List.eq_nil_or_concat h with rfl | ⟨h', j, rfl⟩
        · have hstk := pops_end hP.out (.inl rfl)
          have hnn0 : nn = 0 := by have := H.out.len; simpa using this
          rw [show endL S [] = endL S (stk S k) by rw [← hstk]]
          have H := Lib.hid (by have q := H.out; rw [hstk] at q; exact q)
          clear hP hstk hhk
          subst hnn0
          have hE := endL_le hpre.out hkS
          have hok := ok_iff hpre.out hkS
          have hE0 : endL S (stk S k) ≤ (n2 : Int) := by rw [hn2.out]; exact hE.2
          have hE1 : (k : Int) < endL S (stk S k) := hE.1
          have hnext := hds_eq S k
          have hEs := endL_snoc S (stk S k) k
          rw [← hxH.out] at hok hnext hEs
          replace hok := Lib.hid hok
          replace hnext := Lib.hid hnext
          replace hEs := Lib.hid hEs
          have hnn := Lib.hid H.out.len
          have hne : ((k : Int) == endL S (stk S k)) = false := by simp; omega
          have hlen2 := Lib.hid (show (stk S k).length ≤ k by unfold stk; exact Nat.le_trans (List.length_filter_le _ _) (by simp))
          have HB := Lib.hid (H.out.made hS.out (box_below wr #[.int .i64 (k : Nat)] 3))
          generalize hEe : endL S (stk S k) = E at *
          have hEe' := Lib.hid hEe
          clear hE hEe
          by_cases hok1 : okA S k
          · have hpre2 := Lib.hid (pre_succ.2 ⟨hpre.out, hok1⟩)
            obtain ⟨hx0, hx1⟩ := hok.out.1 hok1
            clear hok hok1
            by_cases hpos : 0 < x
            · have hds2 : Hid (hds S k = stk S k ++ [k]) := Lib.hid (by rw [hnext.out, if_pos hpos])
              have hEk : Hid (endL S (hds S k) = (k : Int) + x) := Lib.hid (by rw [hds2.out, hEs.out])
              have hxk : (k : Int) + x ≤ (n2 : Int) := by omega
              have hmy : (intsN (stk S k)).length = 0 := by rw [intsN_len]; exact hnn.out.symm
              have hmy' := Lib.hid hmy
              clear hnext hEs hmy
              go_wp2_with (at_builtin; refine wpList_append_foot _ rfl (.tmp 47) (.tmp 49) 22 rfl 3 i0 (.int .i64 0) 8 Tryd.underlying22 hi hz0 hz1 hz2 rfl .i64 _ (intsN (stk S k)) (by have o := own_zero HB.out.own; rw [hmy'.out]; exact o) _ _ [(k : Int)] (sees_new .i64 wr 3 [(k : Int)] _ rfl) 1 1 rfl rfl rfl (by have := hlen2.out; simp only [intsN_len, List.length_singleton]; unfold maxLen; omega) (by have := hlen2.out; simp only [intsN_len, List.length_singleton]; omega) ?_; intro v' w1 hown' hgrow hblk; obtain ⟨a1', c1', rfl, H1⟩ := H.out.push hS.out hown' hgrow hblk; rw [← hds2.out] at H1; have H' := Lib.hid H1; clear hown' hgrow hblk H1 H HB)
              have q := Lib.hid (hcl k _ _ _ _ hkS H'.out.inv H'.out.lt H'.out.own)
              go_wp2_with fail
              with_reducible refine q.out.mono ?_
              rintro e w2 ⟨rfl, hi2, hb2⟩
              have H2 := Lib.hid (H'.out.call hS.out hi2 hb2)
              clear q hi2 hb2 H'
              go_wp2
              go_roundw
              case rel => exact ⟨k + 1, _, _, _, by omega, by go_num, rfl, by rw [lvl_succ]; exact H2, by rw [lvl_succ, hEk.out], hpre2⟩
              case measure => simp [intOf]; omega
            · have hds2 : Hid (hds S k = stk S k) := Lib.hid (by rw [hnext.out, if_neg hpos, List.append_nil])
              have hEk : Hid (endL S (hds S k) = E) := Lib.hid (by rw [hds2.out, hEe'.out])
              have H' := H
              rw [← hds2.out] at H'
              clear hnext hEs H HB
              have q := Lib.hid (hcl k _ _ _ _ hkS H'.out.inv H'.out.lt H'.out.own)
              go_wp2_with fail
              with_reducible refine q.out.mono ?_
              rintro e w2 ⟨rfl, hi2, hb2⟩
              have H2 := Lib.hid (H'.out.call hS.out hi2 hb2)
              clear q hi2 hb2 H'
              go_wp2
              go_roundw
              case rel => exact ⟨k + 1, _, _, _, by omega, by go_num, rfl, by rw [lvl_succ]; exact H2, by rw [lvl_succ, hEk.out], hpre2⟩
              case measure => simp [intOf]; omega
          · have hno := Lib.hid (nest_no hkS hok1)
            have hbad : x < 0 ∨ E - k < x := by
              by_cases h : x < 0
              · exact .inl h
              · right
                by_cases h2 : E - k < x
                · exact h2
                · exact absurd (hok.out.2 ⟨by omega, by omega⟩) hok1
            have hfin := Lib.hid (show ScanE Inv X S w (.returned (.bool false)) wr from ⟨by rw [hno.out], H.out.bel, fun h => by rw [hno.out] at h; cases h⟩)
            clear hok hok1 hnext hEs hno H HB
            by_cases hx : x < 0
            · clear hbad
              go_wp2
              go_ret
              exact hfin.out
            · have hx2 : E - k < x := by omega
              clear hbad
              go_wp2
              go_ret
              exact hfin.out
        · rw [List.concat_eq_append] at *
          have hnl := H.out.len
          have hcap2 := own_cap H.out.own
          by_cases he : (j : Int) + S.getD j 0 = (k : Int)
          · have hP2 := Lib.hid (pops_step hP.out he)
            rw [show endL S (h' ++ [j]) = (k : Int) by rw [endL_snoc, he]]
            have H2 := Lib.hid H.out.pop
            have hm : nn = h'.length + 1 := by simpa using hnl
            have k1 := H.out.box.cell 0
            have k2 := H.out.box.cell 1
            have hq := Lib.hid (endof_any a1 (some ⟨b2, o2, none⟩) a n1 c1 n2 c2 h'.length c S h' wr ⟨hn2.out, hc2.out, by omega, (hs2.out.belowE H.out.bel).sees.mono (Nat.le_of_lt H.out.lt)⟩ H2.out.sl (fun x hx => by
              have hx2 := hP2.out.each x hx
              exact ⟨by omega, hx2.2.2.1, by have := hx2.2.2.2.1; omega⟩))
            have hml : h'.length ≤ k := by simp at hhk; omega
            have hmc : h'.length ≤ c := by omega
            clear hP hnl hcap2 he H hhk
            subst hm
            generalize hL : h'.length = m at *
            have hL' := Lib.hid hL
            clear hL
            have hmi : (m : Int) ≤ 1000 := by omega
            go_wp2_with fail
            with_reducible refine hq.out.mono ?_
            rintro e w3 ⟨rfl, hb3⟩
            have H3 := Lib.hid (H2.out.made hS.out hb3)
            clear hq hb3 H2 k1 k2
            go_wp2
            go_roundw
            case rel => exact ⟨h', a, m, c, rfl, H3, rfl, hP2, by rw [hL'.out]; exact hml⟩
            case measure => simp [lenOf]
          · have hstk := pops_end hP.out (.inr (by rw [endL_snoc]; exact he))
            have hnn0 : (0 : Int) < (nn : Int) := by simp at hnl; omega
            rw [hstk]
            have H := Lib.hid (by have q := H.out; rw [hstk] at q; exact q)
            clear hP hstk he hnl hcap2 hhk
            have hE := endL_le hpre.out hkS
            have hok := ok_iff hpre.out hkS
            have hE0 : endL S (stk S k) ≤ (n2 : Int) := by rw [hn2.out]; exact hE.2
            have hE1 : (k : Int) < endL S (stk S k) := hE.1
            have hnext := hds_eq S k
            have hEs := endL_snoc S (stk S k) k
            rw [← hxH.out] at hok hnext hEs
            replace hok := Lib.hid hok
            replace hnext := Lib.hid hnext
            replace hEs := Lib.hid hEs
            have hnn := Lib.hid H.out.len
            have hne : ((k : Int) == endL S (stk S k)) = false := by simp; omega
            have hlen2 := Lib.hid (show (stk S k).length ≤ k by unfold stk; exact Nat.le_trans (List.length_filter_le _ _) (by simp))
            have HB := Lib.hid (H.out.made hS.out (box_below wr #[.int .i64 (k : Nat)] 3))
            generalize hEe : endL S (stk S k) = E at *
            have hEe' := Lib.hid hEe
            clear hE hEe
            by_cases hok1 : okA S k
            · have hpre2 := Lib.hid (pre_succ.2 ⟨hpre.out, hok1⟩)
              obtain ⟨hx0, hx1⟩ := hok.out.1 hok1
              clear hok hok1
              by_cases hpos : 0 < x
              · have hds2 : Hid (hds S k = stk S k ++ [k]) := Lib.hid (by rw [hnext.out, if_pos hpos])
                have hEk : Hid (endL S (hds S k) = (k : Int) + x) := Lib.hid (by rw [hds2.out, hEs.out])
                have hxk : (k : Int) + x ≤ (n2 : Int) := by omega
                have hmy : (intsN (stk S k)).length = nn := by rw [intsN_len]; exact hnn.out.symm
                have hmy' := Lib.hid hmy
                clear hnext hEs hmy
                go_wp2_with (at_builtin; refine wpList_append_foot _ rfl (.tmp 47) (.tmp 49) 22 rfl 3 i0 (.int .i64 0) 8 Tryd.underlying22 hi hz0 hz1 hz2 rfl .i64 _ (intsN (stk S k)) (by have o := own_zero HB.out.own; rw [hmy'.out]; exact o) _ _ [(k : Int)] (sees_new .i64 wr 3 [(k : Int)] _ rfl) 1 1 rfl rfl rfl (by have := hlen2.out; simp only [intsN_len, List.length_singleton]; unfold maxLen; omega) (by have := hlen2.out; simp only [intsN_len, List.length_singleton]; omega) ?_; intro v' w1 hown' hgrow hblk; obtain ⟨a1', c1', rfl, H1⟩ := H.out.push hS.out hown' hgrow hblk; rw [← hds2.out] at H1; have H' := Lib.hid H1; clear hown' hgrow hblk H1 H HB)
                have q := Lib.hid (hcl k _ _ _ _ hkS H'.out.inv H'.out.lt H'.out.own)
                go_wp2_with fail
                with_reducible refine q.out.mono ?_
                rintro e w2 ⟨rfl, hi2, hb2⟩
                have H2 := Lib.hid (H'.out.call hS.out hi2 hb2)
                clear q hi2 hb2 H'
                go_wp2
                go_roundw
                case rel => exact ⟨k + 1, _, _, _, by omega, by go_num, rfl, by rw [lvl_succ]; exact H2, by rw [lvl_succ, hEk.out], hpre2⟩
                case measure => simp [intOf]; omega
              · have hds2 : Hid (hds S k = stk S k) := Lib.hid (by rw [hnext.out, if_neg hpos, List.append_nil])
                have hEk : Hid (endL S (hds S k) = E) := Lib.hid (by rw [hds2.out, hEe'.out])
                have H' := H
                rw [← hds2.out] at H'
                clear hnext hEs H HB
                have q := Lib.hid (hcl k _ _ _ _ hkS H'.out.inv H'.out.lt H'.out.own)
                go_wp2_with fail
                with_reducible refine q.out.mono ?_
                rintro e w2 ⟨rfl, hi2, hb2⟩
                have H2 := Lib.hid (H'.out.call hS.out hi2 hb2)
                clear q hi2 hb2 H'
                go_wp2
                go_roundw
                case rel => exact ⟨k + 1, _, _, _, by omega, by go_num, rfl, by rw [lvl_succ]; exact H2, by rw [lvl_succ, hEk.out], hpre2⟩
                case measure => simp [intOf]; omega
            · have hno := Lib.hid (nest_no hkS hok1)
              have hbad : x < 0 ∨ E - k < x := by
                by_cases h : x < 0
                · exact .inl h
                · right
                  by_cases h2 : E - k < x
                  · exact h2
                  · exact absurd (hok.out.2 ⟨by omega, by omega⟩) hok1
              have hfin := Lib.hid (show ScanE Inv X S w (.returned (.bool false)) wr from ⟨by rw [hno.out], H.out.bel, fun h => by rw [hno.out] at h; cases h⟩)
              clear hok hok1 hnext hEs hno H HB
              by_cases hx : x < 0
              · clear hbad
                go_wp2
                go_ret
                exact hfin.out
              · have hx2 : E - k < x := by omega
                clear hbad
                go_wp2
                go_ret
                exact hfin.out
    · obtain rfl : k = n2 := by omega
      have hy := Lib.hid (nest_yes (S := S) (by rw [← hn2.out]; exact hpre.out))
      have hfin := Lib.hid (show ScanE Inv X S w (.returned (.bool true)) wr from ⟨by rw [hy.out], H.out.bel, fun _ => ⟨_, by rw [← hn2.out]; exact H.out.inv⟩⟩)
      clear H hpre hy
      go_wp2
      go_ret
      exact hfin.out
set_option maxRecDepth 100000 in
set_option maxHeartbeats 4000000 in
theorem scan_depth (gm : Nat) (a1 a2 : Option Addr) (n1 c1 n2 c2 : Nat) (S : List Int) (Inv : Nat → Option Nat → World → Prop) (X : List Nat) (w : World) (hlen : n2 = S.length) (hmax : n2 ≤ 128) (hcap : n2 ≤ c2) (hsee : SeesE X .i64 w.heap.size w a2 S)
    (hH : ScanH Inv X w) (h0 : Inv 0 none w)
    (hcl : ∀ k W a n c, k < S.length → Inv k (Value.slice a n c).ownBlock W → w.heap.size < W.heap.size → W.ownsRow w.heap.size 3 1 (.slice a n c) n (nums .i64 (intsN (hds S k))) → Calls Tryd.prog 29 #[.int .i64 (k : Nat), .slice a n c, .pointer (some ⟨gm, 0, none⟩)] W (CloS Inv X k (Value.slice a n c).ownBlock W)) :
    Calls Tryd.prog 24 #[.agg #[.slice a1 n1 c1, .slice a2 n2 c2], .func (.func 29) #[] #[.pointer (some ⟨gm, 0, none⟩)]] w (ScanE Inv X S w) := by
  obtain ⟨i0, hi, hz0, hz1, hz2⟩ := info_parts infoInt
  have hS := Lib.hid hH
  have hn2 := Lib.hid hlen
  have hc2 := Lib.hid hcap
  have hs2 := Lib.hid hsee
  have start : Hid (ScanI Inv X w #[.slice a1 n1 c1, .slice a2 n2 c2] 0 [] none 0 0 (w.alloc (.cells #[.slice a1 n1 c1, .slice a2 n2 c2] 24))) := Lib.hid ⟨World.ownsRow_nil _ _ _ _, hH.stay 0 none _ w _ h0 (.of (box_below w _ _)) (.inl rfl) (by simp) (Nat.le_refl _), .of (box_below w _ _), Holds.new w _ _⟩
  have hn2i : (n2 : Int) ≤ 128 := by omega
  have hEnd : Hid (endL S (lvl S 0) = (n2 : Int)) := Lib.hid (by rw [hlen]; rfl)
  clear hH h0 hlen hcap hsee
  go_enter Tryd.func24, Tryd.ntmps24
  go_wp2
  go_loopw [5, 6, 15] (fun v5 v6 x wr => ∃ (k : Nat) (a : Option Addr) (n c : Nat), k ≤ n2 ∧ x = .int .i64 k ∧ v5 = .slice a n c ∧ Hid (ScanI Inv X w #[.slice a1 n1 c1, .slice a2 n2 c2] k (lvl S k) a n c wr) ∧ v6 = .int .i64 (endL S (lvl S k)) ∧ Hid (preA S k)) (fun _ _ x _ => n2 - (intOf x).toNat)
  case atStart => exact ⟨0, none, 0, 0, by omega, rfl, rfl, start, by rw [hEnd.out], Lib.hid (fun j hj => by omega)⟩
  case round =>
    obtain ⟨k, a, nn, c, hk, rfl, rfl, H, rfl, hpre⟩ := hrel
    clear start hEnd
    by_cases hlt : k < n2
    · have hkS : k < S.length := by rw [← hn2.out]; exact hlt
      have hki : (k : Int) < (n2 : Int) := by omega
      have hse := hs2.out.belowE H.out.bel
      obtain ⟨b2, o2, rfl, hb2lt, e2⟩ := sees_num hse.sees hkS
      have hx2 : b2 ∉ X := by
        rcases hs2.out with h | ⟨b, o, h1, h2, h3, h4⟩
        · rw [h] at hkS; cases hkS
        · injection h1 with h1; injection h1 with h1; subst h1; exact h3
      clear hse
      obtain ⟨x, hx⟩ : ∃ x, x = S.getD k 0 := ⟨_, rfl⟩
      rw [← hx] at e2
      have hxH := Lib.hid hx
      clear hx
      go_wp2
      obtain ⟨E0, hE0⟩ : ∃ E0, E0 = endL S (lvl S k) := ⟨_, rfl⟩
      have hE0' := Lib.hid hE0
      rw [← hE0]
      clear hE0 e2 hb2lt hx2
      obtain ⟨wo, rfl⟩ : ∃ wo : World, wo = wr := ⟨_, rfl⟩
      go_loopw [5, 6] (fun v5 v6 wr => ∃ (h : List Nat) (a : Option Addr) (n c : Nat), v5 = .slice a n c ∧ Hid (ScanI Inv X w #[.slice a1 n1 c1, .slice (some ⟨b2, o2, none⟩) n2 c2] k h a n c wr) ∧ v6 = .int .i64 (endL S h) ∧ Hid (Pops S k h) ∧ h.length ≤ k) (fun v5 _ _ => lenOf v5)
      case atStart => exact ⟨lvl S k, a, nn, c, rfl, H, by rw [hE0'.out], Lib.hid (pops_start hpre.out), by unfold lvl; exact Nat.le_trans (List.length_filter_le _ _) (by simp)⟩
      case round =>
        clear H hE0' E0
        obtain ⟨h, a, nn, c, rfl, H, rfl, hP, hhk⟩ := hrel
        rcases List.eq_nil_or_concat h with rfl | ⟨h', j, rfl⟩
        · have hstk := pops_end hP.out (.inl rfl)
          have hnn0 : nn = 0 := by have := H.out.len; simpa using this
          rw [show endL S [] = endL S (stk S k) by rw [← hstk]]
          have H := Lib.hid (by have q := H.out; rw [hstk] at q; exact q)
          clear hP hstk hhk
          subst hnn0
          have hE := endL_le hpre.out hkS
          have hok := ok_iff hpre.out hkS
          have hE0 : endL S (stk S k) ≤ (n2 : Int) := by rw [hn2.out]; exact hE.2
          have hE1 : (k : Int) < endL S (stk S k) := hE.1
          have hnext := hds_eq S k
          have hEs := endL_snoc S (stk S k) k
          rw [← hxH.out] at hok hnext hEs
          replace hok := Lib.hid hok
          replace hnext := Lib.hid hnext
          replace hEs := Lib.hid hEs
          have hnn := Lib.hid H.out.len
          have hne : ((k : Int) == endL S (stk S k)) = false := by simp; omega
          have hlen2 := Lib.hid (show (stk S k).length ≤ k by unfold stk; exact Nat.le_trans (List.length_filter_le _ _) (by simp))
          have HB := Lib.hid (H.out.made hS.out (box_below wr #[.int .i64 (k : Nat)] 3))
          generalize hEe : endL S (stk S k) = E at *
          have hEe' := Lib.hid hEe
          clear hE hEe
          by_cases hok1 : okA S k
          · have hpre2 := Lib.hid (pre_succ.2 ⟨hpre.out, hok1⟩)
            obtain ⟨hx0, hx1⟩ := hok.out.1 hok1
            clear hok hok1
            by_cases hpos : 0 < x
            · have hds2 : Hid (hds S k = stk S k ++ [k]) := Lib.hid (by rw [hnext.out, if_pos hpos])
              have hEk : Hid (endL S (hds S k) = (k : Int) + x) := Lib.hid (by rw [hds2.out, hEs.out])
              have hxk : (k : Int) + x ≤ (n2 : Int) := by omega
              have hmy : (intsN (stk S k)).length = 0 := by rw [intsN_len]; exact hnn.out.symm
              have hmy' := Lib.hid hmy
              clear hnext hEs hmy
              go_wp2_with (at_builtin; refine wpList_append_foot _ rfl (.tmp 47) (.tmp 49) 22 rfl 3 i0 (.int .i64 0) 8 Tryd.underlying22 hi hz0 hz1 hz2 rfl .i64 _ (intsN (stk S k)) (by have o := own_zero HB.out.own; rw [hmy'.out]; exact o) _ _ [(k : Int)] (sees_new .i64 wr 3 [(k : Int)] _ rfl) 1 1 rfl rfl rfl (by have := hlen2.out; simp only [intsN_len, List.length_singleton]; unfold maxLen; omega) (by have := hlen2.out; simp only [intsN_len, List.length_singleton]; omega) ?_; intro v' w1 hown' hgrow hblk; obtain ⟨a1', c1', rfl, H1⟩ := H.out.push hS.out hown' hgrow hblk; rw [← hds2.out] at H1; have H' := Lib.hid H1; clear hown' hgrow hblk H1 H HB)
              have q := Lib.hid (hcl k _ _ _ _ hkS H'.out.inv H'.out.lt H'.out.own)
              go_wp2_with fail
              with_reducible refine q.out.mono ?_
              rintro e w2 ⟨rfl, hi2, hb2⟩
              have H2 := Lib.hid (H'.out.call hS.out hi2 hb2)
              clear q hi2 hb2 H'
              go_wp2
              go_roundw
              case rel => exact ⟨k + 1, _, _, _, by omega, by go_num, rfl, by rw [lvl_succ]; exact H2, by rw [lvl_succ, hEk.out], hpre2⟩
              case measure => simp [intOf]; omega
            · have hds2 : Hid (hds S k = stk S k) := Lib.hid (by rw [hnext.out, if_neg hpos, List.append_nil])
              have hEk : Hid (endL S (hds S k) = E) := Lib.hid (by rw [hds2.out, hEe'.out])
              have H' := H
              rw [← hds2.out] at H'
              clear hnext hEs H HB
              have q := Lib.hid (hcl k _ _ _ _ hkS H'.out.inv H'.out.lt H'.out.own)
              go_wp2_with fail
              with_reducible refine q.out.mono ?_
              rintro e w2 ⟨rfl, hi2, hb2⟩
              have H2 := Lib.hid (H'.out.call hS.out hi2 hb2)
              clear q hi2 hb2 H'
              go_wp2
              go_roundw
              case rel => exact ⟨k + 1, _, _, _, by omega, by go_num, rfl, by rw [lvl_succ]; exact H2, by rw [lvl_succ, hEk.out], hpre2⟩
              case measure => simp [intOf]; omega
          · have hno := Lib.hid (nest_no hkS hok1)
            have hbad : x < 0 ∨ E - k < x := by
              by_cases h : x < 0
              · exact .inl h
              · right
                by_cases h2 : E - k < x
                · exact h2
                · exact absurd (hok.out.2 ⟨by omega, by omega⟩) hok1
            have hfin := Lib.hid (show ScanE Inv X S w (.returned (.bool false)) wr from ⟨by rw [hno.out], H.out.bel, fun h => by rw [hno.out] at h; cases h⟩)
            clear hok hok1 hnext hEs hno H HB
            by_cases hx : x < 0
            · clear hbad
              go_wp2
              go_ret
              exact hfin.out
            · have hx2 : E - k < x := by omega
              clear hbad
              go_wp2
              go_ret
              exact hfin.out
        · rw [List.concat_eq_append] at *
          have hnl := H.out.len
          have hcap2 := own_cap H.out.own
          by_cases he : (j : Int) + S.getD j 0 = (k : Int)
          · have hP2 := Lib.hid (pops_step hP.out he)
            rw [show endL S (h' ++ [j]) = (k : Int) by rw [endL_snoc, he]]
            have H2 := Lib.hid H.out.pop
            have hm : nn = h'.length + 1 := by simpa using hnl
            have k1 := H.out.box.cell 0
            have k2 := H.out.box.cell 1
            have hq := Lib.hid (endof_any a1 (some ⟨b2, o2, none⟩) a n1 c1 n2 c2 h'.length c S h' wr ⟨hn2.out, hc2.out, by omega, (hs2.out.belowE H.out.bel).sees.mono (Nat.le_of_lt H.out.lt)⟩ H2.out.sl (fun x hx => by
              have hx2 := hP2.out.each x hx
              exact ⟨by omega, hx2.2.2.1, by have := hx2.2.2.2.1; omega⟩))
            have hml : h'.length ≤ k := by simp at hhk; omega
            have hmc : h'.length ≤ c := by omega
            clear hP hnl hcap2 he H hhk
            subst hm
            generalize hL : h'.length = m at *
            have hL' := Lib.hid hL
            clear hL
            have hmi : (m : Int) ≤ 1000 := by omega
            go_wp2_with fail
            with_reducible refine hq.out.mono ?_
            rintro e w3 ⟨rfl, hb3⟩
            have H3 := Lib.hid (H2.out.made hS.out hb3)
            clear hq hb3 H2 k1 k2
            go_wp2
            go_roundw
            case rel => exact ⟨h', a, m, c, rfl, H3, rfl, hP2, by rw [hL'.out]; exact hml⟩
            case measure => simp [lenOf]
          · have hstk := pops_end hP.out (.inr (by rw [endL_snoc]; exact he))
            have hnn0 : (0 : Int) < (nn : Int) := by simp at hnl; omega
            rw [hstk]
            have H := Lib.hid (by have q := H.out; rw [hstk] at q; exact q)
            clear hP hstk he hnl hcap2 hhk
            have hE := endL_le hpre.out hkS
            have hok := ok_iff hpre.out hkS
            have hE0 : endL S (stk S k) ≤ (n2 : Int) := by rw [hn2.out]; exact hE.2
            have hE1 : (k : Int) < endL S (stk S k) := hE.1
            have hnext := hds_eq S k
            have hEs := endL_snoc S (stk S k) k
            rw [← hxH.out] at hok hnext hEs
            replace hok := Lib.hid hok
            replace hnext := Lib.hid hnext
            replace hEs := Lib.hid hEs
            have hnn := Lib.hid H.out.len
            have hne : ((k : Int) == endL S (stk S k)) = false := by simp; omega
            have hlen2 := Lib.hid (show (stk S k).length ≤ k by unfold stk; exact Nat.le_trans (List.length_filter_le _ _) (by simp))
            have HB := Lib.hid (H.out.made hS.out (box_below wr #[.int .i64 (k : Nat)] 3))
            generalize hEe : endL S (stk S k) = E at *
            have hEe' := Lib.hid hEe
            clear hE hEe
            by_cases hok1 : okA S k
            · have hpre2 := Lib.hid (pre_succ.2 ⟨hpre.out, hok1⟩)
              obtain ⟨hx0, hx1⟩ := hok.out.1 hok1
              clear hok hok1
              by_cases hpos : 0 < x
              · have hds2 : Hid (hds S k = stk S k ++ [k]) := Lib.hid (by rw [hnext.out, if_pos hpos])
                have hEk : Hid (endL S (hds S k) = (k : Int) + x) := Lib.hid (by rw [hds2.out, hEs.out])
                have hxk : (k : Int) + x ≤ (n2 : Int) := by omega
                have hmy : (intsN (stk S k)).length = nn := by rw [intsN_len]; exact hnn.out.symm
                have hmy' := Lib.hid hmy
                clear hnext hEs hmy
                go_wp2_with (at_builtin; refine wpList_append_foot _ rfl (.tmp 47) (.tmp 49) 22 rfl 3 i0 (.int .i64 0) 8 Tryd.underlying22 hi hz0 hz1 hz2 rfl .i64 _ (intsN (stk S k)) (by have o := own_zero HB.out.own; rw [hmy'.out]; exact o) _ _ [(k : Int)] (sees_new .i64 wr 3 [(k : Int)] _ rfl) 1 1 rfl rfl rfl (by have := hlen2.out; simp only [intsN_len, List.length_singleton]; unfold maxLen; omega) (by have := hlen2.out; simp only [intsN_len, List.length_singleton]; omega) ?_; intro v' w1 hown' hgrow hblk; obtain ⟨a1', c1', rfl, H1⟩ := H.out.push hS.out hown' hgrow hblk; rw [← hds2.out] at H1; have H' := Lib.hid H1; clear hown' hgrow hblk H1 H HB)
                have q := Lib.hid (hcl k _ _ _ _ hkS H'.out.inv H'.out.lt H'.out.own)
                go_wp2_with fail
                with_reducible refine q.out.mono ?_
                rintro e w2 ⟨rfl, hi2, hb2⟩
                have H2 := Lib.hid (H'.out.call hS.out hi2 hb2)
                clear q hi2 hb2 H'
                go_wp2
                go_roundw
                case rel => exact ⟨k + 1, _, _, _, by omega, by go_num, rfl, by rw [lvl_succ]; exact H2, by rw [lvl_succ, hEk.out], hpre2⟩
                case measure => simp [intOf]; omega
              · have hds2 : Hid (hds S k = stk S k) := Lib.hid (by rw [hnext.out, if_neg hpos, List.append_nil])
                have hEk : Hid (endL S (hds S k) = E) := Lib.hid (by rw [hds2.out, hEe'.out])
                have H' := H
                rw [← hds2.out] at H'
                clear hnext hEs H HB
                have q := Lib.hid (hcl k _ _ _ _ hkS H'.out.inv H'.out.lt H'.out.own)
                go_wp2_with fail
                with_reducible refine q.out.mono ?_
                rintro e w2 ⟨rfl, hi2, hb2⟩
                have H2 := Lib.hid (H'.out.call hS.out hi2 hb2)
                clear q hi2 hb2 H'
                go_wp2
                go_roundw
                case rel => exact ⟨k + 1, _, _, _, by omega, by go_num, rfl, by rw [lvl_succ]; exact H2, by rw [lvl_succ, hEk.out], hpre2⟩
                case measure => simp [intOf]; omega
            · have hno := Lib.hid (nest_no hkS hok1)
              have hbad : x < 0 ∨ E - k < x := by
                by_cases h : x < 0
                · exact .inl h
                · right
                  by_cases h2 : E - k < x
                  · exact h2
                  · exact absurd (hok.out.2 ⟨by omega, by omega⟩) hok1
              have hfin := Lib.hid (show ScanE Inv X S w (.returned (.bool false)) wr from ⟨by rw [hno.out], H.out.bel, fun h => by rw [hno.out] at h; cases h⟩)
              clear hok hok1 hnext hEs hno H HB
              by_cases hx : x < 0
              · clear hbad
                go_wp2
                go_ret
                exact hfin.out
              · have hx2 : E - k < x := by omega
                clear hbad
                go_wp2
                go_ret
                exact hfin.out
    · obtain rfl : k = n2 := by omega
      have hy := Lib.hid (nest_yes (S := S) (by rw [← hn2.out]; exact hpre.out))
      have hfin := Lib.hid (show ScanE Inv X S w (.returned (.bool true)) wr from ⟨by rw [hy.out], H.out.bel, fun _ => ⟨_, by rw [← hn2.out]; exact H.out.inv⟩⟩)
      clear H hpre hy
      go_wp2
      go_ret
      exact hfin.out
set_option maxRecDepth 100000 in
set_option maxHeartbeats 4000000 in
theorem scan_heads (gp gm gw : Nat) (a1 a2 : Option Addr) (n1 c1 n2 c2 : Nat) (S : List Int) (Inv : Nat → Option Nat → World → Prop) (X : List Nat) (w : World) (hlen : n2 = S.length) (hmax : n2 ≤ 128) (hcap : n2 ≤ c2) (hsee : SeesE X .i64 w.heap.size w a2 S)
    (hH : ScanH Inv X w) (h0 : Inv 0 none w)
    (hcl : ∀ k W a n c, k < S.length → Inv k (Value.slice a n c).ownBlock W → w.heap.size < W.heap.size → W.ownsRow w.heap.size 3 1 (.slice a n c) n (nums .i64 (intsN (hds S k))) → Calls Tryd.prog 28 #[.int .i64 (k : Nat), .slice a n c, .pointer (some ⟨gp, 0, none⟩), .pointer (some ⟨gm, 0, none⟩), .pointer (some ⟨gw, 0, none⟩)] W (CloS Inv X k (Value.slice a n c).ownBlock W)) :
    Calls Tryd.prog 24 #[.agg #[.slice a1 n1 c1, .slice a2 n2 c2], .func (.func 28) #[] #[.pointer (some ⟨gp, 0, none⟩), .pointer (some ⟨gm, 0, none⟩), .pointer (some ⟨gw, 0, none⟩)]] w (ScanE Inv X S w) := by
  obtain ⟨i0, hi, hz0, hz1, hz2⟩ := info_parts infoInt
  have hS := Lib.hid hH
  have hn2 := Lib.hid hlen
  have hc2 := Lib.hid hcap
  have hs2 := Lib.hid hsee
  have start : Hid (ScanI Inv X w #[.slice a1 n1 c1, .slice a2 n2 c2] 0 [] none 0 0 (w.alloc (.cells #[.slice a1 n1 c1, .slice a2 n2 c2] 24))) := Lib.hid ⟨World.ownsRow_nil _ _ _ _, hH.stay 0 none _ w _ h0 (.of (box_below w _ _)) (.inl rfl) (by simp) (Nat.le_refl _), .of (box_below w _ _), Holds.new w _ _⟩
  have hn2i : (n2 : Int) ≤ 128 := by omega
  have hEnd : Hid (endL S (lvl S 0) = (n2 : Int)) := Lib.hid (by rw [hlen]; rfl)
  clear hH h0 hlen hcap hsee
  go_enter Tryd.func24, Tryd.ntmps24
  go_wp2
  go_loopw [5, 6, 15] (fun v5 v6 x wr => ∃ (k : Nat) (a : Option Addr) (n c : Nat), k ≤ n2 ∧ x = .int .i64 k ∧ v5 = .slice a n c ∧ Hid (ScanI Inv X w #[.slice a1 n1 c1, .slice a2 n2 c2] k (lvl S k) a n c wr) ∧ v6 = .int .i64 (endL S (lvl S k)) ∧ Hid (preA S k)) (fun _ _ x _ => n2 - (intOf x).toNat)
  case atStart => exact ⟨0, none, 0, 0, by omega, rfl, rfl, start, by rw [hEnd.out], Lib.hid (fun j hj => by omega)⟩
  case round =>
    obtain ⟨k, a, nn, c, hk, rfl, rfl, H, rfl, hpre⟩ := hrel
    clear start hEnd
    by_cases hlt : k < n2
    · have hkS : k < S.length := by rw [← hn2.out]; exact hlt
      have hki : (k : Int) < (n2 : Int) := by omega
      have hse := hs2.out.belowE H.out.bel
      obtain ⟨b2, o2, rfl, hb2lt, e2⟩ := sees_num hse.sees hkS
      have hx2 : b2 ∉ X := by
        rcases hs2.out with h | ⟨b, o, h1, h2, h3, h4⟩
        · rw [h] at hkS; cases hkS
        · injection h1 with h1; injection h1 with h1; subst h1; exact h3
      clear hse
      obtain ⟨x, hx⟩ : ∃ x, x = S.getD k 0 := ⟨_, rfl⟩
      rw [← hx] at e2
      have hxH := Lib.hid hx
      clear hx
      go_wp2
      obtain ⟨E0, hE0⟩ : ∃ E0, E0 = endL S (lvl S k) := ⟨_, rfl⟩
      have hE0' := Lib.hid hE0
      rw [← hE0]
      clear hE0 e2 hb2lt hx2
      obtain ⟨wo, rfl⟩ : ∃ wo : World, wo = wr := ⟨_, rfl⟩
      go_loopw [5, 6] (fun v5 v6 wr => ∃ (h : List Nat) (a : Option Addr) (n c : Nat), v5 = .slice a n c ∧ Hid (ScanI Inv X w #[.slice a1 n1 c1, .slice (some ⟨b2, o2, none⟩) n2 c2] k h a n c wr) ∧ v6 = .int .i64 (endL S h) ∧ Hid (Pops S k h) ∧ h.length ≤ k) (fun v5 _ _ => lenOf v5)
      case atStart => exact ⟨lvl S k, a, nn, c, rfl, H, by rw [hE0'.out], Lib.hid (pops_start hpre.out), by unfold lvl; exact Nat.le_trans (List.length_filter_le _ _) (by simp)⟩
      case round =>
        clear H hE0' E0
        obtain ⟨h, a, nn, c, rfl, H, rfl, hP, hhk⟩ := hrel
        rcases List.eq_nil_or_concat h with rfl | ⟨h', j, rfl⟩
        · have hstk := pops_end hP.out (.inl rfl)
          have hnn0 : nn = 0 := by have := H.out.len; simpa using this
          rw [show endL S [] = endL S (stk S k) by rw [← hstk]]
          have H := Lib.hid (by have q := H.out; rw [hstk] at q; exact q)
          clear hP hstk hhk
          subst hnn0
          have hE := endL_le hpre.out hkS
          have hok := ok_iff hpre.out hkS
          have hE0 : endL S (stk S k) ≤ (n2 : Int) := by rw [hn2.out]; exact hE.2
          have hE1 : (k : Int) < endL S (stk S k) := hE.1
          have hnext := hds_eq S k
          have hEs := endL_snoc S (stk S k) k
          rw [← hxH.out] at hok hnext hEs
          replace hok := Lib.hid hok
          replace hnext := Lib.hid hnext
          replace hEs := Lib.hid hEs
          have hnn := Lib.hid H.out.len
          have hne : ((k : Int) == endL S (stk S k)) = false := by simp; omega
          have hlen2 := Lib.hid (show (stk S k).length ≤ k by unfold stk; exact Nat.le_trans (List.length_filter_le _ _) (by simp))
          have HB := Lib.hid (H.out.made hS.out (box_below wr #[.int .i64 (k : Nat)] 3))
          generalize hEe : endL S (stk S k) = E at *
          have hEe' := Lib.hid hEe
          clear hE hEe
          by_cases hok1 : okA S k
          · have hpre2 := Lib.hid (pre_succ.2 ⟨hpre.out, hok1⟩)
            obtain ⟨hx0, hx1⟩ := hok.out.1 hok1
            clear hok hok1
            by_cases hpos : 0 < x
            · have hds2 : Hid (hds S k = stk S k ++ [k]) := Lib.hid (by rw [hnext.out, if_pos hpos])
              have hEk : Hid (endL S (hds S k) = (k : Int) + x) := Lib.hid (by rw [hds2.out, hEs.out])
              have hxk : (k : Int) + x ≤ (n2 : Int) := by omega
              have hmy : (intsN (stk S k)).length = 0 := by rw [intsN_len]; exact hnn.out.symm
              have hmy' := Lib.hid hmy
              clear hnext hEs hmy
              go_wp2_with (at_builtin; refine wpList_append_foot _ rfl (.tmp 47) (.tmp 49) 22 rfl 3 i0 (.int .i64 0) 8 Tryd.underlying22 hi hz0 hz1 hz2 rfl .i64 _ (intsN (stk S k)) (by have o := own_zero HB.out.own; rw [hmy'.out]; exact o) _ _ [(k : Int)] (sees_new .i64 wr 3 [(k : Int)] _ rfl) 1 1 rfl rfl rfl (by have := hlen2.out; simp only [intsN_len, List.length_singleton]; unfold maxLen; omega) (by have := hlen2.out; simp only [intsN_len, List.length_singleton]; omega) ?_; intro v' w1 hown' hgrow hblk; obtain ⟨a1', c1', rfl, H1⟩ := H.out.push hS.out hown' hgrow hblk; rw [← hds2.out] at H1; have H' := Lib.hid H1; clear hown' hgrow hblk H1 H HB)
              have q := Lib.hid (hcl k _ _ _ _ hkS H'.out.inv H'.out.lt H'.out.own)
              go_wp2_with fail
              with_reducible refine q.out.mono ?_
              rintro e w2 ⟨rfl, hi2, hb2⟩
              have H2 := Lib.hid (H'.out.call hS.out hi2 hb2)
              clear q hi2 hb2 H'
              go_wp2
              go_roundw
              case rel => exact ⟨k + 1, _, _, _, by omega, by go_num, rfl, by rw [lvl_succ]; exact H2, by rw [lvl_succ, hEk.out], hpre2⟩
              case measure => simp [intOf]; omega
            · have hds2 : Hid (hds S k = stk S k) := Lib.hid (by rw [hnext.out, if_neg hpos, List.append_nil])
              have hEk : Hid (endL S (hds S k) = E) := Lib.hid (by rw [hds2.out, hEe'.out])
              have H' := H
              rw [← hds2.out] at H'
              clear hnext hEs H HB
              have q := Lib.hid (hcl k _ _ _ _ hkS H'.out.inv H'.out.lt H'.out.own)
              go_wp2_with fail
              with_reducible refine q.out.mono ?_
              rintro e w2 ⟨rfl, hi2, hb2⟩
              have H2 := Lib.hid (H'.out.call hS.out hi2 hb2)
              clear q hi2 hb2 H'
              go_wp2
              go_roundw
              case rel => exact ⟨k + 1, _, _, _, by omega, by go_num, rfl, by rw [lvl_succ]; exact H2, by rw [lvl_succ, hEk.out], hpre2⟩
              case measure => simp [intOf]; omega
          · have hno := Lib.hid (nest_no hkS hok1)
            have hbad : x < 0 ∨ E - k < x := by
              by_cases h : x < 0
              · exact .inl h
              · right
                by_cases h2 : E - k < x
                · exact h2
                · exact absurd (hok.out.2 ⟨by omega, by omega⟩) hok1
            have hfin := Lib.hid (show ScanE Inv X S w (.returned (.bool false)) wr from ⟨by rw [hno.out], H.out.bel, fun h => by rw [hno.out] at h; cases h⟩)
            clear hok hok1 hnext hEs hno H HB
            by_cases hx : x < 0
            · clear hbad
              go_wp2
              go_ret
              exact hfin.out
            · have hx2 : E - k < x := by omega
              clear hbad
              go_wp2
              go_ret
              exact hfin.out
        · rw [List.concat_eq_append] at *
          have hnl := H.out.len
          have hcap2 := own_cap H.out.own
          by_cases he : (j : Int) + S.getD j 0 = (k : Int)
          · have hP2 := Lib.hid (pops_step hP.out he)
            rw [show endL S (h' ++ [j]) = (k : Int) by rw [endL_snoc, he]]
            have H2 := Lib.hid H.out.pop
            have hm : nn = h'.length + 1 := by simpa using hnl
            have k1 := H.out.box.cell 0
            have k2 := H.out.box.cell 1
            have hq := Lib.hid (endof_any a1 (some ⟨b2, o2, none⟩) a n1 c1 n2 c2 h'.length c S h' wr ⟨hn2.out, hc2.out, by omega, (hs2.out.belowE H.out.bel).sees.mono (Nat.le_of_lt H.out.lt)⟩ H2.out.sl (fun x hx => by
              have hx2 := hP2.out.each x hx
              exact ⟨by omega, hx2.2.2.1, by have := hx2.2.2.2.1; omega⟩))
            have hml : h'.length ≤ k := by simp at hhk; omega
            have hmc : h'.length ≤ c := by omega
            clear hP hnl hcap2 he H hhk
            subst hm
            generalize hL : h'.length = m at *
            have hL' := Lib.hid hL
            clear hL
            have hmi : (m : Int) ≤ 1000 := by omega
            go_wp2_with fail
            with_reducible refine hq.out.mono ?_
            rintro e w3 ⟨rfl, hb3⟩
            have H3 := Lib.hid (H2.out.made hS.out hb3)
            clear hq hb3 H2 k1 k2
            go_wp2
            go_roundw
            case rel => exact ⟨h', a, m, c, rfl, H3, rfl, hP2, by rw [hL'.out]; exact hml⟩
            case measure => simp [lenOf]
          · have hstk := pops_end hP.out (.inr (by rw [endL_snoc]; exact he))
            have hnn0 : (0 : Int) < (nn : Int) := by simp at hnl; omega
            rw [hstk]
            have H := Lib.hid (by have q := H.out; rw [hstk] at q; exact q)
            clear hP hstk he hnl hcap2 hhk
            have hE := endL_le hpre.out hkS
            have hok := ok_iff hpre.out hkS
            have hE0 : endL S (stk S k) ≤ (n2 : Int) := by rw [hn2.out]; exact hE.2
            have hE1 : (k : Int) < endL S (stk S k) := hE.1
            have hnext := hds_eq S k
            have hEs := endL_snoc S (stk S k) k
            rw [← hxH.out] at hok hnext hEs
            replace hok := Lib.hid hok
            replace hnext := Lib.hid hnext
            replace hEs := Lib.hid hEs
            have hnn := Lib.hid H.out.len
            have hne : ((k : Int) == endL S (stk S k)) = false := by simp; omega
            have hlen2 := Lib.hid (show (stk S k).length ≤ k by unfold stk; exact Nat.le_trans (List.length_filter_le _ _) (by simp))
            have HB := Lib.hid (H.out.made hS.out (box_below wr #[.int .i64 (k : Nat)] 3))
            generalize hEe : endL S (stk S k) = E at *
            have hEe' := Lib.hid hEe
            clear hE hEe
            by_cases hok1 : okA S k
            · have hpre2 := Lib.hid (pre_succ.2 ⟨hpre.out, hok1⟩)
              obtain ⟨hx0, hx1⟩ := hok.out.1 hok1
              clear hok hok1
              by_cases hpos : 0 < x
              · have hds2 : Hid (hds S k = stk S k ++ [k]) := Lib.hid (by rw [hnext.out, if_pos hpos])
                have hEk : Hid (endL S (hds S k) = (k : Int) + x) := Lib.hid (by rw [hds2.out, hEs.out])
                have hxk : (k : Int) + x ≤ (n2 : Int) := by omega
                have hmy : (intsN (stk S k)).length = nn := by rw [intsN_len]; exact hnn.out.symm
                have hmy' := Lib.hid hmy
                clear hnext hEs hmy
                go_wp2_with (at_builtin; refine wpList_append_foot _ rfl (.tmp 47) (.tmp 49) 22 rfl 3 i0 (.int .i64 0) 8 Tryd.underlying22 hi hz0 hz1 hz2 rfl .i64 _ (intsN (stk S k)) (by have o := own_zero HB.out.own; rw [hmy'.out]; exact o) _ _ [(k : Int)] (sees_new .i64 wr 3 [(k : Int)] _ rfl) 1 1 rfl rfl rfl (by have := hlen2.out; simp only [intsN_len, List.length_singleton]; unfold maxLen; omega) (by have := hlen2.out; simp only [intsN_len, List.length_singleton]; omega) ?_; intro v' w1 hown' hgrow hblk; obtain ⟨a1', c1', rfl, H1⟩ := H.out.push hS.out hown' hgrow hblk; rw [← hds2.out] at H1; have H' := Lib.hid H1; clear hown' hgrow hblk H1 H HB)
                have q := Lib.hid (hcl k _ _ _ _ hkS H'.out.inv H'.out.lt H'.out.own)
                go_wp2_with fail
                with_reducible refine q.out.mono ?_
                rintro e w2 ⟨rfl, hi2, hb2⟩
                have H2 := Lib.hid (H'.out.call hS.out hi2 hb2)
                clear q hi2 hb2 H'
                go_wp2
                go_roundw
                case rel => exact ⟨k + 1, _, _, _, by omega, by go_num, rfl, by rw [lvl_succ]; exact H2, by rw [lvl_succ, hEk.out], hpre2⟩
                case measure => simp [intOf]; omega
              · have hds2 : Hid (hds S k = stk S k) := Lib.hid (by rw [hnext.out, if_neg hpos, List.append_nil])
                have hEk : Hid (endL S (hds S k) = E) := Lib.hid (by rw [hds2.out, hEe'.out])
                have H' := H
                rw [← hds2.out] at H'
                clear hnext hEs H HB
                have q := Lib.hid (hcl k _ _ _ _ hkS H'.out.inv H'.out.lt H'.out.own)
                go_wp2_with fail
                with_reducible refine q.out.mono ?_
                rintro e w2 ⟨rfl, hi2, hb2⟩
                have H2 := Lib.hid (H'.out.call hS.out hi2 hb2)
                clear q hi2 hb2 H'
                go_wp2
                go_roundw
                case rel => exact ⟨k + 1, _, _, _, by omega, by go_num, rfl, by rw [lvl_succ]; exact H2, by rw [lvl_succ, hEk.out], hpre2⟩
                case measure => simp [intOf]; omega
            · have hno := Lib.hid (nest_no hkS hok1)
              have hbad : x < 0 ∨ E - k < x := by
                by_cases h : x < 0
                · exact .inl h
                · right
                  by_cases h2 : E - k < x
                  · exact h2
                  · exact absurd (hok.out.2 ⟨by omega, by omega⟩) hok1
              have hfin := Lib.hid (show ScanE Inv X S w (.returned (.bool false)) wr from ⟨by rw [hno.out], H.out.bel, fun h => by rw [hno.out] at h; cases h⟩)
              clear hok hok1 hnext hEs hno H HB
              by_cases hx : x < 0
              · clear hbad
                go_wp2
                go_ret
                exact hfin.out
              · have hx2 : E - k < x := by omega
                clear hbad
                go_wp2
                go_ret
                exact hfin.out
    · obtain rfl : k = n2 := by omega
      have hy := Lib.hid (nest_yes (S := S) (by rw [← hn2.out]; exact hpre.out))
      have hfin := Lib.hid (show ScanE Inv X S w (.returned (.bool true)) wr from ⟨by rw [hy.out], H.out.bel, fun _ => ⟨_, by rw [← hn2.out]; exact H.out.inv⟩⟩)
      clear H hpre hy
      go_wp2
      go_ret
      exact hfin.out
end Go.Proofs.YtpbminoefmpmpaaDoor
